import Derived.Test.YtnbilmlpngcobaaPl
import Derived.Test.YtnbilmlpngcobaaPn
import Derived.Test.YtnbilmlpngcobaaPi
set_option linter.unusedVariables false
set_option linter.unusedSimpArgs false
namespace Go.Proofs.Ytnbilmlpngcobaa
open Go.FX Go.RowKit Go.WideShapes Go.ChangeShapes


end Go.Proofs.Ytnbilmlpngcobaa
