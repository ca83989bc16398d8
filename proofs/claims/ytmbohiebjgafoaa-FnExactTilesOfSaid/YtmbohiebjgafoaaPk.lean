import Derived.Test.YtmbohiebjgafoaaPl
import Derived.Test.YtmbohiebjgafoaaPn
import Derived.Test.YtmbohiebjgafoaaPi
set_option linter.unusedVariables false
set_option linter.unusedSimpArgs false
namespace Go.Proofs.Ytmbohiebjgafoaa
open Go.FX Go.RowKit Go.WideShapes Go.ChangeShapes


end Go.Proofs.Ytmbohiebjgafoaa
