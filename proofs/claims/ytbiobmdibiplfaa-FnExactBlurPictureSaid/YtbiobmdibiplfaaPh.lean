import Derived.Test.YtbiobmdibiplfaaPl
import Derived.Test.YtbiobmdibiplfaaPi
import Derived.Test.YtbiobmdibiplfaaPq
import Derived.Test.YtbiobmdibiplfaaRc
import Derived.IntWalk
set_option linter.unusedVariables false
set_option linter.unusedSimpArgs false
namespace Go.Proofs.Ytbiobmdibiplfaa
open Go.FX Go.RowKit Go.WideShapes Go.ChangeShapes

end Go.Proofs.Ytbiobmdibiplfaa
