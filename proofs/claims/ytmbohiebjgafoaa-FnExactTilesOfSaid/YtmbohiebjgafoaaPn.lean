import Derived.Test.YtmbohiebjgafoaaPl
set_option linter.unusedVariables false
set_option linter.unusedSimpArgs false
namespace Go.Proofs.Ytmbohiebjgafoaa
open Go.FX Go.RowKit Go.WideShapes Go.ChangeShapes






end Go.Proofs.Ytmbohiebjgafoaa
