import Derived.Test.YthnidpmolafmaaaPl
set_option linter.unusedVariables false
set_option linter.unusedSimpArgs false
namespace Go.Proofs.Ythnidpmolafmaaa
open Go.FX Go.RowKit Go.WideShapes Go.ChangeShapes






end Go.Proofs.Ythnidpmolafmaaa
