/- The specification's cut. -/
import Derived.Test.YtebclgbandoolaaCut
namespace Go.Proofs.Ytebclgbandoolaa
open Go.ChangeShapes Go.WideShapes Go.ChangeAt Go.RowKit Go.ChangeMaps
set_option linter.unusedSimpArgs false
set_option linter.unusedVariables false
end Go.Proofs.Ytebclgbandoolaa
