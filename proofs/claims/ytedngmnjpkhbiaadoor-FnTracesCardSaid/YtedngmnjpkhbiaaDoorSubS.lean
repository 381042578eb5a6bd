/- The specification's lowered trace. -/
import Derived.Test.YtedngmnjpkhbiaaDoorSub
import Derived.Deep.RegionLaw
namespace Go.Proofs.YtedngmnjpkhbiaaDoor
open Go.ChangeShapes Go.WideShapes Go.ChangeAt Go.RowKit Go.ChangeMaps
set_option linter.unusedSimpArgs false
set_option linter.unusedVariables false
end Go.Proofs.YtedngmnjpkhbiaaDoor
