/- TurnPosition: what both give. No conditions. -/
import Derived.Test.YtipmhddkdmagnaaITurn4
namespace Go.Proofs.Ytipmhddkdmagnaa
open Go.Joins Go.ChangeShapes Go.WideShapes Go.ChangeAt Go.RowKit Go.Deep
set_option linter.unusedVariables false

end Go.Proofs.Ytipmhddkdmagnaa
