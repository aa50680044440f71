/- TurnPosition: what both give. No conditions. -/
import Derived.Test.YtgogjjkecbgbiaaITurn4
namespace Go.Proofs.Ytgogjjkecbgbiaa
open Go.Joins Go.ChangeShapes Go.WideShapes Go.ChangeAt Go.RowKit Go.Deep
set_option linter.unusedVariables false

end Go.Proofs.Ytgogjjkecbgbiaa
