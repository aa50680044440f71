/- The position at the beginning: the reference's. No conditions. -/
import Derived.Test.YtmngmbpdiaocjaaView4
import Derived.Test.YtmngmbpdiaocjaaTurn4
import Derived.Deep.DeepCutAuto
namespace Go.Proofs.Ytmngmbpdiaocjaa
open Go.Joins Go.ChangeShapes Go.WideShapes Go.ChangeAt Go.RowKit Go.Deep
set_option linter.unusedVariables false

end Go.Proofs.Ytmngmbpdiaocjaa
