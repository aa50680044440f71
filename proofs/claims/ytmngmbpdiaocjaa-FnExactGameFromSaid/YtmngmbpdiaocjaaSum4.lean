/- Sums over the pits: the program's and the reference's. No conditions. -/
import Derived.Test.YtmngmbpdiaocjaaSpec4
import Derived.Test.YtmngmbpdiaocjaaValid4
import Derived.Test.YtmngmbpdiaocjaaSumO
namespace Go.Proofs.Ytmngmbpdiaocjaa
open Go.Joins Go.ChangeShapes Go.WideShapes Go.ChangeAt Go.RowKit Go.Deep
set_option linter.unusedVariables false


/-- The seeds in all pits. -/
def onV (k : Bool) (t : Int) : Int := if k then t else 0
def onC (k : Bool) : Int := if k then 0 else 1
end Go.Proofs.Ytmngmbpdiaocjaa
