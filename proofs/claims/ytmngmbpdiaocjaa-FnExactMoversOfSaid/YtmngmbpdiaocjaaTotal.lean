/- The number of all seeds: TotalSeeds of the reference and of the program. No conditions. -/
import Derived.Test.YtmngmbpdiaocjaaCh2
import Derived.IntWalk
import Derived.Deep.RegionWith
namespace Go.Proofs.Ytmngmbpdiaocjaa
open Go.Joins Go.ChangeShapes Go.WideShapes Go.ChangeAt Go.RowKit Go.Deep
set_option linter.unusedVariables false

/-- The number of all seeds. -/
def totV (ok : Bool) (v : Int) : Int := if ok then v else 0
def totC (ok : Bool) : Int := if ok then 0 else 1
end Go.Proofs.Ytmngmbpdiaocjaa
