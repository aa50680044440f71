/- The turned board: the reference's. No conditions. -/
import Derived.Test.YtgogjjkecbgbiaaOwn4
import Derived.Test.YtgogjjkecbgbiaaSpec4
import Derived.Test.YtgogjjkecbgbiaaSide4
import Derived.Deep.RegionHeld3
import Derived.Deep.AppendLies
import Derived.IntWalk
namespace Go.Proofs.Ytgogjjkecbgbiaa
open Go.Joins Go.ChangeShapes Go.WideShapes Go.ChangeAt Go.RowKit Go.Deep
set_option linter.unusedVariables false

/-- The pits of the turned board. -/
def turnL (P : Nat) (xs : List Int) : List Int := xs.drop P ++ xs.take P
theorem turnL_len {P : Nat} {xs : List Int} (h : xs.length = 2 * P) : (turnL P xs).length = 2 * P := by
  unfold turnL
  rw [List.length_append, List.length_drop, List.length_take]
  omega
theorem two_of {ys : List Int} (h : ys.length = 2) : ∃ a b, ys = [a, b] := by
  match ys, h with
  | [a, b], _ => exact ⟨a, b, rfl⟩

end Go.Proofs.Ytgogjjkecbgbiaa
