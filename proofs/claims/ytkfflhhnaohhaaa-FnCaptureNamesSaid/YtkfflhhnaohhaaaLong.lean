/- The laws' own test of lengths. No conditions. -/
import Derived.Test.YtkfflhhnaohhaaaOpen
namespace Go.Proofs.Ytkfflhhnaohhaaa
open Go.Joins Go.ChangeShapes Go.WideShapes Go.ChangeAt Go.RowKit Go.Deep
set_option linter.unusedVariables false
theorem long_any (a1 a2 : Option Addr) (l1 c1 l2 c2 : Nat) (r : Bool) (h : (decide (3000 < l1) || decide (3000 < l2)) = r) (h1 : l1 ≤ 9223372036854775807) (h2 : l2 ≤ 9223372036854775807) (w : World) :
    Calls Try.prog 4 #[.slice a1 l1 c1, .slice a2 l2 c2] w fun e w' => e = .returned (.bool r) ∧ w = w' := by
  subst h
  by_cases e1 : 3000 < l1
  · have g1 : (3000 : Int) < (l1 : Int) := by omega
    go_enter Try.func4, Try.ntmps4
    go_wp2
    go_ret
    exact ⟨by simp [e1], rfl⟩
  · have g1 : ¬ (3000 : Int) < (l1 : Int) := by omega
    go_enter Try.func4, Try.ntmps4
    go_wp2
    all_goals
      go_ret
      exact ⟨by simp; try omega, rfl⟩
end Go.Proofs.Ytkfflhhnaohhaaa
