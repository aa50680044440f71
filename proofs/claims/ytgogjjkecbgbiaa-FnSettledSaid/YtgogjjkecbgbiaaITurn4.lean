/- The turned board: the program's. No conditions. -/
import Derived.Test.YtgogjjkecbgbiaaTurn4
import Derived.Test.YtgogjjkecbgbiaaSl4
import Derived.Test.YtgogjjkecbgbiaaPosZ
namespace Go.Proofs.Ytgogjjkecbgbiaa
open Go.Joins Go.ChangeShapes Go.WideShapes Go.ChangeAt Go.RowKit Go.Deep
set_option linter.unusedVariables false

set_option maxHeartbeats 1000000 in
theorem side0_at (P : Nat) (s c l : Int) (st sk re fe ag : Bool) (g o : Nat) (p2 : Option Addr) (pc1 pn2 pc2 : Nat) (pp : Int) (w : World) (hP : 2 ≤ P) (hP2 : P ≤ 8) (hc : 2 * P ≤ pc1) :
    Calls Try.prog 41 #[.agg #[.slice (some ⟨g, o, none⟩) (2 * P) pc1, .slice p2 pn2 pc2, .int .i64 pp], .agg #[.int .i64 P, .int .i64 s, .bool st, .bool sk, .bool re, .bool fe, .bool ag, .int .i64 c, .int .i64 l], .int .i64 0] w
      fun e w' => e = .returned (.slice (some ⟨g, o, none⟩) P (pc1)) ∧ Below w.heap.size w w' := by
  have BB := Lib.hid (((Below.refl w.heap.size w).alloc (Nat.le_refl _) (.cells #[.slice (some ⟨g, o, none⟩) (2 * P) pc1, .slice p2 pn2 pc2, .int .i64 pp] 28)).alloc (by simp) (.cells #[.int .i64 P, .int .i64 s, .bool st, .bool sk, .bool re, .bool fe, .bool ag, .int .i64 c, .int .i64 l] 25))
  have HE : Hid (2 * P - P = P) := Lib.hid (by omega)
  go_enter Try.func41, Try.ntmps41
  go_wp2
  go_ret
  refine ⟨?_, BB.out⟩
  first
  | rfl
  | (show Ending.returned (.slice (some ⟨g, o + P, none⟩) (2 * P - P) (pc1 - P)) = _
     rw [HE.out])
set_option maxHeartbeats 1000000 in
theorem side1_at (P : Nat) (s c l : Int) (st sk re fe ag : Bool) (g o : Nat) (p2 : Option Addr) (pc1 pn2 pc2 : Nat) (pp : Int) (w : World) (hP : 2 ≤ P) (hP2 : P ≤ 8) (hc : 2 * P ≤ pc1) :
    Calls Try.prog 41 #[.agg #[.slice (some ⟨g, o, none⟩) (2 * P) pc1, .slice p2 pn2 pc2, .int .i64 pp], .agg #[.int .i64 P, .int .i64 s, .bool st, .bool sk, .bool re, .bool fe, .bool ag, .int .i64 c, .int .i64 l], .int .i64 1] w
      fun e w' => e = .returned (.slice (some ⟨g, o + P, none⟩) P (pc1 - P)) ∧ Below w.heap.size w w' := by
  have BB := Lib.hid (((Below.refl w.heap.size w).alloc (Nat.le_refl _) (.cells #[.slice (some ⟨g, o, none⟩) (2 * P) pc1, .slice p2 pn2 pc2, .int .i64 pp] 28)).alloc (by simp) (.cells #[.int .i64 P, .int .i64 s, .bool st, .bool sk, .bool re, .bool fe, .bool ag, .int .i64 c, .int .i64 l] 25))
  have HE : Hid (2 * P - P = P) := Lib.hid (by omega)
  go_enter Try.func41, Try.ntmps41
  go_wp2
  go_ret
  refine ⟨?_, BB.out⟩
  first
  | rfl
  | (show Ending.returned (.slice (some ⟨g, o + P, none⟩) (2 * P - P) (pc1 - P)) = _
     rw [HE.out])
end Go.Proofs.Ytgogjjkecbgbiaa
