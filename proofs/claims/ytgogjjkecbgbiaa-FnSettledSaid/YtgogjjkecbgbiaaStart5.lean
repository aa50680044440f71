/- The position at the beginning: the reference's and the program's. No conditions. -/
import Derived.Test.YtgogjjkecbgbiaaStart4
import Derived.Test.YtgogjjkecbgbiaaRep4
namespace Go.Proofs.Ytgogjjkecbgbiaa
open Go.Joins Go.ChangeShapes Go.WideShapes Go.ChangeAt Go.RowKit Go.Deep
set_option linter.unusedVariables false

/-- Rules, boxed. -/
def RoAt (w : World) (p s c l : Int) (st sk re fe ag : Bool) (u : World) : Prop := RuAt u w.heap.size p s c l st sk re fe ag ∧ OnW w u
section
variable {w u v : World} {p s c l : Int} {st sk re fe ag : Bool}
theorem RoAt.below (h : RoAt w p s c l st sk re fe ag u) (k : Below u.heap.size u v) : RoAt w p s c l st sk re fe ag v := ⟨h.1.below k, h.2.below k⟩
theorem RoAt.drew (h : RoAt w p s c l st sk re fe ag u) : RoAt w p s c l st sk re fe ag u.drew := ⟨h.1, h.2.drew⟩
theorem RoAt.set3 (h : RoAt w p s c l st sk re fe ag u) {z : Nat} (hz : w.heap.size < z) (x y t : Value) : RoAt w p s c l st sk re fe ag (((u.setCell ⟨z, 0, none⟩ x).setCell ⟨z, 1, none⟩ y).setCell ⟨z, 2, none⟩ t) := by
  have k : But z u (((u.setCell ⟨z, 0, none⟩ x).setCell ⟨z, 1, none⟩ y).setCell ⟨z, 2, none⟩ t) := ((((But.refl z u).setCell (p := ⟨z, 0, none⟩) rfl x).setCell (p := ⟨z, 1, none⟩) rfl y).setCell (p := ⟨z, 2, none⟩) rfl t)
  exact ⟨h.1.but k (by omega), h.2.set3 (by omega) _ _ _⟩
end
theorem ro_new (p s c l : Int) (st sk re fe ag : Bool) (w : World) (T : TypeId) : RoAt w p s c l st sk re fe ag (w.alloc (.cells #[.int .i64 p, .int .i64 s, .bool st, .bool sk, .bool re, .bool fe, .bool ag, .int .i64 c, .int .i64 l] T)) := ⟨ru_new p s c l st sk re fe ag w T, al1 _ _⟩
theorem zero_at1 (p s c l : Int) (st sk re fe ag : Bool) (w : World) (T U : TypeId) : ZeroP ((w.alloc (.cells #[.int .i64 p, .int .i64 s, .bool st, .bool sk, .bool re, .bool fe, .bool ag, .int .i64 c, .int .i64 l] T)).alloc (.cells #[.slice none 0 0, .slice none 0 0, .int .i64 0] U)) (w.heap.size + 1) := by
  have h := zero_new (w.alloc (.cells #[.int .i64 p, .int .i64 s, .bool st, .bool sk, .bool re, .bool fe, .bool ag, .int .i64 c, .int .i64 l] T)) U
  rwa [show (w.alloc (.cells #[.int .i64 p, .int .i64 s, .bool st, .bool sk, .bool re, .bool fe, .bool ag, .int .i64 c, .int .i64 l] T)).heap.size = w.heap.size + 1 by simp] at h

end Go.Proofs.Ytgogjjkecbgbiaa
