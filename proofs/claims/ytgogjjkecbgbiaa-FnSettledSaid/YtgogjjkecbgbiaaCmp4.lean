/- The order of positions: what the reference and the program answer. No conditions. -/
import Derived.Test.YtgogjjkecbgbiaaBox4
import Derived.Test.YtgogjjkecbgbiaaStep
import Derived.Deep.RegionHeld3
namespace Go.Proofs.Ytgogjjkecbgbiaa
open Go.Joins Go.ChangeShapes Go.WideShapes Go.ChangeAt Go.RowKit Go.Deep
set_option linter.unusedVariables false

/-- The order of two rows: number by number, a beginning first. -/
def cmpL : List Int → List Int → Int
  | [], [] => 0
  | [], _ :: _ => -1
  | _ :: _, [] => 1
  | x :: r, y :: q => if x < y then -1 else if y < x then 1 else cmpL r q
theorem cmpL_lt {xs ys : List Int} {k : Nat} {x y : Int} (hx : xs[k]? = some x) (hy : ys[k]? = some y) (h : x < y) : cmpL (xs.drop k) (ys.drop k) = -1 := by
  have hlx := (List.getElem?_eq_some_iff.1 hx).1
  have hly := (List.getElem?_eq_some_iff.1 hy).1
  rw [List.drop_eq_getElem_cons hlx, List.drop_eq_getElem_cons hly, (List.getElem?_eq_some_iff.1 hx).2, (List.getElem?_eq_some_iff.1 hy).2, cmpL, if_pos h]
theorem cmpL_gt {xs ys : List Int} {k : Nat} {x y : Int} (hx : xs[k]? = some x) (hy : ys[k]? = some y) (h : y < x) : cmpL (xs.drop k) (ys.drop k) = 1 := by
  have hlx := (List.getElem?_eq_some_iff.1 hx).1
  have hly := (List.getElem?_eq_some_iff.1 hy).1
  rw [List.drop_eq_getElem_cons hlx, List.drop_eq_getElem_cons hly, (List.getElem?_eq_some_iff.1 hx).2, (List.getElem?_eq_some_iff.1 hy).2, cmpL, if_neg (by omega), if_pos h]
theorem cmpL_eq {xs ys : List Int} {k : Nat} {x y : Int} (hx : xs[k]? = some x) (hy : ys[k]? = some y) (h : x = y) : cmpL (xs.drop k) (ys.drop k) = cmpL (xs.drop (k + 1)) (ys.drop (k + 1)) := by
  have hlx := (List.getElem?_eq_some_iff.1 hx).1
  have hly := (List.getElem?_eq_some_iff.1 hy).1
  rw [List.drop_eq_getElem_cons hlx, List.drop_eq_getElem_cons hly, (List.getElem?_eq_some_iff.1 hx).2, (List.getElem?_eq_some_iff.1 hy).2, cmpL, if_neg (by omega), if_neg (by omega)]
theorem cmpL_both {xs ys : List Int} {k : Nat} (hx : xs.length ≤ k) (hy : ys.length ≤ k) : cmpL (xs.drop k) (ys.drop k) = 0 := by
  rw [List.drop_eq_nil_of_le hx, List.drop_eq_nil_of_le hy]; rfl
theorem cmpL_short {xs ys : List Int} {k : Nat} (hx : xs.length ≤ k) (hy : k < ys.length) : cmpL (xs.drop k) (ys.drop k) = -1 := by
  rw [List.drop_eq_nil_of_le hx, List.drop_eq_getElem_cons hy]; rfl
theorem cmpL_long {xs ys : List Int} {k : Nat} (hx : k < xs.length) (hy : ys.length ≤ k) : cmpL (xs.drop k) (ys.drop k) = 1 := by
  rw [List.drop_eq_nil_of_le hy, List.drop_eq_getElem_cons hx]; rfl
/-- The first of three that is not 0. -/
def or3 (a b c : Int) : Int := if a = 0 then (if b = 0 then c else b) else a
/-- The order of two positions. -/
def cmpP (xs us ys vs : List Int) (p q : Int) : Int := or3 (cmpL xs us) (cmpL ys vs) (cmpL [p] [q])
theorem cell_of {w : World} {a : Option Addr} {xs : List Int} {k : Nat} {x : Int} (h : RowN w a xs) (hx : xs[k]? = some x) : ∃ g o, a = some ⟨g, o, none⟩ ∧ w.cell? ⟨g, o + k, none⟩ = some (.int .i64 x) := by
  have hne : xs ≠ [] := by intro e; subst e; cases hx
  obtain ⟨g, o, rfl, _, hc⟩ := h.2.resolve_left hne
  exact ⟨g, o, rfl, hc k x hx⟩

theorem dn1 (w : World) (a : Nat) : ∃ m, w.drewN a = w.drewN m := ⟨_, rfl⟩
theorem dn2 (w : World) (a b : Nat) : ∃ m, (w.drewN a).drewN b = w.drewN m := ⟨_, World.drewN_drewN _ _ _⟩
theorem dn3 (w : World) (a b c : Nat) : ∃ m, ((w.drewN a).drewN b).drewN c = w.drewN m := by
  rw [World.drewN_drewN, World.drewN_drewN]
  exact ⟨_, rfl⟩
theorem row_one (u : World) (x : Int) (T : TypeId) : RowN (u.alloc (.cells #[.int .i64 x] T)) (some ⟨u.heap.size, 0, none⟩) [x] :=
  ⟨by simp, .inr ⟨u.heap.size, 0, rfl, by simp, fun i y hi => by
    match i, hi with
    | 0, hi =>
      cases hi
      rw [World.cell?_alloc_new]
      rfl⟩⟩
/-- Two positions, boxed one after the other. -/
def PpAt (w : World) (p1 p2 : Option Addr) (pn1 pc1 pn2 pc2 : Nat) (pp : Int) (x1 x2 : Option Addr) (xn1 xc1 xn2 xc2 : Nat) (xp : Int) (u : World) : Prop := PoAt u w.heap.size p1 p2 pn1 pc1 pn2 pc2 pp ∧ PoAt u (w.heap.size + 1) x1 x2 xn1 xc1 xn2 xc2 xp ∧ Below w.heap.size w u
section
variable {w u v : World} {p1 p2 : Option Addr} {pn1 pc1 pn2 pc2 : Nat} {pp : Int} {x1 x2 : Option Addr} {xn1 xc1 xn2 xc2 : Nat} {xp : Int}
theorem PpAt.below (h : PpAt w p1 p2 pn1 pc1 pn2 pc2 pp x1 x2 xn1 xc1 xn2 xc2 xp u) (k : Below u.heap.size u v) : PpAt w p1 p2 pn1 pc1 pn2 pc2 pp x1 x2 xn1 xc1 xn2 xc2 xp v := ⟨h.1.below k, h.2.1.below k, h.2.2.trans (k.mono h.2.2.size)⟩
theorem PpAt.drew (h : PpAt w p1 p2 pn1 pc1 pn2 pc2 pp x1 x2 xn1 xc1 xn2 xc2 xp u) : PpAt w p1 p2 pn1 pc1 pn2 pc2 pp x1 x2 xn1 xc1 xn2 xc2 xp u.drew := ⟨h.1, h.2.1, h.2.2.drew⟩
theorem PpAt.drewN (h : PpAt w p1 p2 pn1 pc1 pn2 pc2 pp x1 x2 xn1 xc1 xn2 xc2 xp u) (m : Nat) : PpAt w p1 p2 pn1 pc1 pn2 pc2 pp x1 x2 xn1 xc1 xn2 xc2 xp (u.drewN m) := h.below (below_dn (Below.refl _ _) m)
end
theorem pp_new (p1 p2 : Option Addr) (pn1 pc1 pn2 pc2 : Nat) (pp : Int) (x1 x2 : Option Addr) (xn1 xc1 xn2 xc2 : Nat) (xp : Int) (w : World) (T : TypeId) : PpAt w p1 p2 pn1 pc1 pn2 pc2 pp x1 x2 xn1 xc1 xn2 xc2 xp ((w.alloc (.cells #[.slice p1 pn1 pc1, .slice p2 pn2 pc2, .int .i64 pp] T)).alloc (.cells #[.slice x1 xn1 xc1, .slice x2 xn2 xc2, .int .i64 xp] T)) :=
  ⟨(po_new p1 p2 pn1 pc1 pn2 pc2 pp w T).below ((Below.refl _ _).alloc (Nat.le_refl _) _), by have := po_new x1 x2 xn1 xc1 xn2 xc2 xp (w.alloc (.cells #[.slice p1 pn1 pc1, .slice p2 pn2 pc2, .int .i64 pp] T)) T; simpa using this, ((Below.refl _ _).alloc (Nat.le_refl _) _).alloc (by simp) _⟩

end Go.Proofs.Ytgogjjkecbgbiaa
