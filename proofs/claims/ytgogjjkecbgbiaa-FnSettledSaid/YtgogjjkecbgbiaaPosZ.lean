/- A position of a call's own, with a code. No conditions. -/
import Derived.Test.YtgogjjkecbgbiaaPos
import Derived.Test.YtgogjjkecbgbiaaBox4
namespace Go.Proofs.Ytgogjjkecbgbiaa
open Go.Joins Go.ChangeShapes Go.WideShapes Go.ChangeAt Go.RowKit Go.Deep
set_option linter.unusedVariables false

/-- A position of a call's own, and a code. -/
def PosZ (n1 n2 : Nat) (pl code : Int) (xs ys : List Int) (w : World) (e : Ending) (w' : World) : Prop :=
  ∃ a1 c1 b1 a2 c2 b2, e = .returned (.tuple #[.agg #[.slice a1 n1 c1, .slice a2 n2 c2, .int .i64 pl], .int .i64 code]) ∧ PosO w' w.heap.size a1 a2 b1 b2 n1 n2 xs ys ∧ b1 < w'.heap.size ∧ b2 < w'.heap.size ∧ n1 ≤ c1 ∧ n2 ≤ c2 ∧ Below w.heap.size w w'
theorem posO_zero (u : World) (B : Nat) : PosO u B none none B (B + 1) 0 0 [] [] :=
  ⟨⟨rowN_nil _ _, (fun _ _ h => nomatch h), Nat.le_refl _, fun h => absurd rfl h⟩, ⟨rowN_nil _ _, (fun _ _ h => nomatch h), Nat.le_succ _, fun h => absurd rfl h⟩, by omega, rfl, rfl⟩
theorem posZ_zero {w u : World} (cd : Int) (hb : Below w.heap.size w u) (h : w.heap.size + 1 < u.heap.size) : PosZ 0 0 0 cd [] [] w (.returned (.tuple #[.agg #[.slice none 0 0, .slice none 0 0, .int .i64 0], .int .i64 cd])) u :=
  ⟨none, 0, w.heap.size, none, 0, w.heap.size + 1, rfl, posO_zero _ _, by omega, h, Nat.le_refl _, Nat.le_refl _, hb⟩
theorem RpAt.set3z {p s c l : Int} {st sk re fe ag : Bool} {p1 p2 : Option Addr} {pn1 pc1 pn2 pc2 : Nat} {pp : Int} {w u : World} (h : RpAt w p s c l st sk re fe ag p1 p2 pn1 pc1 pn2 pc2 pp u) (x y z : Value) :
    RpAt w p s c l st sk re fe ag p1 p2 pn1 pc1 pn2 pc2 pp (((u.setCell ⟨w.heap.size + 1 + 1, 0, none⟩ x).setCell ⟨w.heap.size + 1 + 1, 1, none⟩ y).setCell ⟨w.heap.size + 1 + 1, 2, none⟩ z) := by
  have k : But (w.heap.size + 1 + 1) u (((u.setCell ⟨w.heap.size + 1 + 1, 0, none⟩ x).setCell ⟨w.heap.size + 1 + 1, 1, none⟩ y).setCell ⟨w.heap.size + 1 + 1, 2, none⟩ z) := (((But.refl (w.heap.size + 1 + 1) u).setCell (p := ⟨w.heap.size + 1 + 1, 0, none⟩) rfl x).setCell (p := ⟨w.heap.size + 1 + 1, 1, none⟩) rfl y).setCell (p := ⟨w.heap.size + 1 + 1, 2, none⟩) rfl z
  refine ⟨h.1.but k (by omega), h.2.1.but k (by omega), ?_⟩
  exact ((h.2.2.setCell (p := ⟨w.heap.size + 1 + 1, 0, none⟩) (by show w.heap.size ≤ w.heap.size + 1 + 1; omega) _).setCell (p := ⟨w.heap.size + 1 + 1, 1, none⟩) (by show w.heap.size ≤ w.heap.size + 1 + 1; omega) _).setCell (p := ⟨w.heap.size + 1 + 1, 2, none⟩) (by show w.heap.size ≤ w.heap.size + 1 + 1; omega) _
theorem al2 (u : World) (o q : Obj) : Below u.heap.size u ((u.alloc o).alloc q) := ((Below.refl _ _).alloc (Nat.le_refl _) o).alloc (by simp) q
theorem al1 (u : World) (o : Obj) : Below u.heap.size u (u.alloc o) := (Below.refl _ _).alloc (Nat.le_refl _) o
/-- A position of a call's own, stored into the variable of a result. -/
theorem posZ_of {w v : World} {a1 a2 : Option Addr} {b1 b2 n1 n2 c1 c2 : Nat} {pl : Int} {xs ys : List Int} {B : Nat} (cd : Int) (ho : PosO v B a1 a2 b1 b2 n1 n2 xs ys) (hB : w.heap.size ≤ B) (h1 : b1 < v.heap.size) (h2 : b2 < v.heap.size) (h3 : n1 ≤ c1) (h4 : n2 ≤ c2) (hb : Below w.heap.size w v) :
    PosZ n1 n2 pl cd xs ys w (.returned (.tuple #[.agg #[.slice a1 n1 c1, .slice a2 n2 c2, .int .i64 pl], .int .i64 cd])) v :=
  ⟨a1, c1, b1, a2, c2, b2, rfl, ho.lower hB, h1, h2, h3, h4, hb⟩
theorem PosO.set3 {w : World} {B z : Nat} {a1 a2 : Option Addr} {b1 b2 n1 n2 : Nat} {xs ys : List Int} (h : PosO w B a1 a2 b1 b2 n1 n2 xs ys) (x y t : Value) (k1 : b1 ≠ z) (k2 : b2 ≠ z) : PosO (((w.setCell ⟨z, 0, none⟩ x).setCell ⟨z, 1, none⟩ y).setCell ⟨z, 2, none⟩ t) B a1 a2 b1 b2 n1 n2 xs ys :=
  h.but ((((But.refl z w).setCell (p := ⟨z, 0, none⟩) rfl x).setCell (p := ⟨z, 1, none⟩) rfl y).setCell (p := ⟨z, 2, none⟩) rfl t) k1 k2
theorem zero_at2 (p s c l : Int) (st sk re fe ag : Bool) (p1 p2 : Option Addr) (pn1 pc1 pn2 pc2 : Nat) (pp : Int) (w : World) (T U V : TypeId) : ZeroP (((w.alloc (.cells #[.int .i64 p, .int .i64 s, .bool st, .bool sk, .bool re, .bool fe, .bool ag, .int .i64 c, .int .i64 l] T)).alloc (.cells #[.slice p1 pn1 pc1, .slice p2 pn2 pc2, .int .i64 pp] U)).alloc (.cells #[.slice none 0 0, .slice none 0 0, .int .i64 0] V)) (w.heap.size + 1 + 1) := by
  have h := zero_new ((w.alloc (.cells #[.int .i64 p, .int .i64 s, .bool st, .bool sk, .bool re, .bool fe, .bool ag, .int .i64 c, .int .i64 l] T)).alloc (.cells #[.slice p1 pn1 pc1, .slice p2 pn2 pc2, .int .i64 pp] U)) V
  rwa [show ((w.alloc (.cells #[.int .i64 p, .int .i64 s, .bool st, .bool sk, .bool re, .bool fe, .bool ag, .int .i64 c, .int .i64 l] T)).alloc (.cells #[.slice p1 pn1 pc1, .slice p2 pn2 pc2, .int .i64 pp] U)).heap.size = w.heap.size + 1 + 1 by simp] at h
end Go.Proofs.Ytgogjjkecbgbiaa
