/- Positions that a law keeps in variables of its own. No conditions. -/
import Derived.Test.YthbgfkklejnhiaaPosZ
import Derived.Test.YthbgfkklejnhiaaLawB4
import Derived.Deep.DeepCutAuto
namespace Go.Proofs.Ythbgfkklejnhiaa
open Go.Joins Go.ChangeShapes Go.WideShapes Go.ChangeAt Go.RowKit Go.Deep
set_option linter.unusedVariables false

/-- A variable at block A with a position whose rows lie in blocks of their own, all from lo up to hi. -/
structure WAt (u : World) (lo hi A : Nat) (a1 a2 : Option Addr) (b1 b2 n1 c1 n2 c2 : Nat) (pl : Int) (us vs : List Int) : Prop where
  po : PoAt u A a1 a2 n1 c1 n2 c2 pl
  o : PosO u lo a1 a2 b1 b2 n1 n2 us vs
  lo_le : lo ≤ A
  lt : A < hi
  lt1 : b1 < hi
  lt2 : b2 < hi
  hi_le : hi ≤ u.heap.size
  ne1 : A ≠ b1
  ne2 : A ≠ b2
section
variable {u v w : World} {lo hi A b1 b2 n1 c1 n2 c2 : Nat} {a1 a2 : Option Addr} {pl : Int} {us vs : List Int}
theorem WAt.below (h : WAt u lo hi A a1 a2 b1 b2 n1 c1 n2 c2 pl us vs) (k : Below u.heap.size u v) : WAt v lo hi A a1 a2 b1 b2 n1 c1 n2 c2 pl us vs :=
  ⟨h.po.below k, h.o.below k, h.lo_le, h.lt, h.lt1, h.lt2, Nat.le_trans h.hi_le k.size, h.ne1, h.ne2⟩
theorem WAt.drew (h : WAt u lo hi A a1 a2 b1 b2 n1 c1 n2 c2 pl us vs) : WAt u.drew lo hi A a1 a2 b1 b2 n1 c1 n2 c2 pl us vs := h.below (Below.refl _ _).drew
theorem PoAt.but2 {b c d : Nat} {x1 x2 : Option Addr} {xn1 xc1 xn2 xc2 : Nat} {xp : Int} (h : PoAt u d x1 x2 xn1 xc1 xn2 xc2 xp) (k : But2 b c u v) (hb : d ≠ b) (hc : d ≠ c) : PoAt v d x1 x2 xn1 xc1 xn2 xc2 xp := by
  obtain ⟨hd, h⟩ := h
  have e := fun o => k.cell (d := d) (o := o) hd hb hc
  exact ⟨Nat.lt_of_lt_of_le hd k.size, by rw [e, e, e]; exact h⟩
/-- Only blocks outside of a variable's reach are turned. -/
theorem WAt.but2 {b c : Nat} (h : WAt u lo hi A a1 a2 b1 b2 n1 c1 n2 c2 pl us vs) (k : But2 b c u v) (hb : hi ≤ b ∨ b < lo) (hc : hi ≤ c ∨ c < lo) : WAt v lo hi A a1 a2 b1 b2 n1 c1 n2 c2 pl us vs := by
  have h1 := h.lo_le
  have h2 := h.lt
  have h3 := h.lt1
  have h4 := h.lt2
  have h5 := h.o.o1.new
  have h6 := h.o.o2.new
  exact ⟨h.po.but2 k (by omega) (by omega), h.o.but2 k (by omega) (by omega) (by omega) (by omega), h1, h2, h3, h4, Nat.le_trans h.hi_le k.size, h.ne1, h.ne2⟩
/-- The marks stand in the rows of a variable. -/
theorem WAt.mark {xs ys : List Int} {us' vs' : List Int} (h : WAt u lo hi A a1 a2 b1 b2 n1 c1 n2 c2 pl us vs) (k : But2 b1 b2 u v) (o : PosO v lo a1 a2 b1 b2 n1 n2 us' vs') : WAt v lo hi A a1 a2 b1 b2 n1 c1 n2 c2 pl us' vs' :=
  ⟨h.po.but2 k h.ne1 h.ne2, o, h.lo_le, h.lt, h.lt1, h.lt2, Nat.le_trans h.hi_le k.size, h.ne1, h.ne2⟩
theorem wat_new (T : TypeId) (pl : Int) (c1 c2 : Nat) (ho : PosO u lo a1 a2 b1 b2 n1 n2 us vs) (h1 : b1 < u.heap.size) (h2 : b2 < u.heap.size) (hlo : lo ≤ u.heap.size) :
    WAt (u.alloc (.cells #[.slice a1 n1 c1, .slice a2 n2 c2, .int .i64 pl] T)) lo (u.heap.size + 1) u.heap.size a1 a2 b1 b2 n1 c1 n2 c2 pl us vs :=
  ⟨po_new _ _ _ _ _ _ _ u T, ho.below (al1 _ _), hlo, by omega, by omega, by omega, by simp, by omega, by omega⟩
theorem po_set (hz : ZeroP u A) (pl : Int) (c1 c2 n1 n2 : Nat) (a1 a2 : Option Addr) : PoAt (((u.setCell ⟨A, 0, none⟩ (.slice a1 n1 c1)).setCell ⟨A, 1, none⟩ (.slice a2 n2 c2)).setCell ⟨A, 2, none⟩ (.int .i64 pl)) A a1 a2 n1 c1 n2 c2 pl := by
  obtain ⟨zl, z0, z1, z2, zf⟩ := hz
  have f0 := zf 0
  have f1 := zf 1
  have f2 := zf 2
  exact ⟨by simpa using zl, by go_simp, by go_simp, by go_simp⟩
theorem wat_set (hz : ZeroP u A) (pl : Int) (c1 c2 : Nat) (ho : PosO u lo a1 a2 b1 b2 n1 n2 us vs) (h1 : b1 < u.heap.size) (h2 : b2 < u.heap.size) (hlo : lo ≤ A) (k1 : A ≠ b1) (k2 : A ≠ b2) :
    WAt (((u.setCell ⟨A, 0, none⟩ (.slice a1 n1 c1)).setCell ⟨A, 1, none⟩ (.slice a2 n2 c2)).setCell ⟨A, 2, none⟩ (.int .i64 pl)) lo u.heap.size A a1 a2 b1 b2 n1 c1 n2 c2 pl us vs :=
  ⟨po_set hz pl c1 c2 n1 n2 a1 a2, ho.set3 _ _ _ (fun e => k1 e.symm) (fun e => k2 e.symm), hlo, hz.lt, h1, h2, by simp, k1, k2⟩
/-- Setting the cells of a variable that is none of them. -/
theorem WAt.set3 {z : Nat} (h : WAt u lo hi A a1 a2 b1 b2 n1 c1 n2 c2 pl us vs) (x y t : Value) (hz : hi ≤ z) : WAt (((u.setCell ⟨z, 0, none⟩ x).setCell ⟨z, 1, none⟩ y).setCell ⟨z, 2, none⟩ t) lo hi A a1 a2 b1 b2 n1 c1 n2 c2 pl us vs :=
  h.but2 (b := z) (c := z) (.of_l ((((But.refl z u).setCell (p := ⟨z, 0, none⟩) rfl x).setCell (p := ⟨z, 1, none⟩) rfl y).setCell (p := ⟨z, 2, none⟩) rfl t)) (.inl hz) (.inl hz)
variable {p s c l : Int} {st sk re fe ag : Bool} {p1 p2 : Option Addr} {pn1 pc1 pn2 pc2 : Nat} {pp : Int}
theorem RpAt.setA (h : RpAt w p s c l st sk re fe ag p1 p2 pn1 pc1 pn2 pc2 pp u) {z : Nat} (hz : w.heap.size + 1 < z) (x y t : Value) : RpAt w p s c l st sk re fe ag p1 p2 pn1 pc1 pn2 pc2 pp (((u.setCell ⟨z, 0, none⟩ x).setCell ⟨z, 1, none⟩ y).setCell ⟨z, 2, none⟩ t) := by
  have k : But z u (((u.setCell ⟨z, 0, none⟩ x).setCell ⟨z, 1, none⟩ y).setCell ⟨z, 2, none⟩ t) := ((((But.refl z u).setCell (p := ⟨z, 0, none⟩) rfl x).setCell (p := ⟨z, 1, none⟩) rfl y).setCell (p := ⟨z, 2, none⟩) rfl t)
  refine ⟨h.1.but k (by omega), h.2.1.but k (by omega), ?_⟩
  exact ((h.2.2.setCell (p := ⟨z, 0, none⟩) (by show w.heap.size ≤ z; omega) _).setCell (p := ⟨z, 1, none⟩) (by show w.heap.size ≤ z; omega) _).setCell (p := ⟨z, 2, none⟩) (by show w.heap.size ≤ z; omega) _
theorem RpAt.but2 {b b' : Nat} (h : RpAt w p s c l st sk re fe ag p1 p2 pn1 pc1 pn2 pc2 pp u) (k : But2 b b' u v) (hb : w.heap.size + 1 < b) (hc : w.heap.size + 1 < b') : RpAt w p s c l st sk re fe ag p1 p2 pn1 pc1 pn2 pc2 pp v := by
  refine ⟨?_, h.2.1.but2 k (by omega) (by omega), k.below h.2.2 (by omega) (by omega) h.2.2.size⟩
  obtain ⟨hd, h⟩ := h.1
  have e := fun o => k.cell (d := w.heap.size) (o := o) hd (by omega) (by omega)
  exact ⟨Nat.lt_of_lt_of_le hd k.size, by rw [e, e, e, e, e, e, e, e, e]; exact h⟩
end
end Go.Proofs.Ythbgfkklejnhiaa
