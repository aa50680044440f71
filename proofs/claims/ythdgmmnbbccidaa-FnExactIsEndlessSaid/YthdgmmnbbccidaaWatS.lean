/- Sown seeds that a law keeps in variables of its own. No conditions. -/
import Derived.Test.YthdgmmnbbccidaaWat
import Derived.Test.YthdgmmnbbccidaaBoxS
import Derived.Test.YthdgmmnbbccidaaMov5
namespace Go.Proofs.Ythdgmmnbbccidaa
open Go.Joins Go.ChangeShapes Go.WideShapes Go.ChangeAt Go.RowKit Go.Deep
set_option linter.unusedVariables false

theorem PosO.set4 {w : World} {B z : Nat} {a1 a2 : Option Addr} {b1 b2 n1 n2 : Nat} {xs ys : List Int} (h : PosO w B a1 a2 b1 b2 n1 n2 xs ys) (x y t q : Value) (k1 : b1 ≠ z) (k2 : b2 ≠ z) : PosO ((((w.setCell ⟨z, 0, none⟩ x).setCell ⟨z, 1, none⟩ y).setCell ⟨z, 2, none⟩ t).setCell ⟨z, 3, none⟩ q) B a1 a2 b1 b2 n1 n2 xs ys :=
  h.but (but4 z w x y t q) k1 k2
/-- A variable at block A with a position whose rows lie in blocks of their own, all from lo up to hi. -/
structure WAtS (u : World) (lo hi A : Nat) (a1 a2 : Option Addr) (b1 b2 n1 c1 n2 c2 : Nat) (pl pk : Int) (us vs : List Int) : Prop where
  po : SoAt u A a1 a2 n1 c1 n2 c2 pl pk
  o : PosO u lo a1 a2 b1 b2 n1 n2 us vs
  lo_le : lo ≤ A
  lt : A < hi
  lt1 : b1 < hi
  lt2 : b2 < hi
  hi_le : hi ≤ u.heap.size
  ne1 : A ≠ b1
  ne2 : A ≠ b2
section
variable {u v w : World} {lo hi A b1 b2 n1 c1 n2 c2 : Nat} {a1 a2 : Option Addr} {pl pk : Int} {us vs : List Int}
theorem WAtS.below (h : WAtS u lo hi A a1 a2 b1 b2 n1 c1 n2 c2 pl pk us vs) (k : Below u.heap.size u v) : WAtS v lo hi A a1 a2 b1 b2 n1 c1 n2 c2 pl pk us vs :=
  ⟨h.po.below k, h.o.below k, h.lo_le, h.lt, h.lt1, h.lt2, Nat.le_trans h.hi_le k.size, h.ne1, h.ne2⟩
theorem WAtS.drew (h : WAtS u lo hi A a1 a2 b1 b2 n1 c1 n2 c2 pl pk us vs) : WAtS u.drew lo hi A a1 a2 b1 b2 n1 c1 n2 c2 pl pk us vs := h.below (Below.refl _ _).drew
theorem SoAt.but2 {b c d : Nat} {x1 x2 : Option Addr} {xn1 xc1 xn2 xc2 : Nat} {xp xq : Int} (h : SoAt u d x1 x2 xn1 xc1 xn2 xc2 xp xq) (k : But2 b c u v) (hb : d ≠ b) (hc : d ≠ c) : SoAt v d x1 x2 xn1 xc1 xn2 xc2 xp xq := by
  obtain ⟨hd, h⟩ := h
  have e := fun o => k.cell (d := d) (o := o) hd hb hc
  exact ⟨Nat.lt_of_lt_of_le hd k.size, by rw [e, e, e, e]; exact h⟩
/-- Only blocks outside of a variable's reach are turned. -/
theorem WAtS.but2 {b c : Nat} (h : WAtS u lo hi A a1 a2 b1 b2 n1 c1 n2 c2 pl pk us vs) (k : But2 b c u v) (hb : hi ≤ b ∨ b < lo) (hc : hi ≤ c ∨ c < lo) : WAtS v lo hi A a1 a2 b1 b2 n1 c1 n2 c2 pl pk us vs := by
  have h1 := h.lo_le
  have h2 := h.lt
  have h3 := h.lt1
  have h4 := h.lt2
  have h5 := h.o.o1.new
  have h6 := h.o.o2.new
  exact ⟨h.po.but2 k (by omega) (by omega), h.o.but2 k (by omega) (by omega) (by omega) (by omega), h1, h2, h3, h4, Nat.le_trans h.hi_le k.size, h.ne1, h.ne2⟩
/-- The marks stand in the rows of a variable. -/
theorem WAtS.mark {xs ys : List Int} {us' vs' : List Int} (h : WAtS u lo hi A a1 a2 b1 b2 n1 c1 n2 c2 pl pk us vs) (k : But2 b1 b2 u v) (o : PosO v lo a1 a2 b1 b2 n1 n2 us' vs') : WAtS v lo hi A a1 a2 b1 b2 n1 c1 n2 c2 pl pk us' vs' :=
  ⟨h.po.but2 k h.ne1 h.ne2, o, h.lo_le, h.lt, h.lt1, h.lt2, Nat.le_trans h.hi_le k.size, h.ne1, h.ne2⟩
theorem wats_new (T : TypeId) (pl pk : Int) (c1 c2 : Nat) (ho : PosO u lo a1 a2 b1 b2 n1 n2 us vs) (h1 : b1 < u.heap.size) (h2 : b2 < u.heap.size) (hlo : lo ≤ u.heap.size) :
    WAtS (u.alloc (.cells #[.slice a1 n1 c1, .slice a2 n2 c2, .int .i64 pl, .int .i64 pk] T)) lo (u.heap.size + 1) u.heap.size a1 a2 b1 b2 n1 c1 n2 c2 pl pk us vs :=
  ⟨so_new _ _ _ _ _ _ _ _ u T, ho.below (al1 _ _), hlo, by omega, by omega, by omega, by simp, by omega, by omega⟩
theorem so_set (hz : Z4 u A) (pl pk : Int) (c1 c2 n1 n2 : Nat) (a1 a2 : Option Addr) : SoAt ((((u.setCell ⟨A, 0, none⟩ (.slice a1 n1 c1)).setCell ⟨A, 1, none⟩ (.slice a2 n2 c2)).setCell ⟨A, 2, none⟩ (.int .i64 pl)).setCell ⟨A, 3, none⟩ (.int .i64 pk)) A a1 a2 n1 c1 n2 c2 pl pk := by
  obtain ⟨zl, z0, z1, z2, z3, f0, f1, f2, f3⟩ := hz
  exact ⟨by simpa using zl, by go_simp, by go_simp, by go_simp, by go_simp⟩
theorem wats_set (hz : Z4 u A) (pl pk : Int) (c1 c2 : Nat) (ho : PosO u lo a1 a2 b1 b2 n1 n2 us vs) (h1 : b1 < u.heap.size) (h2 : b2 < u.heap.size) (hlo : lo ≤ A) (k1 : A ≠ b1) (k2 : A ≠ b2) :
    WAtS ((((u.setCell ⟨A, 0, none⟩ (.slice a1 n1 c1)).setCell ⟨A, 1, none⟩ (.slice a2 n2 c2)).setCell ⟨A, 2, none⟩ (.int .i64 pl)).setCell ⟨A, 3, none⟩ (.int .i64 pk)) lo u.heap.size A a1 a2 b1 b2 n1 c1 n2 c2 pl pk us vs :=
  ⟨so_set hz pl pk c1 c2 n1 n2 a1 a2, ho.set4 _ _ _ _ (fun e => k1 e.symm) (fun e => k2 e.symm), hlo, hz.lt, h1, h2, by simp, k1, k2⟩
theorem WAtS.set4 {z : Nat} (h : WAtS u lo hi A a1 a2 b1 b2 n1 c1 n2 c2 pl pk us vs) (x y t q : Value) (hz : hi ≤ z) : WAtS ((((u.setCell ⟨z, 0, none⟩ x).setCell ⟨z, 1, none⟩ y).setCell ⟨z, 2, none⟩ t).setCell ⟨z, 3, none⟩ q) lo hi A a1 a2 b1 b2 n1 c1 n2 c2 pl pk us vs :=
  h.but2 (b := z) (c := z) (.of_l (but4 z u x y t q)) (.inl hz) (.inl hz)
theorem WAt.set4 {z : Nat} (h : WAt u lo hi A a1 a2 b1 b2 n1 c1 n2 c2 pl us vs) (x y t q : Value) (hz : hi ≤ z) : WAt ((((u.setCell ⟨z, 0, none⟩ x).setCell ⟨z, 1, none⟩ y).setCell ⟨z, 2, none⟩ t).setCell ⟨z, 3, none⟩ q) lo hi A a1 a2 b1 b2 n1 c1 n2 c2 pl us vs :=
  h.but2 (b := z) (c := z) (.of_l (but4 z u x y t q)) (.inl hz) (.inl hz)
variable {p s c l : Int} {st sk re fe ag : Bool} {p1 p2 : Option Addr} {pn1 pc1 pn2 pc2 : Nat} {pp : Int}
theorem RpAt.setB (h : RpAt w p s c l st sk re fe ag p1 p2 pn1 pc1 pn2 pc2 pp u) {z : Nat} (hz : w.heap.size + 1 < z) (x y t q : Value) : RpAt w p s c l st sk re fe ag p1 p2 pn1 pc1 pn2 pc2 pp ((((u.setCell ⟨z, 0, none⟩ x).setCell ⟨z, 1, none⟩ y).setCell ⟨z, 2, none⟩ t).setCell ⟨z, 3, none⟩ q) :=
  ⟨h.1.but (but4 z u x y t q) (by omega), h.2.1.but (but4 z u x y t q) (by omega), OnW.set4 h.2.2 (by omega) x y t q⟩
end
end Go.Proofs.Ythdgmmnbbccidaa
