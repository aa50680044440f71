/- Sown seeds among a law's arguments, opened; boxes of them. No conditions. -/
import Derived.Test.YtgogjjkecbgbiaaPosS
import Derived.Test.YtgogjjkecbgbiaaOpenP
namespace Go.Proofs.Ytgogjjkecbgbiaa
open Go.Joins Go.ChangeShapes Go.WideShapes Go.ChangeAt Go.RowKit Go.Deep
set_option linter.unusedVariables false

structure SV where
  a1 : Option Addr
  a2 : Option Addr
  n1 : Nat
  c1 : Nat
  n2 : Nat
  c2 : Nat
  la : Int
  lp : Int
  xs : List Int
  ys : List Int
def SV.val (q : SV) : Value := .agg #[.slice q.a1 q.n1 q.c1, .slice q.a2 q.n2 q.c2, .int .i64 q.la, .int .i64 q.lp]
def SV.In (q : SV) (w : World) : Prop := (I64 q.la ∧ I64 q.lp) ∧ PosW w q.a1 q.a2 q.n1 q.n2 q.xs q.ys

section
variable {H : Type} {enc : TypeId × Value → H} {P : Program} {w : World} {base : Nat}
theorem open_sown {r : Reach} {b0 : Nat} {t s i : TypeId} {f0 f1 f2 f3 : Field} {v : Value} {d : DataW H} {ps : List MemPlace} (ht : P.underlying t = some (.struct #[f0, f1, f2, f3])) (hs : P.underlying s = some (.slice i)) (hi : P.underlying i = some (.int .i64)) (hci : P.cellsOf i = 1)
    (hone : (oneCellFields P #[f0, f1, f2, f3] && decide (f0.type = s) && decide (f1.type = s) && decide (f2.type = i) && decide (f3.type = i)) = true) (hC : P.cellsOf t = 4)
    (hv : Value.okWide P w r b0 t v) (h : DataW.Trod enc P w base (fun _ => true) true t v d ps) : ∃ q : SV, v = q.val ∧ q.In w := by
  simp only [Bool.and_eq_true, decide_eq_true_eq] at hone
  obtain ⟨⟨⟨⟨hone, t0⟩, t1⟩, t2⟩, t3⟩ := hone
  obtain ⟨v0, v1, v2, v3, y0, y1, y2, y3, n, rfl, -, -, h0, h1, h2, h3⟩ := open_agg4 ht hone hC hv h
  rw [t0] at h0
  rw [t1] at h1
  rw [t2] at h2
  rw [t3] at h3
  obtain ⟨a1, n1, c1, xs, rfl, l1, m1, r1⟩ := cell_row hs hi hci h0
  obtain ⟨a2, n2, c2, ys, rfl, l2, m2, r2⟩ := cell_row hs hi hci h1
  obtain ⟨m, rfl, hw⟩ := cell_int hi h2
  obtain ⟨m', rfl, hw'⟩ := cell_int hi h3
  exact ⟨⟨a1, a2, n1, c1, n2, c2, m, m', xs, ys⟩, rfl, ⟨hw, hw'⟩, ⟨r1, r2, l1, l2, m1, m2⟩⟩
end
def SoAt (u : World) (d : Nat) (p1 p2 : Option Addr) (pn1 pc1 pn2 pc2 : Nat) (pp pq : Int) : Prop := (d < u.heap.size ∧ u.cell? ⟨d, 0, none⟩ = some (.slice p1 pn1 pc1) ∧ u.cell? ⟨d, 1, none⟩ = some (.slice p2 pn2 pc2) ∧ u.cell? ⟨d, 2, none⟩ = some (.int .i64 pp) ∧ u.cell? ⟨d, 3, none⟩ = some (.int .i64 pq))
section
variable {u v : World} {d : Nat} {p1 p2 : Option Addr} {pn1 pc1 pn2 pc2 : Nat} {pp pq : Int}
theorem SoAt.below (h : SoAt u d p1 p2 pn1 pc1 pn2 pc2 pp pq) (k : Below u.heap.size u v) : SoAt v d p1 p2 pn1 pc1 pn2 pc2 pp pq := by
  obtain ⟨hb, h⟩ := h
  have e := fun o => k.cell (p := ⟨d, o, none⟩) hb
  exact ⟨Nat.lt_of_lt_of_le hb k.size, by rw [e, e, e, e]; exact h⟩
theorem SoAt.but {g : Nat} (h : SoAt u d p1 p2 pn1 pc1 pn2 pc2 pp pq) (k : But g u v) (hg : d ≠ g) : SoAt v d p1 p2 pn1 pc1 pn2 pc2 pp pq := by
  obtain ⟨hb, h⟩ := h
  have e := fun o => k.cell (o := o) hb hg
  exact ⟨Nat.lt_of_lt_of_le hb k.size, by rw [e, e, e, e]; exact h⟩
end
theorem so_new (p1 p2 : Option Addr) (pn1 pc1 pn2 pc2 : Nat) (pp pq : Int) (w : World) (T : TypeId) : SoAt (w.alloc (.cells #[.slice p1 pn1 pc1, .slice p2 pn2 pc2, .int .i64 pp, .int .i64 pq] T)) w.heap.size p1 p2 pn1 pc1 pn2 pc2 pp pq :=
  ⟨by simp, by go_simp, by go_simp, by go_simp, by go_simp⟩

/-- Two positions, boxed one after the other. -/
def SsAt (w : World) (p1 p2 : Option Addr) (pn1 pc1 pn2 pc2 : Nat) (pp pq : Int) (x1 x2 : Option Addr) (xn1 xc1 xn2 xc2 : Nat) (xp xq : Int) (u : World) : Prop := SoAt u w.heap.size p1 p2 pn1 pc1 pn2 pc2 pp pq ∧ SoAt u (w.heap.size + 1) x1 x2 xn1 xc1 xn2 xc2 xp xq ∧ Below w.heap.size w u
section
variable {w u v : World} {p1 p2 : Option Addr} {pn1 pc1 pn2 pc2 : Nat} {pp pq : Int} {x1 x2 : Option Addr} {xn1 xc1 xn2 xc2 : Nat} {xp xq : Int}
theorem SsAt.below (h : SsAt w p1 p2 pn1 pc1 pn2 pc2 pp pq x1 x2 xn1 xc1 xn2 xc2 xp xq u) (k : Below u.heap.size u v) : SsAt w p1 p2 pn1 pc1 pn2 pc2 pp pq x1 x2 xn1 xc1 xn2 xc2 xp xq v := ⟨h.1.below k, h.2.1.below k, h.2.2.trans (k.mono h.2.2.size)⟩
theorem SsAt.drew (h : SsAt w p1 p2 pn1 pc1 pn2 pc2 pp pq x1 x2 xn1 xc1 xn2 xc2 xp xq u) : SsAt w p1 p2 pn1 pc1 pn2 pc2 pp pq x1 x2 xn1 xc1 xn2 xc2 xp xq u.drew := ⟨h.1, h.2.1, h.2.2.drew⟩
theorem SsAt.drewN (h : SsAt w p1 p2 pn1 pc1 pn2 pc2 pp pq x1 x2 xn1 xc1 xn2 xc2 xp xq u) (m : Nat) : SsAt w p1 p2 pn1 pc1 pn2 pc2 pp pq x1 x2 xn1 xc1 xn2 xc2 xp xq (u.drewN m) := h.below (below_dn (Below.refl _ _) m)
end
theorem ss_new (p1 p2 : Option Addr) (pn1 pc1 pn2 pc2 : Nat) (pp pq : Int) (x1 x2 : Option Addr) (xn1 xc1 xn2 xc2 : Nat) (xp xq : Int) (w : World) (T : TypeId) : SsAt w p1 p2 pn1 pc1 pn2 pc2 pp pq x1 x2 xn1 xc1 xn2 xc2 xp xq ((w.alloc (.cells #[.slice p1 pn1 pc1, .slice p2 pn2 pc2, .int .i64 pp, .int .i64 pq] T)).alloc (.cells #[.slice x1 xn1 xc1, .slice x2 xn2 xc2, .int .i64 xp, .int .i64 xq] T)) :=
  ⟨(so_new p1 p2 pn1 pc1 pn2 pc2 pp pq w T).below ((Below.refl _ _).alloc (Nat.le_refl _) _), by have := so_new x1 x2 xn1 xc1 xn2 xc2 xp xq (w.alloc (.cells #[.slice p1 pn1 pc1, .slice p2 pn2 pc2, .int .i64 pp, .int .i64 pq] T)) T; simpa using this, ((Below.refl _ _).alloc (Nat.le_refl _) _).alloc (by simp) _⟩

def S4At (w : World) (p1 p2 : Option Addr) (pn1 pc1 pn2 pc2 : Nat) (pp pq : Int) (x1 x2 : Option Addr) (xn1 xc1 xn2 xc2 : Nat) (xp xq : Int) (d : Nat) (y1 y2 : Option Addr) (yn1 yc1 yn2 yc2 : Nat) (yp yq : Int) (f : Nat) (z1 z2 : Option Addr) (zn1 zc1 zn2 zc2 : Nat) (zp zq : Int) (xs ys us vs : List Int) (u : World) : Prop := SsAt w p1 p2 pn1 pc1 pn2 pc2 pp pq x1 x2 xn1 xc1 xn2 xc2 xp xq u ∧ SoAt u d y1 y2 yn1 yc1 yn2 yc2 yp yq ∧ SoAt u f z1 z2 zn1 zc1 zn2 zc2 zp zq ∧ PosR u y1 y2 yn1 yn2 xs ys ∧ PosR u z1 z2 zn1 zn2 us vs
section
variable {w u v : World} {p1 p2 x1 x2 y1 y2 z1 z2 : Option Addr} {pn1 pc1 pn2 pc2 xn1 xc1 xn2 xc2 yn1 yc1 yn2 yc2 zn1 zc1 zn2 zc2 d f : Nat} {pp xp yp zp pq xq yq zq : Int} {xs ys us vs : List Int}
theorem S4At.below (h : S4At w p1 p2 pn1 pc1 pn2 pc2 pp pq x1 x2 xn1 xc1 xn2 xc2 xp xq d y1 y2 yn1 yc1 yn2 yc2 yp yq f z1 z2 zn1 zc1 zn2 zc2 zp zq xs ys us vs u) (k : Below u.heap.size u v) : S4At w p1 p2 pn1 pc1 pn2 pc2 pp pq x1 x2 xn1 xc1 xn2 xc2 xp xq d y1 y2 yn1 yc1 yn2 yc2 yp yq f z1 z2 zn1 zc1 zn2 zc2 zp zq xs ys us vs v := ⟨h.1.below k, h.2.1.below k, h.2.2.1.below k, h.2.2.2.1.below k, h.2.2.2.2.below k⟩
theorem S4At.drew (h : S4At w p1 p2 pn1 pc1 pn2 pc2 pp pq x1 x2 xn1 xc1 xn2 xc2 xp xq d y1 y2 yn1 yc1 yn2 yc2 yp yq f z1 z2 zn1 zc1 zn2 zc2 zp zq xs ys us vs u) : S4At w p1 p2 pn1 pc1 pn2 pc2 pp pq x1 x2 xn1 xc1 xn2 xc2 xp xq d y1 y2 yn1 yc1 yn2 yc2 yp yq f z1 z2 zn1 zc1 zn2 zc2 zp zq xs ys us vs u.drew := ⟨h.1.drew, h.2.1, h.2.2.1, h.2.2.2.1.drewN 1, h.2.2.2.2.drewN 1⟩
end
end Go.Proofs.Ytgogjjkecbgbiaa
