/- A whole move, as the program makes it: what stays while it is sown. No conditions. -/
import Derived.Test.YtdhkfkfoibddnaaSteps5
import Derived.Test.YtdhkfkfoibddnaaBegY5
import Derived.Test.YtdhkfkfoibddnaaSow3
namespace Go.Proofs.Ytdhkfkfoibddnaa
open Go.RowKit Go.Shelf
attribute [local go_sem] Oper.semAt_some
set_option linter.unusedVariables false

/-- Sown seeds of a call's own, and a code. -/
def SoZ (n1 n2 : Nat) (la lp code : Int) (xs ys : List Int) (w : World) (e : Ending) (w' : World) : Prop :=
  ∃ a1 c1 b1 a2 c2 b2, e = .returned (.tuple #[.agg #[.slice a1 n1 c1, .slice a2 n2 c2, .int .i64 la, .int .i64 lp], .int .i64 code]) ∧ PosO w' w.heap.size a1 a2 b1 b2 n1 n2 xs ys ∧ b1 < w'.heap.size ∧ b2 < w'.heap.size ∧ n1 ≤ c1 ∧ n2 ≤ c2 ∧ Below w.heap.size w w'
theorem soZ_zero {w u : World} (cd : Int) (hb : Below w.heap.size w u) (h : w.heap.size + 1 < u.heap.size) : SoZ 0 0 0 0 cd [] [] w (.returned (.tuple #[.agg #[.slice none 0 0, .slice none 0 0, .int .i64 0, .int .i64 0], .int .i64 cd])) u :=
  ⟨none, 0, w.heap.size, none, 0, w.heap.size + 1, rfl, posO_zero _ _, by omega, h, Nat.le_refl _, Nat.le_refl _, hb⟩
/-- The results' variables of a call on rules, a position and a move. -/
structure RsV (w : World) (x0 x1 x2 x3 : Value) (cd : Int) (A : World) : Prop where
  be : Below w.heap.size w A
  lt : w.heap.size + 1 + 1 + 1 < A.heap.size
  c0 : A.cell? ⟨w.heap.size + 1 + 1, 0, none⟩ = some x0
  c1 : A.cell? ⟨w.heap.size + 1 + 1, 1, none⟩ = some x1
  c2 : A.cell? ⟨w.heap.size + 1 + 1, 2, none⟩ = some x2
  c3 : A.cell? ⟨w.heap.size + 1 + 1, 3, none⟩ = some x3
  c4 : A.cell? ⟨w.heap.size + 1 + 1 + 1, 0, none⟩ = some (.int .i64 cd)
  f0 : A.frozen? ⟨w.heap.size + 1 + 1, 0, none⟩ = false
  f1 : A.frozen? ⟨w.heap.size + 1 + 1, 1, none⟩ = false
  f2 : A.frozen? ⟨w.heap.size + 1 + 1, 2, none⟩ = false
  f3 : A.frozen? ⟨w.heap.size + 1 + 1, 3, none⟩ = false
  f4 : A.frozen? ⟨w.heap.size + 1 + 1 + 1, 0, none⟩ = false
section
variable {w A Z : World} {x0 x1 x2 x3 : Value} {cd : Int}
theorem RsV.keep (h : RsV w x0 x1 x2 x3 cd A) (hb : Below w.heap.size w Z) (hs : A.heap.size ≤ Z.heap.size) (k2 : Z.heap[w.heap.size + 1 + 1]? = A.heap[w.heap.size + 1 + 1]?) (k3 : Z.heap[w.heap.size + 1 + 1 + 1]? = A.heap[w.heap.size + 1 + 1 + 1]?) : RsV w x0 x1 x2 x3 cd Z := by
  have e := fun o => World.cell?_of_block (a := ⟨w.heap.size + 1 + 1, o, none⟩) k2
  have f := fun o => World.frozen?_of_block (a := ⟨w.heap.size + 1 + 1, o, none⟩) k2
  have e' := fun o => World.cell?_of_block (a := ⟨w.heap.size + 1 + 1 + 1, o, none⟩) k3
  have f' := fun o => World.frozen?_of_block (a := ⟨w.heap.size + 1 + 1 + 1, o, none⟩) k3
  exact ⟨hb, Nat.lt_of_lt_of_le h.lt hs, (e _).trans h.c0, (e _).trans h.c1, (e _).trans h.c2, (e _).trans h.c3, (e' _).trans h.c4, (f _).trans h.f0, (f _).trans h.f1, (f _).trans h.f2, (f _).trans h.f3, (f' _).trans h.f4⟩
theorem RsV.below (h : RsV w x0 x1 x2 x3 cd A) (k : Below A.heap.size A Z) : RsV w x0 x1 x2 x3 cd Z :=
  have hl := h.lt
  h.keep (h.be.trans (k.mono h.be.size)) k.size (k.block _ (by omega)) (k.block _ (by omega))
theorem RsV.low {B : Nat} (h : RsV w x0 x1 x2 x3 cd A) (k : Below B A Z) (hB : w.heap.size + 4 ≤ B) : RsV w x0 x1 x2 x3 cd Z :=
  h.keep (h.be.trans (k.mono (by omega))) k.size (k.block _ (by omega)) (k.block _ (by omega))
theorem RsV.of_out {B : Nat} {K : Cfg} (h : RsV w x0 x1 x2 x3 cd A) (k : Out B K A Z) (hB : w.heap.size + 4 ≤ B) (b0 : w.heap.size + 4 ≤ K.b) (b1 : w.heap.size + 4 ≤ K.g1) (b2 : w.heap.size + 4 ≤ K.g2) : RsV w x0 x1 x2 x3 cd Z :=
  h.keep ⟨k.os.trans h.be.os, k.tape.trans h.be.tape, k.output.trans h.be.output, Nat.le_trans h.be.size k.size, fun i hi => (k.keep i (by omega) (by omega) (by omega) (by omega)).trans (h.be.block i hi)⟩ k.size (k.keep _ (by omega) (by omega) (by omega) (by omega)) (k.keep _ (by omega) (by omega) (by omega) (by omega))
theorem RsV.set (h : RsV w x0 x1 x2 x3 cd A) (y0 y1 y2 y3 : Value) (cd' : Int) : RsV w y0 y1 y2 y3 cd' (((((A.setCell ⟨w.heap.size + 1 + 1, 0, none⟩ y0).setCell ⟨w.heap.size + 1 + 1, 1, none⟩ y1).setCell ⟨w.heap.size + 1 + 1, 2, none⟩ y2).setCell ⟨w.heap.size + 1 + 1, 3, none⟩ y3).setCell ⟨w.heap.size + 1 + 1 + 1, 0, none⟩ (.int .i64 cd')) := by
  obtain ⟨hb, hl, c0, c1, c2, c3, c4, f0, f1, f2, f3, f4⟩ := h
  exact ⟨((((hb.setCell (p := ⟨w.heap.size + 1 + 1, 0, none⟩) (by show w.heap.size ≤ w.heap.size + 1 + 1; omega) _).setCell (p := ⟨w.heap.size + 1 + 1, 1, none⟩) (by show w.heap.size ≤ w.heap.size + 1 + 1; omega) _).setCell (p := ⟨w.heap.size + 1 + 1, 2, none⟩) (by show w.heap.size ≤ w.heap.size + 1 + 1; omega) _).setCell (p := ⟨w.heap.size + 1 + 1, 3, none⟩) (by show w.heap.size ≤ w.heap.size + 1 + 1; omega) _).setCell (p := ⟨w.heap.size + 1 + 1 + 1, 0, none⟩) (by show w.heap.size ≤ w.heap.size + 1 + 1 + 1; omega) _,
    by simpa using hl, by go_simp, by go_simp, by go_simp, by go_simp, by go_simp, by go_simp, by go_simp, by go_simp, by go_simp, by go_simp⟩
end
theorem above_rs {w A : World} {B : Nat} (hB : w.heap.size + 4 ≤ B) (y0 y1 y2 y3 y4 : Value) : Above B A (((((A.setCell ⟨w.heap.size + 1 + 1, 0, none⟩ y0).setCell ⟨w.heap.size + 1 + 1, 1, none⟩ y1).setCell ⟨w.heap.size + 1 + 1, 2, none⟩ y2).setCell ⟨w.heap.size + 1 + 1, 3, none⟩ y3).setCell ⟨w.heap.size + 1 + 1 + 1, 0, none⟩ y4) :=
  ((((Above.setCell (by show w.heap.size + 1 + 1 < B; omega) _).trans (Above.setCell (by show w.heap.size + 1 + 1 < B; omega) _)).trans (Above.setCell (by show w.heap.size + 1 + 1 < B; omega) _)).trans (Above.setCell (by show w.heap.size + 1 + 1 < B; omega) _)).trans (Above.setCell (by show w.heap.size + 1 + 1 + 1 < B; omega) _)
theorem rec_rs {w A : World} {L D : Nat} {r : Loop} {x0 x1 x2 x3 : Value} {cd : Int} (h : RecAt A L D r) (k : RsV w x0 x1 x2 x3 cd A) (y0 y1 y2 y3 y4 : Value) : RecAt (((((A.setCell ⟨w.heap.size + 1 + 1, 0, none⟩ y0).setCell ⟨w.heap.size + 1 + 1, 1, none⟩ y1).setCell ⟨w.heap.size + 1 + 1, 2, none⟩ y2).setCell ⟨w.heap.size + 1 + 1, 3, none⟩ y3).setCell ⟨w.heap.size + 1 + 1 + 1, 0, none⟩ y4) L D r := by
  obtain ⟨hb, hl, c0, c1, c2, c3, c4, f0, f1, f2, f3, f4⟩ := k
  exact ((((h.setCell c0 y0).setCell (v := x1) (by go_simp) y1).setCell (v := x2) (by go_simp) y2).setCell (v := x3) (by go_simp) y3).setCell (v := .int .i64 cd) (by go_simp) y4
theorem rv_new (p s c l : Int) (st sk re fe ag : Bool) (p1 p2 : Option Addr) (pn1 pc1 pn2 pc2 : Nat) (pp : Int) (w : World) (T U V S : TypeId) : RsV w (.slice none 0 0) (.slice none 0 0) (.int .i64 0) (.int .i64 0) 0 ((((w.alloc (.cells #[.int .i64 p, .int .i64 s, .bool st, .bool sk, .bool re, .bool fe, .bool ag, .int .i64 c, .int .i64 l] T)).alloc (.cells #[.slice p1 pn1 pc1, .slice p2 pn2 pc2, .int .i64 pp] U)).alloc (.cells #[.slice none 0 0, .slice none 0 0, .int .i64 0, .int .i64 0] V)).alloc (.cells #[.int .i64 0] S)) :=
  ⟨((((Below.refl _ _).alloc (Nat.le_refl _) _).alloc (by simp) _).alloc (by simp; omega) _).alloc (by simp; omega) _, by simp, by go_simp, by go_simp, by go_simp, by go_simp, by go_simp, by go_simp, by go_simp, by go_simp, by go_simp, by go_simp⟩
/-- The move's struct, as it is stored. -/
theorem sw_new (K : Cfg) (ha la lp : Int) (xs ys : List Int) (u : World) (T : TypeId) (hb : K.b = u.heap.size) (o1 : OutN u K.B (some ⟨K.g1, 0, none⟩) K.g1 xs) (o2 : OutN u K.B (some ⟨K.g2, 0, none⟩) K.g2 ys) (l1 : xs.length = K.n1) (l2 : ys.length = 2) (d3 : K.g1 ≠ K.g2) (h1 : K.g1 < u.heap.size) (h2 : K.g2 < u.heap.size) :
    SwS (u.alloc (.cells #[.int .i64 K.p, .int .i64 K.s, .bool K.st, .bool K.sk, .bool K.re, .bool K.fe, .bool K.ag, .int .i64 K.c, .int .i64 K.l, .int .i64 K.pl, .int .i64 K.fi, .int .i64 ha, .slice (some ⟨K.g1, 0, none⟩) K.n1 K.c1, .slice (some ⟨K.g2, 0, none⟩) 2 K.c2, .int .i64 la, .int .i64 lp] T)) K ha la lp xs ys :=
  ⟨by rw [hb]; simp, by rw [hb]; go_simp, by rw [hb]; go_simp, by rw [hb]; go_simp, by rw [hb]; go_simp, by rw [hb]; go_simp, by rw [hb]; go_simp, by rw [hb]; go_simp, by rw [hb]; go_simp, by rw [hb]; go_simp, by rw [hb]; go_simp, by rw [hb]; go_simp, by rw [hb]; go_simp, by rw [hb]; go_simp, by rw [hb]; go_simp, by rw [hb]; go_simp, by rw [hb]; go_simp,
    fun o => by rw [hb]; go_simp, o1.below (al1 _ _), o2.below (al1 _ _), l1, l2, by omega, by omega, d3, by simp; omega, by simp; omega⟩
theorem keep_rs {w A : World} {k : Nat} (hk : w.heap.size + 4 ≤ k) (y0 y1 y2 y3 y4 : Value) : (((((A.setCell ⟨w.heap.size + 1 + 1, 0, none⟩ y0).setCell ⟨w.heap.size + 1 + 1, 1, none⟩ y1).setCell ⟨w.heap.size + 1 + 1, 2, none⟩ y2).setCell ⟨w.heap.size + 1 + 1, 3, none⟩ y3).setCell ⟨w.heap.size + 1 + 1 + 1, 0, none⟩ y4).heap[k]? = A.heap[k]? :=
  ((((Below.heap_setCell _ ⟨w.heap.size + 1 + 1 + 1, 0, none⟩ _ k (by show k ≠ w.heap.size + 1 + 1 + 1; omega)).trans (Below.heap_setCell _ ⟨w.heap.size + 1 + 1, 3, none⟩ _ k (by show k ≠ w.heap.size + 1 + 1; omega))).trans (Below.heap_setCell _ ⟨w.heap.size + 1 + 1, 2, none⟩ _ k (by show k ≠ w.heap.size + 1 + 1; omega))).trans (Below.heap_setCell _ ⟨w.heap.size + 1 + 1, 1, none⟩ _ k (by show k ≠ w.heap.size + 1 + 1; omega))).trans (Below.heap_setCell _ ⟨w.heap.size + 1 + 1, 0, none⟩ _ k (by show k ≠ w.heap.size + 1 + 1; omega))
theorem RecAt.of_out {A Z : World} {B L D : Nat} {K : Cfg} {r : Loop} (h : RecAt A L D r) (k : Out B K A Z) (hL : L < B) (hD : D < B) (b0 : K.b < D) (b1 : K.g1 < D) (b2 : K.g2 < D) (hDL : D < L) : RecAt Z L D r :=
  ⟨(k.keep L hL (by omega) (by omega) (by omega)).trans h.1, (k.keep D hD (by omega) (by omega) (by omega)).trans h.2⟩
/-- Between two seeds of a move. -/
structure MoJ (w : World) (K : Cfg) (MV : Option Res) (L D : Nat) (R : LoopState → Option Code → Loop) (s : Stg) (i : Nat) (A : World) : Prop where
  rs : RsV w (.slice none 0 0) (.slice none 0 0) (.int .i64 0) (.int .i64 0) 0 A
  mv : mvF K.R (100 - s.j) s.xs s.ys s.f s.j s.path = MV
  rc : RecAt A L D (R .ready none)
/-- Behind an endless move. -/
structure MoX (w : World) (MV : Option Res) (L D : Nat) (R : LoopState → Option Code → Loop) (Z : World) : Prop where
  rs : RsV w (.slice none 0 0) (.slice none 0 0) (.int .i64 0) (.int .i64 0) 10 Z
  mv : MV = none
  rc : RecAt Z L D (R .done (some .ret))
theorem mv_next {R : Rl} {s : Stg} {MV : Option Res} (hj : s.j < 100) (ha : agn R s.xs s.f = true) (h : mvF R (100 - s.j) s.xs s.ys s.f s.j s.path = MV) : mvF R (100 - (s.next R).j) (s.next R).xs (s.next R).ys (s.next R).f (s.next R).j (s.next R).path = MV := by
  obtain ⟨m, hm⟩ : ∃ m, 100 - s.j = m + 1 := ⟨99 - s.j, by omega⟩
  rw [hm, mvF_yes ha] at h
  have e : 100 - (s.next R).j = m := by show 100 - (s.j + 1) = m; omega
  rw [e]
  exact h
theorem mv_last {R : Rl} {s : Stg} {MV : Option Res} (hj : s.j < 100) (ha : agn R s.xs s.f = false) (h : mvF R (100 - s.j) s.xs s.ys s.f s.j s.path = MV) : MV = some ⟨cx R s.xs s.f s.n, cy R s.ys s.f s.n, lst R s.xs s.f, s.j + 1, s.path ++ lapP R s.f s.n⟩ := by
  obtain ⟨m, hm⟩ : ∃ m, 100 - s.j = m + 1 := ⟨99 - s.j, by omega⟩
  rw [hm, mvF_no ha] at h
  exact h.symm
theorem mv_end {R : Rl} {s : Stg} {MV : Option Res} (hj : ¬ s.j < 100) (h : mvF R (100 - s.j) s.xs s.ys s.f s.j s.path = MV) : MV = none := by
  rw [show 100 - s.j = 0 by omega] at h
  exact h.symm
end Go.Proofs.Ytdhkfkfoibddnaa
