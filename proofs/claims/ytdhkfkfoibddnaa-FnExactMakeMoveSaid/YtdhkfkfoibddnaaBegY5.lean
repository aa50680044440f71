/- The beginning of a move that can be made, as the program makes it. No conditions. -/
import Derived.Test.YtdhkfkfoibddnaaBegin5
namespace Go.Proofs.Ytdhkfkfoibddnaa
open Go.Joins Go.ChangeShapes Go.WideShapes Go.ChangeAt Go.RowKit Go.Deep
set_option linter.unusedVariables false

theorem RuAt.drew {u : World} {b : Nat} {p s c l : Int} {st sk re fe ag : Bool} (h : RuAt u b p s c l st sk re fe ag) : RuAt u.drew b p s c l st sk re fe ag := h
theorem PoAt.set4 {u : World} {d z : Nat} {p1 p2 : Option Addr} {pn1 pc1 pn2 pc2 : Nat} {pp : Int} (h : PoAt u d p1 p2 pn1 pc1 pn2 pc2 pp) (hz : d ≠ z) (x y t q : Value) : PoAt ((((u.setCell ⟨z, 0, none⟩ x).setCell ⟨z, 1, none⟩ y).setCell ⟨z, 2, none⟩ t).setCell ⟨z, 3, none⟩ q) d p1 p2 pn1 pc1 pn2 pc2 pp :=
  h.but (((((But.refl z u).setCell (p := ⟨z, 0, none⟩) rfl x).setCell (p := ⟨z, 1, none⟩) rfl y).setCell (p := ⟨z, 2, none⟩) rfl t).setCell (p := ⟨z, 3, none⟩) rfl q) hz
theorem OnW.set4 {w u : World} {z : Nat} (h : OnW w u) (hz : w.heap.size ≤ z) (x y t q : Value) : OnW w ((((u.setCell ⟨z, 0, none⟩ x).setCell ⟨z, 1, none⟩ y).setCell ⟨z, 2, none⟩ t).setCell ⟨z, 3, none⟩ q) :=
  Below.setCell (OnW.set3 h hz x y t) (p := ⟨z, 3, none⟩) hz _
theorem OnW.bel {w u : World} (h : OnW w u) : Below w.heap.size w u := h
/-- A variable for sown seeds, as it is made. -/
structure Z4 (u : World) (z : Nat) : Prop where
  lt : z < u.heap.size
  c0 : u.cell? ⟨z, 0, none⟩ = some (.slice none 0 0)
  c1 : u.cell? ⟨z, 1, none⟩ = some (.slice none 0 0)
  c2 : u.cell? ⟨z, 2, none⟩ = some (.int .i64 0)
  c3 : u.cell? ⟨z, 3, none⟩ = some (.int .i64 0)
  f0 : u.frozen? ⟨z, 0, none⟩ = false
  f1 : u.frozen? ⟨z, 1, none⟩ = false
  f2 : u.frozen? ⟨z, 2, none⟩ = false
  f3 : u.frozen? ⟨z, 3, none⟩ = false
theorem Z4.below {u v : World} {z : Nat} (h : Z4 u z) (k : Below u.heap.size u v) : Z4 v z :=
  have e := fun o => k.cell (p := ⟨z, o, none⟩) h.lt
  have f := fun o => k.frozen (p := ⟨z, o, none⟩) h.lt
  ⟨Nat.lt_of_lt_of_le h.lt k.size, (e _).trans h.c0, (e _).trans h.c1, (e _).trans h.c2, (e _).trans h.c3, (f _).trans h.f0, (f _).trans h.f1, (f _).trans h.f2, (f _).trans h.f3⟩
theorem Z4.drew {u : World} {z : Nat} (h : Z4 u z) : Z4 u.drew z := h.below (Below.refl _ _).drew
theorem z4_new (u : World) (T : TypeId) : Z4 (u.alloc (.cells #[.slice none 0 0, .slice none 0 0, .int .i64 0, .int .i64 0] T)) u.heap.size :=
  ⟨by simp, by go_simp, by go_simp, by go_simp, by go_simp, by go_simp, by go_simp, by go_simp, by go_simp⟩
/-- A move that begins at pit F, with rows of its own. -/
def BegY (p s c l : Int) (st sk re fe ag : Bool) (pp : Int) (F n1 : Nat) (xs ys : List Int) (w : World) (e : Ending) (w' : World) : Prop :=
  ∃ b5 c5 b6 c6, e = .returned (.tuple #[.agg #[.int .i64 p, .int .i64 s, .bool st, .bool sk, .bool re, .bool fe, .bool ag, .int .i64 c, .int .i64 l, .int .i64 pp, .int .i64 F, .int .i64 0, .slice (some ⟨b5, 0, none⟩) n1 c5, .slice (some ⟨b6, 0, none⟩) 2 c6, .int .i64 0, .int .i64 0], .int .i64 0]) ∧
    OutN w' w.heap.size (some ⟨b5, 0, none⟩) b5 xs ∧ OutN w' w.heap.size (some ⟨b6, 0, none⟩) b6 ys ∧ b5 ≠ b6 ∧ b5 < w'.heap.size ∧ b6 < w'.heap.size ∧ n1 ≤ c5 ∧ 2 ≤ c6 ∧ Below w.heap.size w w'
theorem exit_gen {K : Act → World → Prop} {Q : Exit → Act → World → Prop} {a : Act} {W : World} (F : World → Prop) (hF : F W) (h : ∀ W', F W' → Exit.then K Q .normal a W') : Exit.then K Q .normal a W := h W hF
theorem but4 (z : Nat) (u : World) (x y t q : Value) : But z u ((((u.setCell ⟨z, 0, none⟩ x).setCell ⟨z, 1, none⟩ y).setCell ⟨z, 2, none⟩ t).setCell ⟨z, 3, none⟩ q) :=
  ((((But.refl z u).setCell (p := ⟨z, 0, none⟩) rfl x).setCell (p := ⟨z, 1, none⟩) rfl y).setCell (p := ⟨z, 2, none⟩) rfl t).setCell (p := ⟨z, 3, none⟩) rfl q
theorem Zero16.but {u v : World} {z b : Nat} (h : Zero16 u z) (k : But b u v) (hb : z ≠ b) : Zero16 v z := by
  have e := fun o => k.cell (o := o) h.lt hb
  exact ⟨Nat.lt_of_lt_of_le h.lt k.size, (e _).trans h.c0, (e _).trans h.c1, (e _).trans h.c2, (e _).trans h.c3, (e _).trans h.c4, (e _).trans h.c5, (e _).trans h.c6, (e _).trans h.c7, (e _).trans h.c8, (e _).trans h.c9, (e _).trans h.c10, (e _).trans h.c11, (e _).trans h.c12, (e _).trans h.c13, (e _).trans h.c14, (e _).trans h.c15,
    fun o => (k.frozen h.lt hb).trans (h.fr o)⟩
/-- Everything laid for a move, behind the copies of its rows. -/
structure BegF (w : World) (p s c l : Int) (st sk re fe ag : Bool) (p1 p2 : Option Addr) (pn1 pc1 pn2 pc2 : Nat) (pp : Int) (z b5 c5 b6 c6 n1 : Nat) (xs ys : List Int) (u : World) : Prop where
  po : PoAt u (w.heap.size + 1) p1 p2 pn1 pc1 pn2 pc2 pp
  ru : RuAt u w.heap.size p s c l st sk re fe ag
  zr : Zero16 u (w.heap.size + 1 + 1)
  so : SoAt u z (some ⟨b5, 0, none⟩) (some ⟨b6, 0, none⟩) n1 c5 2 c6 0 0
  o1 : OutN u w.heap.size (some ⟨b5, 0, none⟩) b5 xs
  o2 : OutN u w.heap.size (some ⟨b6, 0, none⟩) b6 ys
  ne : b5 ≠ b6
  l5 : b5 < u.heap.size
  l6 : b6 < u.heap.size
  m5 : w.heap.size + 1 + 1 < b5
  m6 : w.heap.size + 1 + 1 < b6
  k5 : n1 ≤ c5
  k6 : 2 ≤ c6
  on : Below w.heap.size w u
theorem beg_fin {w u : World} (p s c l : Int) (st sk re fe ag : Bool) (p1 p2 : Option Addr) (pn1 pc1 pn2 pc2 : Nat) (pp : Int) {z b5 c5 b6 c6 n1 B1 B2 : Nat} {xs ys : List Int} (hp : PoAt u (w.heap.size + 1) p1 p2 pn1 pc1 pn2 pc2 pp) (hr : RuAt u w.heap.size p s c l st sk re fe ag) (hz : Zero16 u (w.heap.size + 1 + 1)) (ho : OnW w u) (hY : Z4 u z)
    (o1 : OutN u B1 (some ⟨b5, 0, none⟩) b5 xs) (o2 : OutN u B2 (some ⟨b6, 0, none⟩) b6 ys) (ne : b5 ≠ b6) (n5 : b5 ≠ z) (n6 : b6 ≠ z) (l5 : b5 < u.heap.size) (l6 : b6 < u.heap.size) (m5 : w.heap.size + 1 + 1 < b5) (m6 : w.heap.size + 1 + 1 < b6) (mz : w.heap.size + 1 + 1 < z) (hB1 : w.heap.size ≤ B1) (hB2 : w.heap.size ≤ B2) (k5 : n1 ≤ c5) (k6 : 2 ≤ c6) :
    BegF w p s c l st sk re fe ag p1 p2 pn1 pc1 pn2 pc2 pp z b5 c5 b6 c6 n1 xs ys ((((u.setCell ⟨z, 0, none⟩ (.slice (some ⟨b5, 0, none⟩) n1 c5)).setCell ⟨z, 1, none⟩ (.slice (some ⟨b6, 0, none⟩) 2 c6)).setCell ⟨z, 2, none⟩ (.int .i64 0)).setCell ⟨z, 3, none⟩ (.int .i64 0)) := by
  have hb := but4 z u (.slice (some ⟨b5, 0, none⟩) n1 c5) (.slice (some ⟨b6, 0, none⟩) 2 c6) (.int .i64 0) (.int .i64 0)
  obtain ⟨yl, y0, y1, y2, y3, k0, k1, k2, k3⟩ := hY
  exact ⟨hp.but hb (by omega), hr.but hb (by omega), hz.but hb (by omega), ⟨by simpa using yl, by go_simp, by go_simp, by go_simp, by go_simp⟩, (o1.but hb n5).lower hB1, (o2.but hb n6).lower hB2, ne, by simpa using l5, by simpa using l6, m5, m6, k5, k6, ho.set4 (by omega) _ _ _ _⟩
theorem beg_fin2 {w u : World} (p s c l : Int) (st sk re fe ag : Bool) (p1 p2 : Option Addr) (pn1 pc1 pn2 pc2 : Nat) (pp : Int) {b5 c5 b6 c6 n1 B1 B2 : Nat} {xs ys : List Int} (T : TypeId) (hp : PoAt u (w.heap.size + 1) p1 p2 pn1 pc1 pn2 pc2 pp) (hr : RuAt u w.heap.size p s c l st sk re fe ag) (hz : Zero16 u (w.heap.size + 1 + 1)) (ho : OnW w u)
    (o1 : OutN u B1 (some ⟨b5, 0, none⟩) b5 xs) (o2 : OutN u B2 (some ⟨b6, 0, none⟩) b6 ys) (ne : b5 ≠ b6) (l5 : b5 < u.heap.size) (l6 : b6 < u.heap.size) (m5 : w.heap.size + 1 + 1 < b5) (m6 : w.heap.size + 1 + 1 < b6) (hB1 : w.heap.size ≤ B1) (hB2 : w.heap.size ≤ B2) (k5 : n1 ≤ c5) (k6 : 2 ≤ c6) :
    BegF w p s c l st sk re fe ag p1 p2 pn1 pc1 pn2 pc2 pp u.heap.size b5 c5 b6 c6 n1 xs ys (u.alloc (.cells #[.slice (some ⟨b5, 0, none⟩) n1 c5, .slice (some ⟨b6, 0, none⟩) 2 c6, .int .i64 0, .int .i64 0] T)) :=
  ⟨hp.below (al1 _ _), hr.below (al1 _ _), hz.below (al1 _ _), so_new _ _ _ _ _ _ _ _ u T, (o1.below (al1 _ _)).lower hB1, (o2.below (al1 _ _)).lower hB2, ne, by simp; omega, by simp; omega, m5, m6, k5, k6, OnW.below ho (al1 _ _)⟩
/-- The frame behind the copies. -/
def BegM (w : World) (p s c l : Int) (st sk re fe ag : Bool) (g o : Nat) (p2 : Option Addr) (pn1 pc1 pc2 : Nat) (pp : Int) (F : Nat) (move xv : Int) (xs ys : List Int) (e : Exit) (a : Act) (W : World) : Prop :=
  e = .normal ∧ ∃ z b5 c5 b6 c6, a = { tmps := #[.agg #[.int .i64 p, .int .i64 s, .bool st, .bool sk, .bool re, .bool fe, .bool ag, .int .i64 c, .int .i64 l], .agg #[.slice (some ⟨g, o, none⟩) pn1 pc1, .slice p2 2 pc2, .int .i64 pp], .int .i64 move, .pointer (some ⟨w.heap.size, 0, none⟩), .pointer (some ⟨w.heap.size + 1, 0, none⟩), undef, .pointer (some ⟨w.heap.size + 1 + 1, 0, none⟩), .int .i64 0, .int .i64 F, .int .i64 0, .pointer (some ⟨z, 0, none⟩), .agg #[.int .i64 p, .int .i64 s, .bool st, .bool sk, .bool re, .bool fe, .bool ag, .int .i64 c, .int .i64 l], .agg #[.slice (some ⟨g, o, none⟩) pn1 pc1, .slice p2 2 pc2, .int .i64 pp], .bool true, .bool false, undef, .tuple #[.int .i64 F, .int .i64 0], .agg #[.int .i64 p, .int .i64 s, .bool st, .bool sk, .bool re, .bool fe, .bool ag, .int .i64 c, .int .i64 l], .pointer (some ⟨w.heap.size + 1, 2, none⟩), .int .i64 pp, .int .i64 move, .tuple #[.int .i64 F, .int .i64 0], .int .i64 F, .int .i64 0, .int .i64 0, .bool false, undef, undef, .pointer (some ⟨w.heap.size + 1, 0, none⟩), .slice (some ⟨g, o, none⟩) pn1 pc1, .int .i64 F, .pointer (some ⟨g, o + F, none⟩), .int .i64 xv, .bool false, undef, .pointer (some ⟨w.heap.size + 1, 0, none⟩), .slice (some ⟨g, o, none⟩) pn1 pc1, .slice (some ⟨b5, 0, none⟩) pn1 c5, .pointer (some ⟨w.heap.size + 1, 1, none⟩), .slice p2 2 pc2, .slice (some ⟨b6, 0, none⟩) 2 c6, .agg #[.slice (some ⟨b5, 0, none⟩) pn1 c5, .slice (some ⟨b6, 0, none⟩) 2 c6, .int .i64 0, .int .i64 0], undef, undef, undef, undef, undef, undef], defers := [] } ∧ BegF w p s c l st sk re fe ag (some ⟨g, o, none⟩) p2 pn1 pc1 2 pc2 pp z b5 c5 b6 c6 pn1 xs ys W
set_option maxHeartbeats 8000000 in
set_option maxRecDepth 100000 in
theorem begin_yes (p s c l : Int) (st sk re fe ag : Bool) (p1 p2 : Option Addr) (pn1 pc1 pn2 pc2 : Nat) (pp : Int) (xs ys : List Int) (move : Int) (w : World) (h : PosR w p1 p2 pn1 pn2 xs ys) (hk : okP (okR p s c l st ag) p pn1 pn2 pp xs ys = true) (F : Nat) (hF : F < pn1) (hf : pp * p + move = F) (hm0 : 0 ≤ move) (hm1 : move < p) (he : xs.getD F 0 ≠ 0) :
    Calls Try.prog 87 #[.agg #[.int .i64 p, .int .i64 s, .bool st, .bool sk, .bool re, .bool fe, .bool ag, .int .i64 c, .int .i64 l], .agg #[.slice p1 pn1 pc1, .slice p2 pn2 pc2, .int .i64 pp], .int .i64 move] w (BegY p s c l st sk re fe ag pp F pn1 xs ys w) := by
  have H := Lib.hid h
  have HS := Lib.hid (beg_new p s c l st sk re fe ag p1 p2 pn1 pc1 pn2 pc2 pp w 30 32 109)
  have Hk := Lib.hid hk
  have hok := okP_parts hk
  have hmc : moveC (okR p s c l st ag) p pp move = 0 := by
    rw [hok.1]
    simp only [moveC]
    rw [if_pos trivial, if_pos ⟨hok.2.2.2.1, hm0, hm1⟩]
  have Hm := Lib.hid hmc
  have Hv : Hid (movV 0 (pp * p + move) = F) := Lib.hid hf
  have hle1 : pn1 ≤ 1000000000000 := by have := h.r1.1; rwa [h.l1] at this
  have hle2 : pn2 ≤ 1000000000000 := by have := h.r2.1; rwa [h.l2] at this
  obtain ⟨xv, hxv⟩ : ∃ xv, xs.getD F 0 = xv := ⟨_, rfl⟩
  have hx : xs[F]? = some xv := by rw [← hxv]; exact getD_at (by rw [h.l1]; exact hF)
  have Hx := Lib.hid hx
  have hd : (xv == 0) = false := by rw [hxv] at he; simpa using he
  have p0 : (F : Int) < (pn1 : Int) := by omega
  have HN1 : Hid (xs ≠ []) := Lib.hid (by intro e; have := h.l1; subst e; simp at this; omega)
  have HN2 : Hid (ys ≠ []) := Lib.hid (by intro e; have := h.l2; have := hok.2.2.1; subst e; simp at *; omega)
  have hp2 : pn2 = 2 := hok.2.2.1
  subst hp2
  clear h hk hok hmc hf he hx hxv
  have hd0 := hd
  go_enter Try.func87, Try.ntmps87
  go_wp2_with fail
  refine (implValid_any p s c l st sk re fe ag p1 p2 pn1 pc1 2 pc2 pp xs ys _ (H.out.below HS.out.rp.2.2)).mono ?_
  rintro e u ⟨rfl, hb⟩
  rw [Hk.out]
  have HS := Lib.hid (HS.out.below hb)
  obtain ⟨_, g0, g1, g2, g3, g4, g5, g6, g7, g8⟩ := HS.out.rp.1
  obtain ⟨_, t0, t1, t2⟩ := HS.out.rp.2.1
  clear hb
  go_wp2_with fail
  refine (impl_pitof p s c l st sk re fe ag pp move _).mono ?_
  rintro e u2 ⟨rfl, hb2⟩
  rw [Hm.out, Hv.out]
  have HS := Lib.hid (HS.out.below hb2)
  clear hb2 g0 g1 g2 g3 g4 g5 g6 g7 g8 t0 t1 t2
  obtain ⟨_, t0, t1, t2⟩ := HS.out.rp.2.1
  obtain ⟨g, o, rfl, hc0⟩ := cell_of (H.out.below HS.out.rp.2.2).r1 Hx.out
  go_upto_region 8 with fail
  have HP := Lib.hid HS.out.rp.2.1
  have HU := Lib.hid HS.out.rp.1
  have HB := Lib.hid (show OnW w u2 from HS.out.rp.2.2)
  have HZ := Lib.hid HS.out.z
  have nz0 := HP.out.1
  have nb0 := HB.out.size
  clear HS t0 t1 t2 hc0
  have HT : Hid (∀ u : World, PoAt u (w.heap.size + 1) (some ⟨g, o, none⟩) p2 pn1 pc1 2 pc2 pp → OnW w u → (w.heap.size + 1 < u.heap.size ∧ u.cell? ⟨w.heap.size + 1, 0, none⟩ = some (.slice (some ⟨g, o, none⟩) pn1 pc1) ∧ u.cell? ⟨w.heap.size + 1, 1, none⟩ = some (.slice p2 2 pc2) ∧ u.cell? ⟨w.heap.size + 1, 2, none⟩ = some (.int .i64 pp)) ∧ Below w.heap.size w u) := Lib.hid (fun u h k => ⟨h, k⟩)
  refine wp_mono (Q := BegM w p s c l st sk re fe ag g o p2 pn1 pc1 pc2 pp F move xv xs ys) ?_ ?_
  rotate_left
  · clear HP HU HB HZ HT
    rintro e a7 W7 ⟨rfl, z, b5, c5, b6, c6, rfl, hF⟩
    have HF := Lib.hid hF
    obtain ⟨_, t0, t1, t2⟩ := hF.po
    obtain ⟨_, g0, g1, g2, g3, g4, g5, g6, g7, g8⟩ := hF.ru
    obtain ⟨_, s0, s1, s2, s3⟩ := hF.so
    obtain ⟨zl, z0, z1, z2, z3, z4, z5, z6, z7, z8, z9, z10, z11, z12, z13, z14, z15, zf⟩ := hF.zr
    have f0 := zf 0
    have f1 := zf 1
    have f2 := zf 2
    have f3 := zf 3
    have f4 := zf 4
    have f5 := zf 5
    have f6 := zf 6
    have f7 := zf 7
    have f8 := zf 8
    have f9 := zf 9
    have f10 := zf 10
    have f11 := zf 11
    have f12 := zf 12
    have f13 := zf 13
    have f14 := zf 14
    have f15 := zf 15
    have mm5 : b5 ≠ w.heap.size + 1 + 1 := by have := hF.m5; omega
    have mm6 : b6 ≠ w.heap.size + 1 + 1 := by have := hF.m6; omega
    clear hF zf
    go_wp2_with fail
    refine bodyPost_ret (v := .tuple #[.agg #[.int .i64 p, .int .i64 s, .bool st, .bool sk, .bool re, .bool fe, .bool ag, .int .i64 c, .int .i64 l, .int .i64 pp, .int .i64 F, .int .i64 0, .slice (some ⟨b5, 0, none⟩) pn1 c5, .slice (some ⟨b6, 0, none⟩) 2 c6, .int .i64 0, .int .i64 0], .int .i64 0]) (by simp [results, Try.results87, go_sem, z0, z1, z2, z3, z4, z5, z6, z7, z8, z9, z10, z11, z12, z13, z14, z15]) rfl ?_
    exact ⟨b5, c5, b6, c6, rfl, HF.out.o1.but (but16 _ _ _ _ _ _ _ _ _ _ _ _ _ _ _ _ _ _) mm5, HF.out.o2.but (but16 _ _ _ _ _ _ _ _ _ _ _ _ _ _ _ _ _ _) mm6, HF.out.ne, by simpa using HF.out.l5, by simpa using HF.out.l6, HF.out.k5, HF.out.k6, below16 HF.out.on (by omega) _ _ _ _ _ _ _ _ _ _ _ _ _ _ _ _⟩
  go_region_held3 (fun u => (w.heap.size + 1 < u.heap.size ∧ u.cell? ⟨w.heap.size + 1, 0, none⟩ = some (.slice (some ⟨g, o, none⟩) pn1 pc1) ∧ u.cell? ⟨w.heap.size + 1, 1, none⟩ = some (.slice p2 2 pc2) ∧ u.cell? ⟨w.heap.size + 1, 2, none⟩ = some (.int .i64 pp)) ∧ Below w.heap.size w u) (first | with_reducible exact HT.out _ HP.out HB.out | with_reducible exact HT.out _ HP.out.drew HB.out.drew | with_reducible exact HT.out _ (HP.out.below (al1 _ _)) (HB.out.below (al1 _ _)) | with_reducible exact HT.out _ (HP.out.drew.below (al1 _ _)) (HB.out.drew.below (al1 _ _)) | with_reducible exact HT.out _ (HP.out.below (al1 _ _)).drew (HB.out.below (al1 _ _)).drew | with_reducible exact HT.out _ (HP.out.set4 (by omega) _ _ _ _) (HB.out.set4 (by omega) _ _ _ _) | with_reducible exact HT.out _ ((HP.out.below (al1 _ _)).set4 (by omega) _ _ _ _) ((HB.out.below (al1 _ _)).set4 (by omega) _ _ _ _))
    (first
    | (go_at_call 76; (with_reducible refine (clone_any (some ⟨g, o, none⟩) pc1 pn1 xs _ H.out.l1 ?_ HN1.out).mono ?_); (first | with_reducible exact H.out.r1.below (HB.out).bel | with_reducible exact H.out.r1.below (HB.out.drew).bel | with_reducible exact H.out.r1.below (HB.out.below (al1 _ _)).bel | with_reducible exact H.out.r1.below (HB.out.drew.below (al1 _ _)).bel | with_reducible exact H.out.r1.below ((HB.out.below (al1 _ _)).drew).bel); rintro e w5 ⟨v1, rfl, hown, hb5⟩; (obtain ⟨c5, b5, rfl, o5, hlt5, hc5⟩ := outN_own hown H.out.l1 hle1 HN1.out); have O1 := Lib.hid o5; have nb1 := o5.new; have nz1 := HZ.out.lt; (first | have HY := Lib.hid ((z4_new u2 50).drew.below hb5) | have HY := Lib.hid ((z4_new u2.drew 50).below hb5) | have HY := Lib.hid ((z4_new u2 50).below hb5) | skip); (first | have HP := Lib.hid (HP.out.below hb5) | have HP := Lib.hid (HP.out.drew.below hb5) | have HP := Lib.hid ((HP.out.below (al1 _ _)).below hb5) | have HP := Lib.hid ((HP.out.below (al1 _ _)).drew.below hb5)); (first | have HU := Lib.hid (HU.out.below hb5) | have HU := Lib.hid (HU.out.drew.below hb5) | have HU := Lib.hid ((HU.out.below (al1 _ _)).below hb5) | have HU := Lib.hid ((HU.out.below (al1 _ _)).drew.below hb5)); (first | have HB := Lib.hid (HB.out.below hb5) | have HB := Lib.hid (HB.out.drew.below hb5) | have HB := Lib.hid ((HB.out.below (al1 _ _)).below hb5) | have HB := Lib.hid ((HB.out.below (al1 _ _)).drew.below hb5)); (first | have HZ := Lib.hid (HZ.out.below hb5) | have HZ := Lib.hid (HZ.out.drew.below hb5) | have HZ := Lib.hid ((HZ.out.below (al1 _ _)).below hb5) | have HZ := Lib.hid ((HZ.out.below (al1 _ _)).drew.below hb5)); have nz5 := HP.out.1; have nb5 := HB.out.size; clear hown hb5 o5)
    | (go_at_call 76; (with_reducible refine (clone_any p2 pc2 2 ys _ H.out.l2 ?_ HN2.out).mono ?_); (first | with_reducible exact H.out.r2.below (HB.out).bel | with_reducible exact H.out.r2.below (HB.out.drew).bel | with_reducible exact H.out.r2.below (HB.out.below (al1 _ _)).bel | with_reducible exact H.out.r2.below (HB.out.drew.below (al1 _ _)).bel | with_reducible exact H.out.r2.below ((HB.out.below (al1 _ _)).drew).bel); rintro e w6 ⟨v2, rfl, hown, hb6⟩; (obtain ⟨c6, b6, rfl, o6, hlt6, hc6⟩ := outN_own hown H.out.l2 hle2 HN2.out); have O2 := Lib.hid o6; have nb2 := o6.new; have nz2 := HZ.out.lt; (first | have HY := Lib.hid (HY.out.below hb6) | have HY := Lib.hid (HY.out.drew.below hb6) | have HY := Lib.hid ((z4_new w5 50).below hb6) | have HY := Lib.hid ((z4_new w5 50).drew.below hb6) | have HY := Lib.hid ((z4_new w5.drew 50).below hb6) | skip); (try obtain ⟨yz, y0, y1, y2, y3, k0, k1, k2, k3⟩ := HY.out); (first | have HP := Lib.hid (HP.out.below hb6) | have HP := Lib.hid (HP.out.drew.below hb6) | have HP := Lib.hid ((HP.out.below (al1 _ _)).below hb6) | have HP := Lib.hid ((HP.out.below (al1 _ _)).drew.below hb6)); (first | have HU := Lib.hid (HU.out.below hb6) | have HU := Lib.hid (HU.out.drew.below hb6) | have HU := Lib.hid ((HU.out.below (al1 _ _)).below hb6) | have HU := Lib.hid ((HU.out.below (al1 _ _)).drew.below hb6)); (first | have HB := Lib.hid (HB.out.below hb6) | have HB := Lib.hid (HB.out.drew.below hb6) | have HB := Lib.hid ((HB.out.below (al1 _ _)).below hb6) | have HB := Lib.hid ((HB.out.below (al1 _ _)).drew.below hb6)); (first | have HZ := Lib.hid (HZ.out.below hb6) | have HZ := Lib.hid (HZ.out.drew.below hb6) | have HZ := Lib.hid ((HZ.out.below (al1 _ _)).below hb6) | have HZ := Lib.hid ((HZ.out.below (al1 _ _)).drew.below hb6)); (first | have O1 := Lib.hid (O1.out.below hb6) | have O1 := Lib.hid (O1.out.drew.below hb6) | have O1 := Lib.hid ((O1.out.below (al1 _ _)).below hb6) | have O1 := Lib.hid ((O1.out.below (al1 _ _)).drew.below hb6)); have nz6 := HP.out.1; have nb6 := HB.out.size; clear hown hb6 o6))
  all_goals
    (try simp at nb1)
    (try simp at nb2)
    first
    | with_reducible exact ⟨rfl, _, _, _, _, _, rfl, beg_fin _ _ _ _ _ _ _ _ _ _ _ _ _ _ _ _ HP.out HU.out HZ.out HB.out HY.out O1.out O2.out (by omega) (by omega) (by omega) (by omega) (by omega) (by omega) (by omega) (by omega) (by (try simp); omega) (by (try simp); omega) hc5 hc6⟩
    | with_reducible exact ⟨rfl, _, _, _, _, _, rfl, beg_fin2 _ _ _ _ _ _ _ _ _ _ _ _ _ _ _ _ _ HP.out HU.out HZ.out HB.out O1.out O2.out (by omega) (by omega) (by omega) (by omega) (by omega) (by (try simp); omega) (by (try simp); omega) hc5 hc6⟩
    | exact ⟨rfl, _, _, _, _, _, rfl, beg_fin _ _ _ _ _ _ _ _ _ _ _ _ _ _ _ _ HP.out HU.out HZ.out HB.out HY.out O1.out O2.out (by omega) (by omega) (by omega) (by omega) (by omega) (by omega) (by omega) (by omega) (by (try simp); omega) (by (try simp); omega) hc5 hc6⟩
    | exact ⟨rfl, _, _, _, _, _, rfl, beg_fin2 _ _ _ _ _ _ _ _ _ _ _ _ _ _ _ _ _ HP.out HU.out HZ.out HB.out O1.out O2.out (by omega) (by omega) (by omega) (by omega) (by omega) (by (try simp); omega) (by (try simp); omega) hc5 hc6⟩
end Go.Proofs.Ytdhkfkfoibddnaa
