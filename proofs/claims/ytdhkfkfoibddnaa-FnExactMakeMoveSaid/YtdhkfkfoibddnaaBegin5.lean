/- The beginning of a move, as the program makes it. No conditions. -/
import Derived.Test.YtdhkfkfoibddnaaView4
import Derived.Test.YtdhkfkfoibddnaaValid4
import Derived.Test.YtdhkfkfoibddnaaCh2More
import Derived.Test.YtdhkfkfoibddnaaSw5
import Derived.Test.YtdhkfkfoibddnaaCmp4
namespace Go.Proofs.Ytdhkfkfoibddnaa
open Go.Joins Go.ChangeShapes Go.WideShapes Go.ChangeAt Go.RowKit Go.Deep
set_option linter.unusedVariables false

/-- A variable for a move, as it is made. -/
structure Zero16 (u : World) (z : Nat) : Prop where
  lt : z < u.heap.size
  c0 : u.cell? ⟨z, 0, none⟩ = some (.int .i64 0)
  c1 : u.cell? ⟨z, 1, none⟩ = some (.int .i64 0)
  c2 : u.cell? ⟨z, 2, none⟩ = some (.bool false)
  c3 : u.cell? ⟨z, 3, none⟩ = some (.bool false)
  c4 : u.cell? ⟨z, 4, none⟩ = some (.bool false)
  c5 : u.cell? ⟨z, 5, none⟩ = some (.bool false)
  c6 : u.cell? ⟨z, 6, none⟩ = some (.bool false)
  c7 : u.cell? ⟨z, 7, none⟩ = some (.int .i64 0)
  c8 : u.cell? ⟨z, 8, none⟩ = some (.int .i64 0)
  c9 : u.cell? ⟨z, 9, none⟩ = some (.int .i64 0)
  c10 : u.cell? ⟨z, 10, none⟩ = some (.int .i64 0)
  c11 : u.cell? ⟨z, 11, none⟩ = some (.int .i64 0)
  c12 : u.cell? ⟨z, 12, none⟩ = some (.slice none 0 0)
  c13 : u.cell? ⟨z, 13, none⟩ = some (.slice none 0 0)
  c14 : u.cell? ⟨z, 14, none⟩ = some (.int .i64 0)
  c15 : u.cell? ⟨z, 15, none⟩ = some (.int .i64 0)
  fr : ∀ o, u.frozen? ⟨z, o, none⟩ = false
theorem Zero16.below {u v : World} {z : Nat} (h : Zero16 u z) (k : Below u.heap.size u v) : Zero16 v z := by
  have e := fun o => k.cell (p := ⟨z, o, none⟩) h.lt
  exact ⟨Nat.lt_of_lt_of_le h.lt k.size, (e _).trans h.c0, (e _).trans h.c1, (e _).trans h.c2, (e _).trans h.c3, (e _).trans h.c4, (e _).trans h.c5, (e _).trans h.c6, (e _).trans h.c7, (e _).trans h.c8, (e _).trans h.c9, (e _).trans h.c10, (e _).trans h.c11, (e _).trans h.c12, (e _).trans h.c13, (e _).trans h.c14, (e _).trans h.c15,
    fun o => (k.frozen (p := ⟨z, o, none⟩) h.lt).trans (h.fr o)⟩
theorem Zero16.drew {u : World} {z : Nat} (h : Zero16 u z) : Zero16 u.drew z := h.below (Below.refl _ _).drew
theorem zero16_new (w : World) (T : TypeId) : Zero16 (w.alloc (.cells #[.int .i64 0, .int .i64 0, .bool false, .bool false, .bool false, .bool false, .bool false, .int .i64 0, .int .i64 0, .int .i64 0, .int .i64 0, .int .i64 0, .slice none 0 0, .slice none 0 0, .int .i64 0, .int .i64 0] T)) w.heap.size :=
  ⟨by simp, by go_simp, by go_simp, by go_simp, by go_simp, by go_simp, by go_simp, by go_simp, by go_simp, by go_simp, by go_simp, by go_simp, by go_simp, by go_simp, by go_simp, by go_simp, by go_simp, fun o => by go_simp⟩
/-- Rules, a position and a variable for a move, one after the other. -/
structure BegAt (w : World) (p s c l : Int) (st sk re fe ag : Bool) (p1 p2 : Option Addr) (pn1 pc1 pn2 pc2 : Nat) (pp : Int) (u : World) : Prop where
  rp : RpAt w p s c l st sk re fe ag p1 p2 pn1 pc1 pn2 pc2 pp u
  z : Zero16 u (w.heap.size + 1 + 1)
theorem BegAt.below {w u v : World} {p s c l : Int} {st sk re fe ag : Bool} {p1 p2 : Option Addr} {pn1 pc1 pn2 pc2 : Nat} {pp : Int} (h : BegAt w p s c l st sk re fe ag p1 p2 pn1 pc1 pn2 pc2 pp u) (k : Below u.heap.size u v) : BegAt w p s c l st sk re fe ag p1 p2 pn1 pc1 pn2 pc2 pp v := ⟨h.rp.below k, h.z.below k⟩
theorem beg_new (p s c l : Int) (st sk re fe ag : Bool) (p1 p2 : Option Addr) (pn1 pc1 pn2 pc2 : Nat) (pp : Int) (w : World) (T U V : TypeId) : BegAt w p s c l st sk re fe ag p1 p2 pn1 pc1 pn2 pc2 pp (((w.alloc (.cells #[.int .i64 p, .int .i64 s, .bool st, .bool sk, .bool re, .bool fe, .bool ag, .int .i64 c, .int .i64 l] T)).alloc (.cells #[.slice p1 pn1 pc1, .slice p2 pn2 pc2, .int .i64 pp] U)).alloc (.cells #[.int .i64 0, .int .i64 0, .bool false, .bool false, .bool false, .bool false, .bool false, .int .i64 0, .int .i64 0, .int .i64 0, .int .i64 0, .int .i64 0, .slice none 0 0, .slice none 0 0, .int .i64 0, .int .i64 0] V)) :=
  ⟨(rp_new p s c l st sk re fe ag p1 p2 pn1 pc1 pn2 pc2 pp w T U).below (al1 _ _), by have := zero16_new ((w.alloc (.cells #[.int .i64 p, .int .i64 s, .bool st, .bool sk, .bool re, .bool fe, .bool ag, .int .i64 c, .int .i64 l] T)).alloc (.cells #[.slice p1 pn1 pc1, .slice p2 pn2 pc2, .int .i64 pp] U)) V; simpa using this⟩
/-- The zero of a move, with a code. -/
def BegZ (k : Int) (w : World) (e : Ending) (w' : World) : Prop :=
  e = .returned (.tuple #[.agg #[.int .i64 0, .int .i64 0, .bool false, .bool false, .bool false, .bool false, .bool false, .int .i64 0, .int .i64 0, .int .i64 0, .int .i64 0, .int .i64 0, .slice none 0 0, .slice none 0 0, .int .i64 0, .int .i64 0], .int .i64 k]) ∧ Below w.heap.size w w'

/-- Sixteen cells of a block that is not below B are written. -/
theorem below16 {B z : Nat} {w u : World} (h : Below B w u) (hz : B ≤ z) (x0 x1 x2 x3 x4 x5 x6 x7 x8 x9 x10 x11 x12 x13 x14 x15 : Value) : Below B w ((((((((((((((((u.setCell ⟨z, 0, none⟩ x0).setCell ⟨z, 1, none⟩ x1).setCell ⟨z, 2, none⟩ x2).setCell ⟨z, 3, none⟩ x3).setCell ⟨z, 4, none⟩ x4).setCell ⟨z, 5, none⟩ x5).setCell ⟨z, 6, none⟩ x6).setCell ⟨z, 7, none⟩ x7).setCell ⟨z, 8, none⟩ x8).setCell ⟨z, 9, none⟩ x9).setCell ⟨z, 10, none⟩ x10).setCell ⟨z, 11, none⟩ x11).setCell ⟨z, 12, none⟩ x12).setCell ⟨z, 13, none⟩ x13).setCell ⟨z, 14, none⟩ x14).setCell ⟨z, 15, none⟩ x15) :=
  ((((((((((((((((h.setCell (p := ⟨z, 0, none⟩) hz x0).setCell (p := ⟨z, 1, none⟩) hz x1).setCell (p := ⟨z, 2, none⟩) hz x2).setCell (p := ⟨z, 3, none⟩) hz x3).setCell (p := ⟨z, 4, none⟩) hz x4).setCell (p := ⟨z, 5, none⟩) hz x5).setCell (p := ⟨z, 6, none⟩) hz x6).setCell (p := ⟨z, 7, none⟩) hz x7).setCell (p := ⟨z, 8, none⟩) hz x8).setCell (p := ⟨z, 9, none⟩) hz x9).setCell (p := ⟨z, 10, none⟩) hz x10).setCell (p := ⟨z, 11, none⟩) hz x11).setCell (p := ⟨z, 12, none⟩) hz x12).setCell (p := ⟨z, 13, none⟩) hz x13).setCell (p := ⟨z, 14, none⟩) hz x14).setCell (p := ⟨z, 15, none⟩) hz x15)
theorem but16 (z : Nat) (u : World) (x0 x1 x2 x3 x4 x5 x6 x7 x8 x9 x10 x11 x12 x13 x14 x15 : Value) : But z u ((((((((((((((((u.setCell ⟨z, 0, none⟩ x0).setCell ⟨z, 1, none⟩ x1).setCell ⟨z, 2, none⟩ x2).setCell ⟨z, 3, none⟩ x3).setCell ⟨z, 4, none⟩ x4).setCell ⟨z, 5, none⟩ x5).setCell ⟨z, 6, none⟩ x6).setCell ⟨z, 7, none⟩ x7).setCell ⟨z, 8, none⟩ x8).setCell ⟨z, 9, none⟩ x9).setCell ⟨z, 10, none⟩ x10).setCell ⟨z, 11, none⟩ x11).setCell ⟨z, 12, none⟩ x12).setCell ⟨z, 13, none⟩ x13).setCell ⟨z, 14, none⟩ x14).setCell ⟨z, 15, none⟩ x15) :=
  (((((((((((((((((But.refl z u).setCell (p := ⟨z, 0, none⟩) rfl x0).setCell (p := ⟨z, 1, none⟩) rfl x1).setCell (p := ⟨z, 2, none⟩) rfl x2).setCell (p := ⟨z, 3, none⟩) rfl x3).setCell (p := ⟨z, 4, none⟩) rfl x4).setCell (p := ⟨z, 5, none⟩) rfl x5).setCell (p := ⟨z, 6, none⟩) rfl x6).setCell (p := ⟨z, 7, none⟩) rfl x7).setCell (p := ⟨z, 8, none⟩) rfl x8).setCell (p := ⟨z, 9, none⟩) rfl x9).setCell (p := ⟨z, 10, none⟩) rfl x10).setCell (p := ⟨z, 11, none⟩) rfl x11).setCell (p := ⟨z, 12, none⟩) rfl x12).setCell (p := ⟨z, 13, none⟩) rfl x13).setCell (p := ⟨z, 14, none⟩) rfl x14).setCell (p := ⟨z, 15, none⟩) rfl x15)
set_option maxHeartbeats 4000000 in
set_option maxRecDepth 100000 in
theorem begin_invalid (p s c l : Int) (st sk re fe ag : Bool) (p1 p2 : Option Addr) (pn1 pc1 pn2 pc2 : Nat) (pp : Int) (xs ys : List Int) (move : Int) (w : World) (h : PosR w p1 p2 pn1 pn2 xs ys) (hk : okP (okR p s c l st ag) p pn1 pn2 pp xs ys = false) :
    Calls Try.prog 87 #[.agg #[.int .i64 p, .int .i64 s, .bool st, .bool sk, .bool re, .bool fe, .bool ag, .int .i64 c, .int .i64 l], .agg #[.slice p1 pn1 pc1, .slice p2 pn2 pc2, .int .i64 pp], .int .i64 move] w (BegZ 1 w) := by
  have H := Lib.hid h
  have HS := Lib.hid (beg_new p s c l st sk re fe ag p1 p2 pn1 pc1 pn2 pc2 pp w 30 32 109)
  have Hk := Lib.hid hk
  clear h hk
  go_enter Try.func87, Try.ntmps87
  go_wp2_with fail
  refine (implValid_any p s c l st sk re fe ag p1 p2 pn1 pc1 pn2 pc2 pp xs ys _ (H.out.below HS.out.rp.2.2)).mono ?_
  rintro e u ⟨rfl, hb⟩
  rw [Hk.out]
  have HS := Lib.hid (HS.out.below hb)
  obtain ⟨zl, z0, z1, z2, z3, z4, z5, z6, z7, z8, z9, z10, z11, z12, z13, z14, z15, zf⟩ := HS.out.z
  have f0 := zf 0
  have f1 := zf 1
  have f2 := zf 2
  have f3 := zf 3
  have f4 := zf 4
  have f5 := zf 5
  have f6 := zf 6
  have f7 := zf 7
  have f8 := zf 8
  have f9 := zf 9
  have f10 := zf 10
  have f11 := zf 11
  have f12 := zf 12
  have f13 := zf 13
  have f14 := zf 14
  have f15 := zf 15
  clear hb zf
  go_wp2_with fail
  refine bodyPost_ret (v := .tuple #[.agg #[.int .i64 0, .int .i64 0, .bool false, .bool false, .bool false, .bool false, .bool false, .int .i64 0, .int .i64 0, .int .i64 0, .int .i64 0, .int .i64 0, .slice none 0 0, .slice none 0 0, .int .i64 0, .int .i64 0], .int .i64 1]) (by simp [results, Try.results87, go_sem, z0, z1, z2, z3, z4, z5, z6, z7, z8, z9, z10, z11, z12, z13, z14, z15]) rfl ⟨rfl, ?_⟩
  exact below16 HS.out.rp.2.2 (by omega) _ _ _ _ _ _ _ _ _ _ _ _ _ _ _ _
set_option maxHeartbeats 4000000 in
set_option maxRecDepth 100000 in
theorem begin_range (p s c l : Int) (st sk re fe ag : Bool) (p1 p2 : Option Addr) (pn1 pc1 pn2 pc2 : Nat) (pp : Int) (xs ys : List Int) (move : Int) (w : World) (h : PosR w p1 p2 pn1 pn2 xs ys) (hk : okP (okR p s c l st ag) p pn1 pn2 pp xs ys = true) (hm : ¬ (0 ≤ move ∧ move < p)) :
    Calls Try.prog 87 #[.agg #[.int .i64 p, .int .i64 s, .bool st, .bool sk, .bool re, .bool fe, .bool ag, .int .i64 c, .int .i64 l], .agg #[.slice p1 pn1 pc1, .slice p2 pn2 pc2, .int .i64 pp], .int .i64 move] w (BegZ 2 w) := by
  have H := Lib.hid h
  have HS := Lib.hid (beg_new p s c l st sk re fe ag p1 p2 pn1 pc1 pn2 pc2 pp w 30 32 109)
  have Hk := Lib.hid hk
  have hok := okP_parts hk
  have hmc : moveC (okR p s c l st ag) p pp move = 2 := by
    rw [hok.1]
    simp only [moveC]
    rw [if_pos trivial, if_neg (fun h => hm h.2)]
  have Hm := Lib.hid hmc
  have Hv : Hid (movV 2 (pp * p + move) = 0) := Lib.hid rfl
  clear h hk hok hmc hm
  go_enter Try.func87, Try.ntmps87
  go_wp2_with fail
  refine (implValid_any p s c l st sk re fe ag p1 p2 pn1 pc1 pn2 pc2 pp xs ys _ (H.out.below HS.out.rp.2.2)).mono ?_
  rintro e u ⟨rfl, hb⟩
  rw [Hk.out]
  have HS := Lib.hid (HS.out.below hb)
  obtain ⟨_, g0, g1, g2, g3, g4, g5, g6, g7, g8⟩ := HS.out.rp.1
  obtain ⟨_, t0, t1, t2⟩ := HS.out.rp.2.1
  clear hb
  go_wp2_with fail
  refine (impl_pitof p s c l st sk re fe ag pp move _).mono ?_
  rintro e u2 ⟨rfl, hb2⟩
  rw [Hm.out, Hv.out]
  have HS := Lib.hid (HS.out.below hb2)
  clear hb2 g0 g1 g2 g3 g4 g5 g6 g7 g8 t0 t1 t2
  obtain ⟨zl, z0, z1, z2, z3, z4, z5, z6, z7, z8, z9, z10, z11, z12, z13, z14, z15, zf⟩ := HS.out.z
  have f0 := zf 0
  have f1 := zf 1
  have f2 := zf 2
  have f3 := zf 3
  have f4 := zf 4
  have f5 := zf 5
  have f6 := zf 6
  have f7 := zf 7
  have f8 := zf 8
  have f9 := zf 9
  have f10 := zf 10
  have f11 := zf 11
  have f12 := zf 12
  have f13 := zf 13
  have f14 := zf 14
  have f15 := zf 15
  clear zf
  go_wp2_with fail
  refine bodyPost_ret (v := .tuple #[.agg #[.int .i64 0, .int .i64 0, .bool false, .bool false, .bool false, .bool false, .bool false, .int .i64 0, .int .i64 0, .int .i64 0, .int .i64 0, .int .i64 0, .slice none 0 0, .slice none 0 0, .int .i64 0, .int .i64 0], .int .i64 2]) (by simp [results, Try.results87, go_sem, z0, z1, z2, z3, z4, z5, z6, z7, z8, z9, z10, z11, z12, z13, z14, z15]) rfl ⟨rfl, ?_⟩
  exact below16 HS.out.rp.2.2 (by omega) _ _ _ _ _ _ _ _ _ _ _ _ _ _ _ _
set_option maxHeartbeats 4000000 in
set_option maxRecDepth 100000 in
theorem begin_empty (p s c l : Int) (st sk re fe ag : Bool) (p1 p2 : Option Addr) (pn1 pc1 pn2 pc2 : Nat) (pp : Int) (xs ys : List Int) (move : Int) (w : World) (h : PosR w p1 p2 pn1 pn2 xs ys) (hk : okP (okR p s c l st ag) p pn1 pn2 pp xs ys = true) (F : Nat) (hF : F < pn1) (hf : pp * p + move = F) (hm0 : 0 ≤ move) (hm1 : move < p) (he : xs.getD F 0 = 0) :
    Calls Try.prog 87 #[.agg #[.int .i64 p, .int .i64 s, .bool st, .bool sk, .bool re, .bool fe, .bool ag, .int .i64 c, .int .i64 l], .agg #[.slice p1 pn1 pc1, .slice p2 pn2 pc2, .int .i64 pp], .int .i64 move] w (BegZ 6 w) := by
  have H := Lib.hid h
  have HS := Lib.hid (beg_new p s c l st sk re fe ag p1 p2 pn1 pc1 pn2 pc2 pp w 30 32 109)
  have Hk := Lib.hid hk
  have hok := okP_parts hk
  have hmc : moveC (okR p s c l st ag) p pp move = 0 := by
    rw [hok.1]
    simp only [moveC]
    rw [if_pos trivial, if_pos ⟨hok.2.2.2.1, hm0, hm1⟩]
  have Hm := Lib.hid hmc
  have Hv : Hid (movV 0 (pp * p + move) = F) := Lib.hid hf
  have hle : pn1 ≤ 1000000000000 := by have := h.r1.1; rwa [h.l1] at this
  have hx : xs[F]? = some 0 := by rw [← he]; exact getD_at (by rw [h.l1]; exact hF)
  have Hx := Lib.hid hx
  have p0 : (F : Int) < (pn1 : Int) := by omega
  clear h hk hok hmc hf he hx
  go_enter Try.func87, Try.ntmps87
  go_wp2_with fail
  refine (implValid_any p s c l st sk re fe ag p1 p2 pn1 pc1 pn2 pc2 pp xs ys _ (H.out.below HS.out.rp.2.2)).mono ?_
  rintro e u ⟨rfl, hb⟩
  rw [Hk.out]
  have HS := Lib.hid (HS.out.below hb)
  obtain ⟨_, g0, g1, g2, g3, g4, g5, g6, g7, g8⟩ := HS.out.rp.1
  obtain ⟨_, t0, t1, t2⟩ := HS.out.rp.2.1
  clear hb
  go_wp2_with fail
  refine (impl_pitof p s c l st sk re fe ag pp move _).mono ?_
  rintro e u2 ⟨rfl, hb2⟩
  rw [Hm.out, Hv.out]
  have HS := Lib.hid (HS.out.below hb2)
  clear hb2 g0 g1 g2 g3 g4 g5 g6 g7 g8 t0 t1 t2
  obtain ⟨_, t0, t1, t2⟩ := HS.out.rp.2.1
  obtain ⟨g, o, rfl, hc0⟩ := cell_of (H.out.below HS.out.rp.2.2).r1 Hx.out
  obtain ⟨zl, z0, z1, z2, z3, z4, z5, z6, z7, z8, z9, z10, z11, z12, z13, z14, z15, zf⟩ := HS.out.z
  have f0 := zf 0
  have f1 := zf 1
  have f2 := zf 2
  have f3 := zf 3
  have f4 := zf 4
  have f5 := zf 5
  have f6 := zf 6
  have f7 := zf 7
  have f8 := zf 8
  have f9 := zf 9
  have f10 := zf 10
  have f11 := zf 11
  have f12 := zf 12
  have f13 := zf 13
  have f14 := zf 14
  have f15 := zf 15
  clear zf
  go_wp2_with fail
  refine bodyPost_ret (v := .tuple #[.agg #[.int .i64 0, .int .i64 0, .bool false, .bool false, .bool false, .bool false, .bool false, .int .i64 0, .int .i64 0, .int .i64 0, .int .i64 0, .int .i64 0, .slice none 0 0, .slice none 0 0, .int .i64 0, .int .i64 0], .int .i64 6]) (by simp [results, Try.results87, go_sem, z0, z1, z2, z3, z4, z5, z6, z7, z8, z9, z10, z11, z12, z13, z14, z15]) rfl ⟨rfl, ?_⟩
  exact below16 HS.out.rp.2.2 (by omega) _ _ _ _ _ _ _ _ _ _ _ _ _ _ _ _
end Go.Proofs.Ytdhkfkfoibddnaa
