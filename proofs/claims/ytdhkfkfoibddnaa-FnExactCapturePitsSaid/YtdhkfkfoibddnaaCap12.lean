/- The beginning of a capture, as the program makes it. No conditions. -/
import Derived.Test.YtdhkfkfoibddnaaCap11
namespace Go.Proofs.Ytdhkfkfoibddnaa
open Go.Joins Go.ChangeShapes Go.WideShapes Go.ChangeAt Go.RowKit Go.Deep
set_option linter.unusedVariables false

/-- A variable for a capture, as it is made. -/
structure Zero14 (u : World) (z : Nat) : Prop where
  lt : z < u.heap.size
  c0 : u.cell? ⟨z, 0, none⟩ = some (.int .i64 0)
  c1 : u.cell? ⟨z, 1, none⟩ = some (.int .i64 0)
  c2 : u.cell? ⟨z, 2, none⟩ = some (.bool false)
  c3 : u.cell? ⟨z, 3, none⟩ = some (.bool false)
  c4 : u.cell? ⟨z, 4, none⟩ = some (.bool false)
  c5 : u.cell? ⟨z, 5, none⟩ = some (.bool false)
  c6 : u.cell? ⟨z, 6, none⟩ = some (.bool false)
  c7 : u.cell? ⟨z, 7, none⟩ = some (.int .i64 0)
  c8 : u.cell? ⟨z, 8, none⟩ = some (.int .i64 0)
  c9 : u.cell? ⟨z, 9, none⟩ = some (.int .i64 0)
  c10 : u.cell? ⟨z, 10, none⟩ = some (.slice none 0 0)
  c11 : u.cell? ⟨z, 11, none⟩ = some (.slice none 0 0)
  c12 : u.cell? ⟨z, 12, none⟩ = some (.int .i64 0)
  c13 : u.cell? ⟨z, 13, none⟩ = some (.int .i64 0)
  fr : ∀ o, u.frozen? ⟨z, o, none⟩ = false
theorem Zero14.below {u v : World} {z : Nat} (h : Zero14 u z) (k : Below u.heap.size u v) : Zero14 v z := by
  have e := fun o => k.cell (p := ⟨z, o, none⟩) h.lt
  exact ⟨Nat.lt_of_lt_of_le h.lt k.size, (e _).trans h.c0, (e _).trans h.c1, (e _).trans h.c2, (e _).trans h.c3, (e _).trans h.c4, (e _).trans h.c5, (e _).trans h.c6, (e _).trans h.c7, (e _).trans h.c8, (e _).trans h.c9, (e _).trans h.c10, (e _).trans h.c11, (e _).trans h.c12, (e _).trans h.c13, fun o => (k.frozen (p := ⟨z, o, none⟩) h.lt).trans (h.fr o)⟩
theorem zero14_new (w : World) (T : TypeId) : Zero14 (w.alloc (.cells #[.int .i64 0, .int .i64 0, .bool false, .bool false, .bool false, .bool false, .bool false, .int .i64 0, .int .i64 0, .int .i64 0, .slice none 0 0, .slice none 0 0, .int .i64 0, .int .i64 0] T)) w.heap.size :=
  ⟨by simp, by go_simp, by go_simp, by go_simp, by go_simp, by go_simp, by go_simp, by go_simp, by go_simp, by go_simp, by go_simp, by go_simp, by go_simp, by go_simp, by go_simp, fun o => by go_simp⟩
theorem below14 {B z : Nat} {w u : World} (h : Below B w u) (hz : B ≤ z) (x0 x1 x2 x3 x4 x5 x6 x7 x8 x9 x10 x11 x12 x13 : Value) : Below B w ((((((((((((((u.setCell ⟨z, 0, none⟩ x0).setCell ⟨z, 1, none⟩ x1).setCell ⟨z, 2, none⟩ x2).setCell ⟨z, 3, none⟩ x3).setCell ⟨z, 4, none⟩ x4).setCell ⟨z, 5, none⟩ x5).setCell ⟨z, 6, none⟩ x6).setCell ⟨z, 7, none⟩ x7).setCell ⟨z, 8, none⟩ x8).setCell ⟨z, 9, none⟩ x9).setCell ⟨z, 10, none⟩ x10).setCell ⟨z, 11, none⟩ x11).setCell ⟨z, 12, none⟩ x12).setCell ⟨z, 13, none⟩ x13) :=
  ((((((((((((((h.setCell (p := ⟨z, 0, none⟩) hz x0).setCell (p := ⟨z, 1, none⟩) hz x1).setCell (p := ⟨z, 2, none⟩) hz x2).setCell (p := ⟨z, 3, none⟩) hz x3).setCell (p := ⟨z, 4, none⟩) hz x4).setCell (p := ⟨z, 5, none⟩) hz x5).setCell (p := ⟨z, 6, none⟩) hz x6).setCell (p := ⟨z, 7, none⟩) hz x7).setCell (p := ⟨z, 8, none⟩) hz x8).setCell (p := ⟨z, 9, none⟩) hz x9).setCell (p := ⟨z, 10, none⟩) hz x10).setCell (p := ⟨z, 11, none⟩) hz x11).setCell (p := ⟨z, 12, none⟩) hz x12).setCell (p := ⟨z, 13, none⟩) hz x13)
/-- Rules, sown seeds and a variable for a capture, one after the other. -/
structure BcAt (w : World) (p s c l : Int) (st sk re fe ag : Bool) (p1 p2 : Option Addr) (pn1 pc1 pn2 pc2 : Nat) (pp pq : Int) (u : World) : Prop where
  rs : RsAt w p s c l st sk re fe ag p1 p2 pn1 pc1 pn2 pc2 pp pq u
  z : Zero14 u (w.heap.size + 1 + 1)
theorem BcAt.below {w u v : World} {p s c l : Int} {st sk re fe ag : Bool} {p1 p2 : Option Addr} {pn1 pc1 pn2 pc2 : Nat} {pp pq : Int} (h : BcAt w p s c l st sk re fe ag p1 p2 pn1 pc1 pn2 pc2 pp pq u) (k : Below u.heap.size u v) : BcAt w p s c l st sk re fe ag p1 p2 pn1 pc1 pn2 pc2 pp pq v := ⟨h.rs.below k, h.z.below k⟩
theorem bc_new (p s c l : Int) (st sk re fe ag : Bool) (p1 p2 : Option Addr) (pn1 pc1 pn2 pc2 : Nat) (pp pq : Int) (w : World) (T U V : TypeId) : BcAt w p s c l st sk re fe ag p1 p2 pn1 pc1 pn2 pc2 pp pq (((w.alloc (.cells #[.int .i64 p, .int .i64 s, .bool st, .bool sk, .bool re, .bool fe, .bool ag, .int .i64 c, .int .i64 l] T)).alloc (.cells #[.slice p1 pn1 pc1, .slice p2 pn2 pc2, .int .i64 pp, .int .i64 pq] U)).alloc (.cells #[.int .i64 0, .int .i64 0, .bool false, .bool false, .bool false, .bool false, .bool false, .int .i64 0, .int .i64 0, .int .i64 0, .slice none 0 0, .slice none 0 0, .int .i64 0, .int .i64 0] V)) :=
  ⟨(rs_new p s c l st sk re fe ag p1 p2 pn1 pc1 pn2 pc2 pp pq w T U).below (al1 _ _), by have := zero14_new ((w.alloc (.cells #[.int .i64 p, .int .i64 s, .bool st, .bool sk, .bool re, .bool fe, .bool ag, .int .i64 c, .int .i64 l] T)).alloc (.cells #[.slice p1 pn1 pc1, .slice p2 pn2 pc2, .int .i64 pp, .int .i64 pq] U)) V; simpa using this⟩
def CapV (k : Bool) (p s c l : Int) (st sk re fe ag : Bool) (player : Int) (p1 p2 : Option Addr) (pn1 pc1 pn2 pc2 : Nat) (pp pq : Int) : Value := if k then .agg #[.int .i64 p, .int .i64 s, .bool st, .bool sk, .bool re, .bool fe, .bool ag, .int .i64 c, .int .i64 l, .int .i64 player, .slice p1 pn1 pc1, .slice p2 pn2 pc2, .int .i64 pp, .int .i64 pq] else .agg #[.int .i64 0, .int .i64 0, .bool false, .bool false, .bool false, .bool false, .bool false, .int .i64 0, .int .i64 0, .int .i64 0, .slice none 0 0, .slice none 0 0, .int .i64 0, .int .i64 0]
def capC (k : Bool) : Int := if k then 0 else 1
set_option maxHeartbeats 4000000 in
set_option maxRecDepth 100000 in
theorem beginC_no (p s c l : Int) (st sk re fe ag : Bool) (player : Int) (p1 p2 : Option Addr) (pn1 pc1 pn2 pc2 : Nat) (pp pq : Int) (xs ys : List Int) (w : World) (h : PosR w p1 p2 pn1 pn2 xs ys) (hk : okS (okR p s c l st ag) p st pn1 pn2 pp pq player xs ys = false) :
    Calls Try.prog 56 #[.agg #[.int .i64 p, .int .i64 s, .bool st, .bool sk, .bool re, .bool fe, .bool ag, .int .i64 c, .int .i64 l], .agg #[.slice p1 pn1 pc1, .slice p2 pn2 pc2, .int .i64 pp, .int .i64 pq], .int .i64 player] w fun e w' => e = .returned (.tuple #[.agg #[.int .i64 0, .int .i64 0, .bool false, .bool false, .bool false, .bool false, .bool false, .int .i64 0, .int .i64 0, .int .i64 0, .slice none 0 0, .slice none 0 0, .int .i64 0, .int .i64 0], .int .i64 1]) ∧ Below w.heap.size w w' := by
  have H := Lib.hid h
  have HS := Lib.hid (bc_new p s c l st sk re fe ag p1 p2 pn1 pc1 pn2 pc2 pp pq w 30 50 73)
  have Hk := Lib.hid hk
  clear h hk
  go_enter Try.func56, Try.ntmps56
  go_wp2_with fail
  refine (implVS_b p s c l st sk re fe ag p1 p2 pn1 pc1 pn2 pc2 pp pq xs ys player _ (H.out.below HS.out.rs.2.2) _ Hk.out).mono ?_
  rintro e u ⟨rfl, hb⟩
  have HS := Lib.hid (HS.out.below hb)
  obtain ⟨zl, z0, z1, z2, z3, z4, z5, z6, z7, z8, z9, z10, z11, z12, z13, zf⟩ := HS.out.z
  obtain ⟨⟨_, r0, r1, r2, r3, r4, r5, r6, r7, r8⟩, ⟨_, g0, g1, g2, g3⟩, -⟩ := HS.out.rs
  have f0 := zf 0
  have f1 := zf 1
  have f2 := zf 2
  have f3 := zf 3
  have f4 := zf 4
  have f5 := zf 5
  have f6 := zf 6
  have f7 := zf 7
  have f8 := zf 8
  have f9 := zf 9
  have f10 := zf 10
  have f11 := zf 11
  have f12 := zf 12
  have f13 := zf 13
  clear hb zf
  go_wp2_with fail
  refine bodyPost_ret (v := .tuple #[.agg #[.int .i64 0, .int .i64 0, .bool false, .bool false, .bool false, .bool false, .bool false, .int .i64 0, .int .i64 0, .int .i64 0, .slice none 0 0, .slice none 0 0, .int .i64 0, .int .i64 0], .int .i64 1]) (by simp [results, Try.results56, go_sem, z0, z1, z2, z3, z4, z5, z6, z7, z8, z9, z10, z11, z12, z13]) rfl ⟨rfl, ?_⟩
  exact below14 HS.out.rs.2.2 (by omega) _ _ _ _ _ _ _ _ _ _ _ _ _ _
set_option maxHeartbeats 4000000 in
set_option maxRecDepth 100000 in
theorem beginC_yes (p s c l : Int) (st sk re fe ag : Bool) (player : Int) (p1 p2 : Option Addr) (pn1 pc1 pn2 pc2 : Nat) (pp pq : Int) (xs ys : List Int) (w : World) (h : PosR w p1 p2 pn1 pn2 xs ys) (hk : okS (okR p s c l st ag) p st pn1 pn2 pp pq player xs ys = true) :
    Calls Try.prog 56 #[.agg #[.int .i64 p, .int .i64 s, .bool st, .bool sk, .bool re, .bool fe, .bool ag, .int .i64 c, .int .i64 l], .agg #[.slice p1 pn1 pc1, .slice p2 pn2 pc2, .int .i64 pp, .int .i64 pq], .int .i64 player] w fun e w' => e = .returned (.tuple #[.agg #[.int .i64 p, .int .i64 s, .bool st, .bool sk, .bool re, .bool fe, .bool ag, .int .i64 c, .int .i64 l, .int .i64 player, .slice p1 pn1 pc1, .slice p2 pn2 pc2, .int .i64 pp, .int .i64 pq], .int .i64 0]) ∧ Below w.heap.size w w' := by
  have H := Lib.hid h
  have HS := Lib.hid (bc_new p s c l st sk re fe ag p1 p2 pn1 pc1 pn2 pc2 pp pq w 30 50 73)
  have Hk := Lib.hid hk
  clear h hk
  go_enter Try.func56, Try.ntmps56
  go_wp2_with fail
  refine (implVS_b p s c l st sk re fe ag p1 p2 pn1 pc1 pn2 pc2 pp pq xs ys player _ (H.out.below HS.out.rs.2.2) _ Hk.out).mono ?_
  rintro e u ⟨rfl, hb⟩
  have HS := Lib.hid (HS.out.below hb)
  obtain ⟨zl, z0, z1, z2, z3, z4, z5, z6, z7, z8, z9, z10, z11, z12, z13, zf⟩ := HS.out.z
  obtain ⟨⟨_, r0, r1, r2, r3, r4, r5, r6, r7, r8⟩, ⟨_, g0, g1, g2, g3⟩, -⟩ := HS.out.rs
  have f0 := zf 0
  have f1 := zf 1
  have f2 := zf 2
  have f3 := zf 3
  have f4 := zf 4
  have f5 := zf 5
  have f6 := zf 6
  have f7 := zf 7
  have f8 := zf 8
  have f9 := zf 9
  have f10 := zf 10
  have f11 := zf 11
  have f12 := zf 12
  have f13 := zf 13
  clear hb zf
  go_wp2_with fail
  refine bodyPost_ret (v := .tuple #[.agg #[.int .i64 p, .int .i64 s, .bool st, .bool sk, .bool re, .bool fe, .bool ag, .int .i64 c, .int .i64 l, .int .i64 player, .slice p1 pn1 pc1, .slice p2 pn2 pc2, .int .i64 pp, .int .i64 pq], .int .i64 0]) (by simp [results, Try.results56, go_sem, z0, z1, z2, z3, z4, z5, z6, z7, z8, z9, z10, z11, z12, z13]) rfl ⟨rfl, ?_⟩
  exact below14 HS.out.rs.2.2 (by omega) _ _ _ _ _ _ _ _ _ _ _ _ _ _
end Go.Proofs.Ytdhkfkfoibddnaa
