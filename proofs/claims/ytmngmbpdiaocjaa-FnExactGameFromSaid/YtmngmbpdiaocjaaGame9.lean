/- GameFrom: the reference's and the program's. No conditions. -/
import Derived.Test.YtmngmbpdiaocjaaGame8
namespace Go.Proofs.Ytmngmbpdiaocjaa
open Go.Joins Go.ChangeShapes Go.WideShapes Go.ChangeAt Go.RowKit Go.Deep
set_option linter.unusedVariables false

theorem rp_g17 (p s c l : Int) (st sk re fe ag : Bool) (q1 q2 : Option Addr) (qn1 qc1 qn2 qc2 : Nat) (qp : Int) (w : World) (T U V : TypeId) : (RuAt (((w.alloc (.cells #[.int .i64 p, .int .i64 s, .bool st, .bool sk, .bool re, .bool fe, .bool ag, .int .i64 c, .int .i64 l] T)).alloc (.cells #[.slice q1 qn1 qc1, .slice q2 qn2 qc2, .int .i64 qp] U)).alloc (.cells #[.int .i64 0, .int .i64 0, .bool false, .bool false, .bool false, .bool false, .bool false, .int .i64 0, .int .i64 0, .slice none 0 0, .slice none 0 0, .int .i64 0, .slice none 0 0, .slice none 0 0, .slice none 0 0, .int .i64 0, .int .i64 0] V)) w.heap.size p s c l st sk re fe ag ∧ PoAt (((w.alloc (.cells #[.int .i64 p, .int .i64 s, .bool st, .bool sk, .bool re, .bool fe, .bool ag, .int .i64 c, .int .i64 l] T)).alloc (.cells #[.slice q1 qn1 qc1, .slice q2 qn2 qc2, .int .i64 qp] U)).alloc (.cells #[.int .i64 0, .int .i64 0, .bool false, .bool false, .bool false, .bool false, .bool false, .int .i64 0, .int .i64 0, .slice none 0 0, .slice none 0 0, .int .i64 0, .slice none 0 0, .slice none 0 0, .slice none 0 0, .int .i64 0, .int .i64 0] V)) (w.heap.size + 1) q1 q2 qn1 qc1 qn2 qc2 qp) ∧ G17 (((w.alloc (.cells #[.int .i64 p, .int .i64 s, .bool st, .bool sk, .bool re, .bool fe, .bool ag, .int .i64 c, .int .i64 l] T)).alloc (.cells #[.slice q1 qn1 qc1, .slice q2 qn2 qc2, .int .i64 qp] U)).alloc (.cells #[.int .i64 0, .int .i64 0, .bool false, .bool false, .bool false, .bool false, .bool false, .int .i64 0, .int .i64 0, .slice none 0 0, .slice none 0 0, .int .i64 0, .slice none 0 0, .slice none 0 0, .slice none 0 0, .int .i64 0, .int .i64 0] V)) (w.heap.size + 1 + 1) (.int .i64 0) (.int .i64 0) (.bool false) (.bool false) (.bool false) (.bool false) (.bool false) (.int .i64 0) (.int .i64 0) (.slice none 0 0) (.slice none 0 0) (.int .i64 0) (.slice none 0 0) (.slice none 0 0) (.slice none 0 0) (.int .i64 0) (.int .i64 0) ∧ Below w.heap.size w (((w.alloc (.cells #[.int .i64 p, .int .i64 s, .bool st, .bool sk, .bool re, .bool fe, .bool ag, .int .i64 c, .int .i64 l] T)).alloc (.cells #[.slice q1 qn1 qc1, .slice q2 qn2 qc2, .int .i64 qp] U)).alloc (.cells #[.int .i64 0, .int .i64 0, .bool false, .bool false, .bool false, .bool false, .bool false, .int .i64 0, .int .i64 0, .slice none 0 0, .slice none 0 0, .int .i64 0, .slice none 0 0, .slice none 0 0, .slice none 0 0, .int .i64 0, .int .i64 0] V)) := by
  have r := rp_new p s c l st sk re fe ag q1 q2 qn1 qc1 qn2 qc2 qp w T U
  have g := g17_new ((w.alloc (.cells #[.int .i64 p, .int .i64 s, .bool st, .bool sk, .bool re, .bool fe, .bool ag, .int .i64 c, .int .i64 l] T)).alloc (.cells #[.slice q1 qn1 qc1, .slice q2 qn2 qc2, .int .i64 qp] U)) V
  rw [show ((w.alloc (.cells #[.int .i64 p, .int .i64 s, .bool st, .bool sk, .bool re, .bool fe, .bool ag, .int .i64 c, .int .i64 l] T)).alloc (.cells #[.slice q1 qn1 qc1, .slice q2 qn2 qc2, .int .i64 qp] U)).heap.size = w.heap.size + 1 + 1 by simp] at g
  have k := al1 ((w.alloc (.cells #[.int .i64 p, .int .i64 s, .bool st, .bool sk, .bool re, .bool fe, .bool ag, .int .i64 c, .int .i64 l] T)).alloc (.cells #[.slice q1 qn1 qc1, .slice q2 qn2 qc2, .int .i64 qp] U)) (.cells #[.int .i64 0, .int .i64 0, .bool false, .bool false, .bool false, .bool false, .bool false, .int .i64 0, .int .i64 0, .slice none 0 0, .slice none 0 0, .int .i64 0, .slice none 0 0, .slice none 0 0, .slice none 0 0, .int .i64 0, .int .i64 0] V)
  exact ⟨⟨r.1.below k, r.2.1.below k⟩, g, r.2.2.trans (k.mono r.2.2.size)⟩
theorem rpo_below {p s c l : Int} {st sk re fe ag : Bool} {q1 q2 : Option Addr} {qn1 qc1 qn2 qc2 : Nat} {qp : Int} {u v : World} {a b : Nat} (h : RuAt u a p s c l st sk re fe ag ∧ PoAt u b q1 q2 qn1 qc1 qn2 qc2 qp) (k : Below u.heap.size u v) : RuAt v a p s c l st sk re fe ag ∧ PoAt v b q1 q2 qn1 qc1 qn2 qc2 qp := ⟨h.1.below k, h.2.below k⟩
/-- The answer of GameFrom over a valid position. -/
def FromYes (p s c l : Int) (st sk re fe ag : Bool) (qn1 qn2 : Nat) (qp : Int) (xs ys : List Int) (w : World) (e : Ending) (w' : World) : Prop :=
  ∃ g1 c1 g2 c2 g4 c4 g5 c5 : Nat, e = .returned (.tuple #[.agg #[.int .i64 p, .int .i64 s, .bool st, .bool sk, .bool re, .bool fe, .bool ag, .int .i64 c, .int .i64 l, .slice (some ⟨g1, 0, none⟩) qn1 c1, .slice (some ⟨g2, 0, none⟩) qn2 c2, .int .i64 qp, .slice none 0 0, .slice (some ⟨g4, 0, none⟩) qn1 c4, .slice (some ⟨g5, 0, none⟩) qn2 c5, .int .i64 qp, .int .i64 (-1)], .int .i64 0]) ∧ NewR w w' g1 g2 g4 g5 qn1 qn2 xs ys ∧ (w.heap.size < g1 ∧ w.heap.size < g2 ∧ w.heap.size < g4 ∧ w.heap.size < g5)
set_option maxHeartbeats 4000000 in
set_option maxRecDepth 100000 in
theorem specGF_no (p s c l : Int) (st sk re fe ag : Bool) (q1 q2 : Option Addr) (qn1 qc1 qn2 qc2 : Nat) (qp : Int) (xs ys : List Int) (w : World) (h : PosR w q1 q2 qn1 qn2 xs ys) (hk : okP (okR p s c l st ag) p qn1 qn2 qp xs ys = false) : Calls Try.prog 14 #[.agg #[.int .i64 p, .int .i64 s, .bool st, .bool sk, .bool re, .bool fe, .bool ag, .int .i64 c, .int .i64 l], .agg #[.slice q1 qn1 qc1, .slice q2 qn2 qc2, .int .i64 qp]] w (NewNo w) := by
  have H := Lib.hid h
  have HK := Lib.hid hk
  have HX := Lib.hid (rp_g17 p s c l st sk re fe ag q1 q2 qn1 qc1 qn2 qc2 qp w 31 32 34)
  clear h hk
  go_enter Try.func14, Try.ntmps14
  go_wp2_with fail
  refine (l04Ok_at p s c l st sk re fe ag q1 q2 qn1 qc1 qn2 qc2 qp xs ys w.heap.size (w.heap.size + 1) _ HX.out.1.1 HX.out.1.2 (H.out.below HX.out.2.2) false HK.out).mono ?_
  rintro e u1 ⟨rfl, hm⟩
  have hb := still_below hm
  have HRP := Lib.hid (rpo_below HX.out.1 hb)
  have HG := Lib.hid (HX.out.2.1.below hb)
  have HB := Lib.hid (HX.out.2.2.trans (hb.mono HX.out.2.2.size))
  have hlt := HG.out.lt
  clear hb hm
  go_wp2_with (refine wpList_store_mid rfl 34 _ _ rfl (w.heap.size + 1 + 1) 0 (List.toArray [.int .i64 0, .int .i64 0, .bool false, .bool false, .bool false, .bool false, .bool false, .int .i64 0, .int .i64 0, .slice none 0 0, .slice none 0 0, .int .i64 0, .slice none 0 0, .slice none 0 0, .slice none 0 0, .int .i64 0, .int .i64 0]) rfl rfl HG.out.there (by kernel_rfl) zero17_one ?_)
  have hrun := run_loadVar_mid (P := Try.prog) _ (w.heap.size + 1 + 1) 0 34 [.int .i64 0, .int .i64 0, .bool false, .bool false, .bool false, .bool false, .bool false, .int .i64 0, .int .i64 0, .slice none 0 0, .slice none 0 0, .int .i64 0, .slice none 0 0, .slice none 0 0, .slice none 0 0, .int .i64 0, .int .i64 0] _ (World.rangeAt_setCells_same _ (w.heap.size + 1 + 1) 0 [.int .i64 0, .int .i64 0, .bool false, .bool false, .bool false, .bool false, .bool false, .int .i64 0, .int .i64 0, .slice none 0 0, .slice none 0 0, .int .i64 0, .slice none 0 0, .slice none 0 0, .slice none 0 0, .int .i64 0, .int .i64 0] HG.out.there) Try.underlying34 rfl (by kernel_rfl)
  refine bodyPost_ret (v := .tuple #[.agg (List.toArray [.int .i64 0, .int .i64 0, .bool false, .bool false, .bool false, .bool false, .bool false, .int .i64 0, .int .i64 0, .slice none 0 0, .slice none 0 0, .int .i64 0, .slice none 0 0, .slice none 0 0, .slice none 0 0, .int .i64 0, .int .i64 0]), .int .i64 1]) ?_ rfl ⟨rfl, below_scg (w.heap.size + 1 + 1) (by omega) _ 0 HB.out⟩
  simp [results, Try.results14, Result.andThen_ok, asAddr, hrun]
set_option maxHeartbeats 4000000 in
set_option maxRecDepth 100000 in
theorem specGF_yes (p s c l : Int) (st sk re fe ag : Bool) (q1 q2 : Option Addr) (qn1 qc1 qn2 qc2 : Nat) (qp : Int) (xs ys : List Int) (w : World) (h : PosR w q1 q2 qn1 qn2 xs ys) (hne1 : xs ≠ []) (hne2 : ys ≠ []) (hk : okP (okR p s c l st ag) p qn1 qn2 qp xs ys = true) : Calls Try.prog 14 #[.agg #[.int .i64 p, .int .i64 s, .bool st, .bool sk, .bool re, .bool fe, .bool ag, .int .i64 c, .int .i64 l], .agg #[.slice q1 qn1 qc1, .slice q2 qn2 qc2, .int .i64 qp]] w (FromYes p s c l st sk re fe ag qn1 qn2 qp xs ys w) := by
  have H := Lib.hid h
  have HK := Lib.hid hk
  have HX := Lib.hid (rp_g17 p s c l st sk re fe ag q1 q2 qn1 qc1 qn2 qc2 qp w 31 32 34)
  have HN := Lib.hid (And.intro hne1 hne2)
  clear h hk hne1 hne2
  go_enter Try.func14, Try.ntmps14
  go_wp2_with fail
  refine (l04Ok_at p s c l st sk re fe ag q1 q2 qn1 qc1 qn2 qc2 qp xs ys w.heap.size (w.heap.size + 1) _ HX.out.1.1 HX.out.1.2 (H.out.below HX.out.2.2) true HK.out).mono ?_
  rintro e u1 ⟨rfl, hm⟩
  have hb := still_below hm
  have HRP := Lib.hid (rpo_below HX.out.1 hb)
  have HG := Lib.hid (HX.out.2.1.below hb)
  have HB := Lib.hid (HX.out.2.2.trans (hb.mono HX.out.2.2.size))
  have hlt := HG.out.lt
  clear hb hm
  go_wp2_with fail
  refine (l08New_any p s c l st sk re fe ag q1 q2 qn1 qc1 qn2 qc2 qp w.heap.size (w.heap.size + 1) xs ys _ HRP.out.1 HRP.out.2 (H.out.below HB.out) HN.out.1 HN.out.2).mono ?_
  rintro e u2 ⟨h1, e1, h2, e2, h4, e4, h5, e5, rfl, hN⟩
  have HG := Lib.hid (HG.out.below hN.be)
  have hnw := hN.news
  have HN2 := Lib.hid (hN.base HB.out)
  clear hN
  go_wp2_with (refine wpList_store_mid rfl 34 _ _ rfl (w.heap.size + 1 + 1) 0 (List.toArray [.int .i64 p, .int .i64 s, .bool st, .bool sk, .bool re, .bool fe, .bool ag, .int .i64 c, .int .i64 l, .slice (some ⟨h1, 0, none⟩) qn1 e1, .slice (some ⟨h2, 0, none⟩) qn2 e2, .int .i64 qp, .slice none 0 0, .slice (some ⟨h4, 0, none⟩) qn1 e4, .slice (some ⟨h5, 0, none⟩) qn2 e5, .int .i64 qp, .int .i64 (-1)]) rfl rfl HG.out.there (by kernel_rfl) (new_one p s c l qp st sk re fe ag h1 e1 h2 e2 h4 e4 h5 e5 qn1 qn2) ?_)
  have hrun := run_loadVar_mid (P := Try.prog) _ (w.heap.size + 1 + 1) 0 34 [.int .i64 p, .int .i64 s, .bool st, .bool sk, .bool re, .bool fe, .bool ag, .int .i64 c, .int .i64 l, .slice (some ⟨h1, 0, none⟩) qn1 e1, .slice (some ⟨h2, 0, none⟩) qn2 e2, .int .i64 qp, .slice none 0 0, .slice (some ⟨h4, 0, none⟩) qn1 e4, .slice (some ⟨h5, 0, none⟩) qn2 e5, .int .i64 qp, .int .i64 (-1)] _ (World.rangeAt_setCells_same _ (w.heap.size + 1 + 1) 0 [.int .i64 p, .int .i64 s, .bool st, .bool sk, .bool re, .bool fe, .bool ag, .int .i64 c, .int .i64 l, .slice (some ⟨h1, 0, none⟩) qn1 e1, .slice (some ⟨h2, 0, none⟩) qn2 e2, .int .i64 qp, .slice none 0 0, .slice (some ⟨h4, 0, none⟩) qn1 e4, .slice (some ⟨h5, 0, none⟩) qn2 e5, .int .i64 qp, .int .i64 (-1)] HG.out.there) Try.underlying34 rfl (by kernel_rfl)
  refine bodyPost_ret (v := .tuple #[.agg (List.toArray [.int .i64 p, .int .i64 s, .bool st, .bool sk, .bool re, .bool fe, .bool ag, .int .i64 c, .int .i64 l, .slice (some ⟨h1, 0, none⟩) qn1 e1, .slice (some ⟨h2, 0, none⟩) qn2 e2, .int .i64 qp, .slice none 0 0, .slice (some ⟨h4, 0, none⟩) qn1 e4, .slice (some ⟨h5, 0, none⟩) qn2 e5, .int .i64 qp, .int .i64 (-1)]), .int .i64 0]) ?_ rfl ⟨h1, e1, h2, e2, h4, e4, h5, e5, rfl, NewR.sc (w.heap.size + 1 + 1) _ 0 HN2.out (by omega) (by omega) (by omega) (by omega) (by omega), by omega, by omega, by omega, by omega⟩
  simp [results, Try.results14, Result.andThen_ok, asAddr, hrun]
set_option maxHeartbeats 4000000 in
set_option maxRecDepth 100000 in
theorem implGF_no (p s c l : Int) (st sk re fe ag : Bool) (q1 q2 : Option Addr) (qn1 qc1 qn2 qc2 : Nat) (qp : Int) (xs ys : List Int) (w : World) (h : PosR w q1 q2 qn1 qn2 xs ys) (hk : okP (okR p s c l st ag) p qn1 qn2 qp xs ys = false) : Calls Try.prog 17 #[.agg #[.int .i64 p, .int .i64 s, .bool st, .bool sk, .bool re, .bool fe, .bool ag, .int .i64 c, .int .i64 l], .agg #[.slice q1 qn1 qc1, .slice q2 qn2 qc2, .int .i64 qp]] w (NewNo w) := by
  have H := Lib.hid h
  have HK := Lib.hid hk
  have HX := Lib.hid (rp_g17 p s c l st sk re fe ag q1 q2 qn1 qc1 qn2 qc2 qp w 31 32 34)
  clear h hk
  go_enter Try.func17, Try.ntmps17
  go_wp2_with fail
  refine (implValid_b p s c l st sk re fe ag q1 q2 qn1 qc1 qn2 qc2 qp xs ys _ (H.out.below HX.out.2.2) false HK.out).mono ?_
  rintro e u1 ⟨rfl, hb⟩
  have HRP := Lib.hid (rpo_below HX.out.1 hb)
  have HG := Lib.hid (HX.out.2.1.below hb)
  have HB := Lib.hid (HX.out.2.2.trans (hb.mono HX.out.2.2.size))
  have hlt := HG.out.lt
  clear hb
  go_wp2_with (refine wpList_store_mid rfl 34 _ _ rfl (w.heap.size + 1 + 1) 0 (List.toArray [.int .i64 0, .int .i64 0, .bool false, .bool false, .bool false, .bool false, .bool false, .int .i64 0, .int .i64 0, .slice none 0 0, .slice none 0 0, .int .i64 0, .slice none 0 0, .slice none 0 0, .slice none 0 0, .int .i64 0, .int .i64 0]) rfl rfl HG.out.there (by kernel_rfl) zero17_one ?_)
  have hrun := run_loadVar_mid (P := Try.prog) _ (w.heap.size + 1 + 1) 0 34 [.int .i64 0, .int .i64 0, .bool false, .bool false, .bool false, .bool false, .bool false, .int .i64 0, .int .i64 0, .slice none 0 0, .slice none 0 0, .int .i64 0, .slice none 0 0, .slice none 0 0, .slice none 0 0, .int .i64 0, .int .i64 0] _ (World.rangeAt_setCells_same _ (w.heap.size + 1 + 1) 0 [.int .i64 0, .int .i64 0, .bool false, .bool false, .bool false, .bool false, .bool false, .int .i64 0, .int .i64 0, .slice none 0 0, .slice none 0 0, .int .i64 0, .slice none 0 0, .slice none 0 0, .slice none 0 0, .int .i64 0, .int .i64 0] HG.out.there) Try.underlying34 rfl (by kernel_rfl)
  refine bodyPost_ret (v := .tuple #[.agg (List.toArray [.int .i64 0, .int .i64 0, .bool false, .bool false, .bool false, .bool false, .bool false, .int .i64 0, .int .i64 0, .slice none 0 0, .slice none 0 0, .int .i64 0, .slice none 0 0, .slice none 0 0, .slice none 0 0, .int .i64 0, .int .i64 0]), .int .i64 1]) ?_ rfl ⟨rfl, below_scg (w.heap.size + 1 + 1) (by omega) _ 0 HB.out⟩
  simp [results, Try.results17, Result.andThen_ok, asAddr, hrun]
set_option maxHeartbeats 4000000 in
set_option maxRecDepth 100000 in
theorem implGF_yes (p s c l : Int) (st sk re fe ag : Bool) (q1 q2 : Option Addr) (qn1 qc1 qn2 qc2 : Nat) (qp : Int) (xs ys : List Int) (w : World) (h : PosR w q1 q2 qn1 qn2 xs ys) (hne1 : xs ≠ []) (hne2 : ys ≠ []) (hk : okP (okR p s c l st ag) p qn1 qn2 qp xs ys = true) : Calls Try.prog 17 #[.agg #[.int .i64 p, .int .i64 s, .bool st, .bool sk, .bool re, .bool fe, .bool ag, .int .i64 c, .int .i64 l], .agg #[.slice q1 qn1 qc1, .slice q2 qn2 qc2, .int .i64 qp]] w (FromYes p s c l st sk re fe ag qn1 qn2 qp xs ys w) := by
  have H := Lib.hid h
  have HK := Lib.hid hk
  have HX := Lib.hid (rp_g17 p s c l st sk re fe ag q1 q2 qn1 qc1 qn2 qc2 qp w 31 32 34)
  have HN := Lib.hid (And.intro hne1 hne2)
  clear h hk hne1 hne2
  go_enter Try.func17, Try.ntmps17
  go_wp2_with fail
  refine (implValid_b p s c l st sk re fe ag q1 q2 qn1 qc1 qn2 qc2 qp xs ys _ (H.out.below HX.out.2.2) true HK.out).mono ?_
  rintro e u1 ⟨rfl, hb⟩
  have HRP := Lib.hid (rpo_below HX.out.1 hb)
  have HG := Lib.hid (HX.out.2.1.below hb)
  have HB := Lib.hid (HX.out.2.2.trans (hb.mono HX.out.2.2.size))
  have hlt := HG.out.lt
  clear hb
  obtain ⟨⟨_, d0, d1, d2, d3, d4, d5, d6, d7, d8⟩, ⟨_, r0, r1, r2⟩⟩ := HRP.out
  go_wp2_with fail
  refine (beginPlay_any p s c l st sk re fe ag q1 q2 qn1 qc1 qn2 qc2 qp xs ys _ (H.out.below HB.out) HN.out.1 HN.out.2).mono ?_
  rintro e u2 ⟨h1, e1, h2, e2, h4, e4, h5, e5, rfl, hN⟩
  have HG := Lib.hid (HG.out.below hN.be)
  have hnw := hN.news
  have HN2 := Lib.hid (hN.base HB.out)
  clear hN
  clear d0 d1 d2 d3 d4 d5 d6 d7 d8 r0 r1 r2
  have hfld := (run_field0 (P := Try.prog) (xt := 58) (T := 34) Try.underlying58 rfl rfl rfl Try.underlying34 rfl (by kernel_rfl) (List.toArray [.int .i64 p, .int .i64 s, .bool st, .bool sk, .bool re, .bool fe, .bool ag, .int .i64 c, .int .i64 l, .slice (some ⟨h1, 0, none⟩) qn1 e1, .slice (some ⟨h2, 0, none⟩) qn2 e2, .int .i64 qp, .slice none 0 0, .slice (some ⟨h4, 0, none⟩) qn1 e4, .slice (some ⟨h5, 0, none⟩) qn2 e5, .int .i64 qp, .int .i64 (-1), .slice none 0 0]) u2).trans (show _ = Result.ok (.agg (List.toArray [.int .i64 p, .int .i64 s, .bool st, .bool sk, .bool re, .bool fe, .bool ag, .int .i64 c, .int .i64 l, .slice (some ⟨h1, 0, none⟩) qn1 e1, .slice (some ⟨h2, 0, none⟩) qn2 e2, .int .i64 qp, .slice none 0 0, .slice (some ⟨h4, 0, none⟩) qn1 e4, .slice (some ⟨h5, 0, none⟩) qn2 e5, .int .i64 qp, .int .i64 (-1)])) u2 from rfl)
  go_wp2_with (first | (refine wpList_field rfl 58 _ 0 rfl _ rfl _ hfld ?_) | (refine wpList_store_mid rfl 34 _ _ rfl (w.heap.size + 1 + 1) 0 (List.toArray [.int .i64 p, .int .i64 s, .bool st, .bool sk, .bool re, .bool fe, .bool ag, .int .i64 c, .int .i64 l, .slice (some ⟨h1, 0, none⟩) qn1 e1, .slice (some ⟨h2, 0, none⟩) qn2 e2, .int .i64 qp, .slice none 0 0, .slice (some ⟨h4, 0, none⟩) qn1 e4, .slice (some ⟨h5, 0, none⟩) qn2 e5, .int .i64 qp, .int .i64 (-1)]) rfl rfl HG.out.there (by kernel_rfl) (new_one p s c l qp st sk re fe ag h1 e1 h2 e2 h4 e4 h5 e5 qn1 qn2) ?_))
  have hrun := run_loadVar_mid (P := Try.prog) _ (w.heap.size + 1 + 1) 0 34 [.int .i64 p, .int .i64 s, .bool st, .bool sk, .bool re, .bool fe, .bool ag, .int .i64 c, .int .i64 l, .slice (some ⟨h1, 0, none⟩) qn1 e1, .slice (some ⟨h2, 0, none⟩) qn2 e2, .int .i64 qp, .slice none 0 0, .slice (some ⟨h4, 0, none⟩) qn1 e4, .slice (some ⟨h5, 0, none⟩) qn2 e5, .int .i64 qp, .int .i64 (-1)] _ (World.rangeAt_setCells_same _ (w.heap.size + 1 + 1) 0 [.int .i64 p, .int .i64 s, .bool st, .bool sk, .bool re, .bool fe, .bool ag, .int .i64 c, .int .i64 l, .slice (some ⟨h1, 0, none⟩) qn1 e1, .slice (some ⟨h2, 0, none⟩) qn2 e2, .int .i64 qp, .slice none 0 0, .slice (some ⟨h4, 0, none⟩) qn1 e4, .slice (some ⟨h5, 0, none⟩) qn2 e5, .int .i64 qp, .int .i64 (-1)] HG.out.there) Try.underlying34 rfl (by kernel_rfl)
  refine bodyPost_ret (v := .tuple #[.agg (List.toArray [.int .i64 p, .int .i64 s, .bool st, .bool sk, .bool re, .bool fe, .bool ag, .int .i64 c, .int .i64 l, .slice (some ⟨h1, 0, none⟩) qn1 e1, .slice (some ⟨h2, 0, none⟩) qn2 e2, .int .i64 qp, .slice none 0 0, .slice (some ⟨h4, 0, none⟩) qn1 e4, .slice (some ⟨h5, 0, none⟩) qn2 e5, .int .i64 qp, .int .i64 (-1)]), .int .i64 0]) ?_ rfl ⟨h1, e1, h2, e2, h4, e4, h5, e5, rfl, NewR.sc (w.heap.size + 1 + 1) _ 0 HN2.out (by omega) (by omega) (by omega) (by omega) (by omega), by omega, by omega, by omega, by omega⟩
  simp [results, Try.results17, Result.andThen_ok, asAddr, hrun]
end Go.Proofs.Ytmngmbpdiaocjaa
