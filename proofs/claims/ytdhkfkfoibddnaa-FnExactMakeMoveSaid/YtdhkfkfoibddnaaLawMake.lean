/- The law on MakeMove. No conditions. -/
import Derived.Test.YtdhkfkfoibddnaaWc1
import Derived.Test.YtdhkfkfoibddnaaWc4
namespace Go.Proofs.Ytdhkfkfoibddnaa
open Go.Joins Go.ChangeShapes Go.WideShapes Go.ChangeAt Go.RowKit Go.Deep
set_option linter.unusedVariables false

set_option maxHeartbeats 8000000 in
set_option maxRecDepth 100000 in
theorem walk0_FnExactMakeMove (p s c l : Int) (st sk re fe ag : Bool) (p1 p2 : Option Addr) (pn1 pc1 pn2 pc2 : Nat) (pp : Int) (xs ys : List Int) (move : Int) (w : World) (h : PosW w p1 p2 pn1 pn2 xs ys) :
    Calls Try.prog 6 #[.agg #[.int .i64 p, .int .i64 s, .bool st, .bool sk, .bool re, .bool fe, .bool ag, .int .i64 c, .int .i64 l], .agg #[.slice p1 pn1 pc1, .slice p2 pn2 pc2, .int .i64 pp], .int .i64 move] w fun e w' => e = .returned (.bool true) ∧ Below w.heap.size w w' := by
  have hb1 := h.m1
  have hb2 := h.m2
  have HW := Lib.hid h
  have HS := Lib.hid (rp_new p s c l st sk re fe ag p1 p2 pn1 pc1 pn2 pc2 pp w 23 26)
  clear h
  by_cases hsz : (pn1 : Int) + pn2 ≤ 1048576
  · have H := Lib.hid (HW.out.toR hsz)
    have e1 := szV_yes hsz
    have E1 := Lib.hid e1
    obtain ⟨m1, m2, pl, gn, cd, us, vs, hm1, hm2, hs, hi⟩ := make_ex p s c l st sk re fe ag pn1 pn2 pp xs ys move H.out.l1 H.out.l2
    have Hs := Lib.hid hs
    have Hi := Lib.hid hi
    clear e1 hs hi
    go_enter Try.func6, Try.ntmps6
    go_wp2_with fail
    refine (szP_any p1 p2 pn1 pc1 pn2 pc2 pp 1048576 (by omega) (by omega) hb1 hb2 _).mono ?_
    rintro e w1 ⟨rfl, b1⟩
    rw [E1.out]
    have q0 : 0 ≤ 1048576 - (pn1 : Int) - pn2 := by omega
    have HS := Lib.hid (HS.out.below b1)
    clear b1
    go_upto_region 5 with fail
    go_cut [8, 9, 10] (fun s6 sg s7 wx => ∃ (hi A : Nat) (a1 a2 : Option Addr) (b1 b2 c1 c2 : Nat), s6 = .pointer (some ⟨A, 0, none⟩) ∧ sg = .int .i64 gn ∧ s7 = .int .i64 cd ∧ RpAt w p s c l st sk re fe ag p1 p2 pn1 pc1 pn2 pc2 pp wx ∧ WAt wx (w.heap.size + 2) hi A a1 a2 b1 b2 m1 c1 m2 c2 pl us vs)
    case first =>
      have HBe : Hid (∀ u : World, RpAt w p s c l st sk re fe ag p1 p2 pn1 pc1 pn2 pc2 pp u → Below w.heap.size w u) := Lib.hid (fun u h => h.2.2)
      have HT : Hid (∀ u : World, RpAt w p s c l st sk re fe ag p1 p2 pn1 pc1 pn2 pc2 pp u → (w.heap.size < u.heap.size ∧ u.cell? ⟨w.heap.size, 0, none⟩ = some (.int .i64 p) ∧ u.cell? ⟨w.heap.size, 1, none⟩ = some (.int .i64 s) ∧ u.cell? ⟨w.heap.size, 2, none⟩ = some (.bool st) ∧ u.cell? ⟨w.heap.size, 3, none⟩ = some (.bool sk) ∧ u.cell? ⟨w.heap.size, 4, none⟩ = some (.bool re) ∧ u.cell? ⟨w.heap.size, 5, none⟩ = some (.bool fe) ∧ u.cell? ⟨w.heap.size, 6, none⟩ = some (.bool ag) ∧ u.cell? ⟨w.heap.size, 7, none⟩ = some (.int .i64 c) ∧ u.cell? ⟨w.heap.size, 8, none⟩ = some (.int .i64 l)) ∧ (w.heap.size + 1 < u.heap.size ∧ u.cell? ⟨w.heap.size + 1, 0, none⟩ = some (.slice p1 pn1 pc1) ∧ u.cell? ⟨w.heap.size + 1, 1, none⟩ = some (.slice p2 pn2 pc2) ∧ u.cell? ⟨w.heap.size + 1, 2, none⟩ = some (.int .i64 pp)) ∧ Below w.heap.size w u) := Lib.hid (fun u h => h)
      have hA0 := HS.out.2.1.1
      go_region_held3 (fun u => (w.heap.size < u.heap.size ∧ u.cell? ⟨w.heap.size, 0, none⟩ = some (.int .i64 p) ∧ u.cell? ⟨w.heap.size, 1, none⟩ = some (.int .i64 s) ∧ u.cell? ⟨w.heap.size, 2, none⟩ = some (.bool st) ∧ u.cell? ⟨w.heap.size, 3, none⟩ = some (.bool sk) ∧ u.cell? ⟨w.heap.size, 4, none⟩ = some (.bool re) ∧ u.cell? ⟨w.heap.size, 5, none⟩ = some (.bool fe) ∧ u.cell? ⟨w.heap.size, 6, none⟩ = some (.bool ag) ∧ u.cell? ⟨w.heap.size, 7, none⟩ = some (.int .i64 c) ∧ u.cell? ⟨w.heap.size, 8, none⟩ = some (.int .i64 l)) ∧ (w.heap.size + 1 < u.heap.size ∧ u.cell? ⟨w.heap.size + 1, 0, none⟩ = some (.slice p1 pn1 pc1) ∧ u.cell? ⟨w.heap.size + 1, 1, none⟩ = some (.slice p2 pn2 pc2) ∧ u.cell? ⟨w.heap.size + 1, 2, none⟩ = some (.int .i64 pp)) ∧ Below w.heap.size w u) (first | with_reducible exact HT.out _ HS.out | with_reducible exact HT.out _ HS.out.drew | with_reducible exact HT.out _ (HS.out.below (al1 _ _)) | with_reducible exact HT.out _ (HS.out.below (al1 _ _)).drew | with_reducible exact HT.out _ (HS.out.setA (by omega) _ _ _))
        (first
        | (go_at_call 14; (with_reducible refine (toRules_any p s c l st sk re fe ag _).mono ?_); rintro e w5 ⟨rfl, hb5⟩; (have hA1 := HS.out.2.1.1); (first | with_reducible have HZ := Lib.hid (HZ.out.below hb5) | with_reducible have HZ := Lib.hid (HZ.out.drew.below hb5) | with_reducible have HZ := Lib.hid ((zero_new _ 32).below hb5) | with_reducible have HZ := Lib.hid ((zero_new _ 32).drew.below hb5) | skip); (first | with_reducible have HS := Lib.hid (HS.out.below hb5) | with_reducible have HS := Lib.hid (HS.out.drew.below hb5) | with_reducible have HS := Lib.hid ((HS.out.below (al1 _ _)).below hb5) | with_reducible have HS := Lib.hid ((HS.out.below (al1 _ _)).drew.below hb5)); clear hb5)
        | (go_at_call 15; (with_reducible refine (toPos_any p1 p2 pn1 pc1 pn2 pc2 pp xs ys _ ?_).mono ?_); (first | with_reducible exact PosR.below H.out (HBe.out _ HS.out) | with_reducible exact PosR.below H.out (HBe.out _ HS.out.drew) | with_reducible exact PosR.below H.out (HBe.out _ (HS.out.below (al1 _ _))) | with_reducible exact PosR.below H.out (HBe.out _ (HS.out.below (al1 _ _)).drew)); rintro e w5 ⟨g1, g2, rfl, o5, l51, l52, hb5⟩; have O5 := Lib.hid o5.r; (have hA2 := HS.out.2.1.1); (first | with_reducible have HZ := Lib.hid (HZ.out.below hb5) | with_reducible have HZ := Lib.hid (HZ.out.drew.below hb5) | with_reducible have HZ := Lib.hid ((zero_new _ 32).below hb5) | with_reducible have HZ := Lib.hid ((zero_new _ 32).drew.below hb5) | skip); (first | with_reducible have HS := Lib.hid (HS.out.below hb5) | with_reducible have HS := Lib.hid (HS.out.drew.below hb5) | with_reducible have HS := Lib.hid ((HS.out.below (al1 _ _)).below hb5) | with_reducible have HS := Lib.hid ((HS.out.below (al1 _ _)).drew.below hb5)); clear hb5 o5)
        | (go_at_call 26; (with_reducible refine (Hs.out _ _ _ ?_).mono ?_); (first | with_reducible exact O5.out | with_reducible exact O5.out.alloc _ | with_reducible exact O5.out.drewN 1); rintro e w6 ⟨a1, c1, b1, a2, c2, b2, rfl, ho, hlt1, hlt2, hc1, hc2, hb6⟩; (have hA3 := HS.out.2.1.1); (first | have hA4 := HZ.out.lt | skip); have n1 := ho.o1.new; have n2 := ho.o2.new; (first | with_reducible have HZ := Lib.hid (HZ.out.below hb6) | with_reducible have HZ := Lib.hid (HZ.out.drew.below hb6) | with_reducible have HZ := Lib.hid ((zero_new _ 32).below hb6) | with_reducible have HZ := Lib.hid ((zero_new _ 32).drew.below hb6) | skip); (first | with_reducible have HS := Lib.hid (HS.out.below hb6) | with_reducible have HS := Lib.hid (HS.out.drew.below hb6) | with_reducible have HS := Lib.hid ((HS.out.below (al1 _ _)).below hb6) | with_reducible have HS := Lib.hid ((HS.out.below (al1 _ _)).drew.below hb6)); have HO := Lib.hid (ho.lower (C := w.heap.size + 2) (by first | omega | (simp; omega))); clear hb6 ho; (first | (obtain ⟨zl, z0, z1, z2, zf⟩ := HZ.out; have f0 := zf 0; have f1 := zf 1; have f2 := zf 2; clear zf) | skip)))
      all_goals (try simp at n1 n2)
      all_goals have hA5 := HS.out.2.1.1
      all_goals go_wp2_with fail
      all_goals go_meet
      · exact ⟨_, _, _, _, _, _, _, _, rfl, rfl, rfl, HS.out.below (al1 _ _), wat_new _ pl c1 c2 HO.out hlt1 hlt2 (by omega)⟩
      all_goals exact ⟨_, _, _, _, _, _, _, _, rfl, rfl, rfl, HS.out.setA (by omega) _ _ _, wat_set HZ.out pl c1 c2 HO.out hlt1 hlt2 (by omega) (by omega) (by omega)⟩
    case rest =>
      obtain ⟨hi, A, a1, a2, b1, b2, c1, c2, rfl, rfl, rfl, hs, hw⟩ := hcut
      have HS := Lib.hid hs
      have W0 := Lib.hid hw
      obtain ⟨hd1, r0, r1, r2⟩ := hs.2.1
      clear hs hw
      go_wp2_with fail
      clear hd1 r0 r1 r2
      refine (toPos_any p1 p2 pn1 pc1 pn2 pc2 pp xs ys _ (H.out.below HS.out.2.2)).mono ?_
      rintro e w6 ⟨x1, x2, rfl, o6, l61, l62, hb6⟩
      have hq1 := W0.out.hi_le
      have HS := Lib.hid (HS.out.below hb6)
      have W0 := Lib.hid (W0.out.below hb6)
      have O6 := Lib.hid (o6.lower hq1)
      clear o6 hb6 hq1
      go_wp2_with fail
      have hq2 := W0.out.hi_le
      have WX := Lib.hid (wat_new 32 pp pn1 pn2 O6.out l61 l62 hq2)
      have HS := Lib.hid (HS.out.below (al1 _ (.cells #[.slice (some ⟨x1, 0, none⟩) pn1 pn1, .slice (some ⟨x2, 0, none⟩) pn2 pn2, .int .i64 pp] 32)))
      have W0 := Lib.hid (W0.out.below (al1 _ (.cells #[.slice (some ⟨x1, 0, none⟩) pn1 pn1, .slice (some ⟨x2, 0, none⟩) pn2 pn2, .int .i64 pp] 32)))
      clear O6 l61 l62 hq2
      generalize hD : w6.heap.size = D at *
      generalize hW : w6.alloc (.cells #[.slice (some ⟨x1, 0, none⟩) pn1 pn1, .slice (some ⟨x2, 0, none⟩) pn2 pn2, .int .i64 pp] 32) = w7 at *
      clear hW hD
      have hx0 := WX.out.lo_le
      have hx1 : D + 1 ≤ w7.heap.size := WX.out.hi_le
      have hx2 := W0.out.lo_le
      have hx3 := W0.out.lt
      go_cut [12, 13, 14] (fun s9 sg s10 wx => ∃ (hg G : Nat) (d1 d2 : Option Addr) (k1 k2 e1 e2 : Nat), s9 = .pointer (some ⟨G, 0, none⟩) ∧ sg = .int .i64 gn ∧ s10 = .int .i64 cd ∧ RpAt w p s c l st sk re fe ag p1 p2 pn1 pc1 pn2 pc2 pp wx ∧ WAt wx (w.heap.size + 2) hi A a1 a2 b1 b2 m1 c1 m2 c2 pl us vs ∧ WAt wx hi (D + 1) D (some ⟨x1, 0, none⟩) (some ⟨x2, 0, none⟩) x1 x2 pn1 pn1 pn2 pn2 pp xs ys ∧ WAt wx (D + 1) hg G d1 d2 k1 k2 m1 e1 m2 e2 pl us vs)
      case first =>
        have HT : Hid (∀ u : World, RpAt w p s c l st sk re fe ag p1 p2 pn1 pc1 pn2 pc2 pp u → WAt u hi (D + 1) D (some ⟨x1, 0, none⟩) (some ⟨x2, 0, none⟩) x1 x2 pn1 pn1 pn2 pn2 pp xs ys → (w.heap.size < u.heap.size ∧ u.cell? ⟨w.heap.size, 0, none⟩ = some (.int .i64 p) ∧ u.cell? ⟨w.heap.size, 1, none⟩ = some (.int .i64 s) ∧ u.cell? ⟨w.heap.size, 2, none⟩ = some (.bool st) ∧ u.cell? ⟨w.heap.size, 3, none⟩ = some (.bool sk) ∧ u.cell? ⟨w.heap.size, 4, none⟩ = some (.bool re) ∧ u.cell? ⟨w.heap.size, 5, none⟩ = some (.bool fe) ∧ u.cell? ⟨w.heap.size, 6, none⟩ = some (.bool ag) ∧ u.cell? ⟨w.heap.size, 7, none⟩ = some (.int .i64 c) ∧ u.cell? ⟨w.heap.size, 8, none⟩ = some (.int .i64 l)) ∧ (D < u.heap.size ∧ u.cell? ⟨D, 0, none⟩ = some (.slice (some ⟨x1, 0, none⟩) pn1 pn1) ∧ u.cell? ⟨D, 1, none⟩ = some (.slice (some ⟨x2, 0, none⟩) pn2 pn2) ∧ u.cell? ⟨D, 2, none⟩ = some (.int .i64 pp)) ∧ Below w.heap.size w u) := Lib.hid (fun u h k => ⟨h.1, k.po, h.2.2⟩)
        go_region_held3 (fun u => (w.heap.size < u.heap.size ∧ u.cell? ⟨w.heap.size, 0, none⟩ = some (.int .i64 p) ∧ u.cell? ⟨w.heap.size, 1, none⟩ = some (.int .i64 s) ∧ u.cell? ⟨w.heap.size, 2, none⟩ = some (.bool st) ∧ u.cell? ⟨w.heap.size, 3, none⟩ = some (.bool sk) ∧ u.cell? ⟨w.heap.size, 4, none⟩ = some (.bool re) ∧ u.cell? ⟨w.heap.size, 5, none⟩ = some (.bool fe) ∧ u.cell? ⟨w.heap.size, 6, none⟩ = some (.bool ag) ∧ u.cell? ⟨w.heap.size, 7, none⟩ = some (.int .i64 c) ∧ u.cell? ⟨w.heap.size, 8, none⟩ = some (.int .i64 l)) ∧ (D < u.heap.size ∧ u.cell? ⟨D, 0, none⟩ = some (.slice (some ⟨x1, 0, none⟩) pn1 pn1) ∧ u.cell? ⟨D, 1, none⟩ = some (.slice (some ⟨x2, 0, none⟩) pn2 pn2) ∧ u.cell? ⟨D, 2, none⟩ = some (.int .i64 pp)) ∧ Below w.heap.size w u) (first | with_reducible exact HT.out _ HS.out WX.out | with_reducible exact HT.out _ HS.out.drew WX.out.drew | with_reducible exact HT.out _ (HS.out.below (al1 _ _)) (WX.out.below (al1 _ _)) | with_reducible exact HT.out _ (HS.out.below (al1 _ _)).drew (WX.out.below (al1 _ _)).drew | with_reducible exact HT.out _ (HS.out.setA (by omega) _ _ _) (WX.out.set3 _ _ _ (by omega)))
          (first
          | (go_at_call 14; (with_reducible refine (toRules_any p s c l st sk re fe ag _).mono ?_); rintro e w5 ⟨rfl, hb5⟩; (have hA1 := WX.out.hi_le); (first | with_reducible have HZ := Lib.hid (HZ.out.below hb5) | with_reducible have HZ := Lib.hid (HZ.out.drew.below hb5) | with_reducible have HZ := Lib.hid ((zero_new _ 32).below hb5) | with_reducible have HZ := Lib.hid ((zero_new _ 32).drew.below hb5) | skip); (first | with_reducible have HS := Lib.hid (HS.out.below hb5) | with_reducible have HS := Lib.hid (HS.out.drew.below hb5) | with_reducible have HS := Lib.hid ((HS.out.below (al1 _ _)).below hb5) | with_reducible have HS := Lib.hid ((HS.out.below (al1 _ _)).drew.below hb5)); (first | with_reducible have W0 := Lib.hid (W0.out.below hb5) | with_reducible have W0 := Lib.hid (W0.out.drew.below hb5) | with_reducible have W0 := Lib.hid ((W0.out.below (al1 _ _)).below hb5) | with_reducible have W0 := Lib.hid ((W0.out.below (al1 _ _)).drew.below hb5)); (first | with_reducible have WX := Lib.hid (WX.out.below hb5) | with_reducible have WX := Lib.hid (WX.out.drew.below hb5) | with_reducible have WX := Lib.hid ((WX.out.below (al1 _ _)).below hb5) | with_reducible have WX := Lib.hid ((WX.out.below (al1 _ _)).drew.below hb5)); clear hb5)
          | (go_at_call 27; (with_reducible refine (Hi.out _ _ _ ?_).mono ?_); (first | with_reducible exact WX.out.o.r | with_reducible exact WX.out.drew.o.r | with_reducible exact (WX.out.below (al1 _ _)).o.r | with_reducible exact (WX.out.below (al1 _ _)).drew.o.r); rintro e w6 ⟨d1, e1, k1, d2, e2, k2, rfl, ho, hlt1, hlt2, hc1, hc2, hb6⟩; (have hA3 := WX.out.hi_le); (first | have hA4 := HZ.out.lt | skip); have n1 := ho.o1.new; have n2 := ho.o2.new; (first | with_reducible have HZ := Lib.hid (HZ.out.below hb6) | with_reducible have HZ := Lib.hid (HZ.out.drew.below hb6) | with_reducible have HZ := Lib.hid ((zero_new _ 32).below hb6) | with_reducible have HZ := Lib.hid ((zero_new _ 32).drew.below hb6) | skip); (first | with_reducible have HS := Lib.hid (HS.out.below hb6) | with_reducible have HS := Lib.hid (HS.out.drew.below hb6) | with_reducible have HS := Lib.hid ((HS.out.below (al1 _ _)).below hb6) | with_reducible have HS := Lib.hid ((HS.out.below (al1 _ _)).drew.below hb6)); (first | with_reducible have W0 := Lib.hid (W0.out.below hb6) | with_reducible have W0 := Lib.hid (W0.out.drew.below hb6) | with_reducible have W0 := Lib.hid ((W0.out.below (al1 _ _)).below hb6) | with_reducible have W0 := Lib.hid ((W0.out.below (al1 _ _)).drew.below hb6)); (first | with_reducible have WX := Lib.hid (WX.out.below hb6) | with_reducible have WX := Lib.hid (WX.out.drew.below hb6) | with_reducible have WX := Lib.hid ((WX.out.below (al1 _ _)).below hb6) | with_reducible have WX := Lib.hid ((WX.out.below (al1 _ _)).drew.below hb6)); have HO := Lib.hid (ho.lower (C := D + 1) (by first | omega | (simp; omega))); clear hb6 ho; (first | (obtain ⟨zl, z0, z1, z2, zf⟩ := HZ.out; have f0 := zf 0; have f1 := zf 1; have f2 := zf 2; clear zf) | skip)))
        all_goals (try simp at n1 n2)
        all_goals have hA5 := WX.out.hi_le
        all_goals go_wp2_with fail
        all_goals go_meet
        · exact ⟨_, _, _, _, _, _, _, _, rfl, rfl, rfl, HS.out.below (al1 _ _), W0.out.below (al1 _ _), WX.out.below (al1 _ _), wat_new _ pl e1 e2 HO.out hlt1 hlt2 (by omega)⟩
        all_goals exact ⟨_, _, _, _, _, _, _, _, rfl, rfl, rfl, HS.out.setA (by omega) _ _ _, W0.out.set3 _ _ _ (by omega), WX.out.set3 _ _ _ (by omega), wat_set HZ.out pl e1 e2 HO.out hlt1 hlt2 (by omega) (by omega) (by omega)⟩
      case rest =>
        obtain ⟨hg, G, d1, d2, k1, k2, e1, e2, rfl, rfl, rfl, hs, hw, hx, hh⟩ := hcut
        have HS := Lib.hid hs
        have W0 := Lib.hid hw
        have WX := Lib.hid hx
        have WG := Lib.hid hh
        have hy0 := hh.lo_le
        have hy1 := hh.lt
        obtain ⟨hd1, r0, r1, r2⟩ := hw.po
        obtain ⟨hd2, s0, s1, s2⟩ := hh.po
        clear hs hw hx hh
        go_wp2_with fail
        clear hd1 hd2 r0 r1 r2 s0 s1 s2
        refine (eqP_same _ _ _ _ _ _ _ _ _ _ _ us vs _ WG.out.o.r W0.out.o.r).mono ?_
        rintro e w8 ⟨rfl, hb8⟩
        (first | with_reducible have HS := Lib.hid (HS.out.below hb8) | with_reducible have HS := Lib.hid (HS.out.drew.below hb8) | with_reducible have HS := Lib.hid ((HS.out.below (al1 _ _)).below hb8) | with_reducible have HS := Lib.hid ((HS.out.below (al1 _ _)).drew.below hb8)); (first | with_reducible have W0 := Lib.hid (W0.out.below hb8) | with_reducible have W0 := Lib.hid (W0.out.drew.below hb8) | with_reducible have W0 := Lib.hid ((W0.out.below (al1 _ _)).below hb8) | with_reducible have W0 := Lib.hid ((W0.out.below (al1 _ _)).drew.below hb8)); (first | with_reducible have WX := Lib.hid (WX.out.below hb8) | with_reducible have WX := Lib.hid (WX.out.drew.below hb8) | with_reducible have WX := Lib.hid ((WX.out.below (al1 _ _)).below hb8) | with_reducible have WX := Lib.hid ((WX.out.below (al1 _ _)).drew.below hb8)); (first | with_reducible have WG := Lib.hid (WG.out.below hb8) | with_reducible have WG := Lib.hid (WG.out.drew.below hb8) | with_reducible have WG := Lib.hid ((WG.out.below (al1 _ _)).below hb8) | with_reducible have WG := Lib.hid ((WG.out.below (al1 _ _)).drew.below hb8))
        clear hb8
        go_wp2_with fail
        have HT : Hid (∀ u : World, RpAt w p s c l st sk re fe ag p1 p2 pn1 pc1 pn2 pc2 pp u → WAt u hi (D + 1) D (some ⟨x1, 0, none⟩) (some ⟨x2, 0, none⟩) x1 x2 pn1 pn1 pn2 pn2 pp xs ys → (w.heap.size + 1 < u.heap.size ∧ u.cell? ⟨w.heap.size + 1, 0, none⟩ = some (.slice p1 pn1 pc1) ∧ u.cell? ⟨w.heap.size + 1, 1, none⟩ = some (.slice p2 pn2 pc2) ∧ u.cell? ⟨w.heap.size + 1, 2, none⟩ = some (.int .i64 pp)) ∧ (D < u.heap.size ∧ u.cell? ⟨D, 0, none⟩ = some (.slice (some ⟨x1, 0, none⟩) pn1 pn1) ∧ u.cell? ⟨D, 1, none⟩ = some (.slice (some ⟨x2, 0, none⟩) pn2 pn2) ∧ u.cell? ⟨D, 2, none⟩ = some (.int .i64 pp)) ∧ Below w.heap.size w u) := Lib.hid (fun u h k => ⟨h.2.1, k.po, h.2.2⟩)
        have HBe : Hid (∀ u : World, RpAt w p s c l st sk re fe ag p1 p2 pn1 pc1 pn2 pc2 pp u → Below w.heap.size w u) := Lib.hid (fun u h => h.2.2)
        go_region_held3 (fun u => (w.heap.size + 1 < u.heap.size ∧ u.cell? ⟨w.heap.size + 1, 0, none⟩ = some (.slice p1 pn1 pc1) ∧ u.cell? ⟨w.heap.size + 1, 1, none⟩ = some (.slice p2 pn2 pc2) ∧ u.cell? ⟨w.heap.size + 1, 2, none⟩ = some (.int .i64 pp)) ∧ (D < u.heap.size ∧ u.cell? ⟨D, 0, none⟩ = some (.slice (some ⟨x1, 0, none⟩) pn1 pn1) ∧ u.cell? ⟨D, 1, none⟩ = some (.slice (some ⟨x2, 0, none⟩) pn2 pn2) ∧ u.cell? ⟨D, 2, none⟩ = some (.int .i64 pp)) ∧ Below w.heap.size w u) (first | with_reducible exact HT.out _ HS.out WX.out | with_reducible exact HT.out _ HS.out.drew WX.out.drew | with_reducible exact HT.out _ (HS.out.below (al1 _ _)) (WX.out.below (al1 _ _)) | with_reducible exact HT.out _ (HS.out.below (al1 _ _)).drew (WX.out.below (al1 _ _)).drew | with_reducible exact HT.out _ (HS.out.setA (by omega) _ _ _) (WX.out.set3 _ _ _ (by omega)))
          (first
          | (go_at_call 15; (with_reducible refine (toPos_any p1 p2 pn1 pc1 pn2 pc2 pp xs ys _ ?_).mono ?_); (first | with_reducible exact PosR.below H.out (HBe.out _ HS.out) | with_reducible exact PosR.below H.out (HBe.out _ HS.out.drew) | with_reducible exact PosR.below H.out (HBe.out _ (HS.out.below (al1 _ _))) | with_reducible exact PosR.below H.out (HBe.out _ (HS.out.below (al1 _ _)).drew)); rintro e w5 ⟨g1, g2, rfl, o5, l51, l52, hb5⟩; have O5 := Lib.hid o5.r; (have hA2 := WG.out.hi_le); (first | with_reducible have HZ := Lib.hid (HZ.out.below hb5) | with_reducible have HZ := Lib.hid (HZ.out.drew.below hb5) | with_reducible have HZ := Lib.hid ((zero_new _ 32).below hb5) | with_reducible have HZ := Lib.hid ((zero_new _ 32).drew.below hb5) | skip); (first | with_reducible have HS := Lib.hid (HS.out.below hb5) | with_reducible have HS := Lib.hid (HS.out.drew.below hb5) | with_reducible have HS := Lib.hid ((HS.out.below (al1 _ _)).below hb5) | with_reducible have HS := Lib.hid ((HS.out.below (al1 _ _)).drew.below hb5)); (first | with_reducible have W0 := Lib.hid (W0.out.below hb5) | with_reducible have W0 := Lib.hid (W0.out.drew.below hb5) | with_reducible have W0 := Lib.hid ((W0.out.below (al1 _ _)).below hb5) | with_reducible have W0 := Lib.hid ((W0.out.below (al1 _ _)).drew.below hb5)); (first | with_reducible have WX := Lib.hid (WX.out.below hb5) | with_reducible have WX := Lib.hid (WX.out.drew.below hb5) | with_reducible have WX := Lib.hid ((WX.out.below (al1 _ _)).below hb5) | with_reducible have WX := Lib.hid ((WX.out.below (al1 _ _)).drew.below hb5)); (first | with_reducible have WG := Lib.hid (WG.out.below hb5) | with_reducible have WG := Lib.hid (WG.out.drew.below hb5) | with_reducible have WG := Lib.hid ((WG.out.below (al1 _ _)).below hb5) | with_reducible have WG := Lib.hid ((WG.out.below (al1 _ _)).drew.below hb5)); clear hb5 o5)
          | (go_at_call 17; (with_reducible refine (eqP_same _ _ _ _ _ _ _ _ _ _ _ xs ys _ ?_ O5.out).mono ?_); (first | with_reducible exact WX.out.o.r | with_reducible exact WX.out.drew.o.r | with_reducible exact (WX.out.below (al1 _ _)).o.r | with_reducible exact (WX.out.below (al1 _ _)).drew.o.r); rintro e w9 ⟨rfl, hb9⟩; (first | with_reducible have HS := Lib.hid (HS.out.below hb9) | with_reducible have HS := Lib.hid (HS.out.drew.below hb9) | with_reducible have HS := Lib.hid ((HS.out.below (al1 _ _)).below hb9) | with_reducible have HS := Lib.hid ((HS.out.below (al1 _ _)).drew.below hb9)); (first | with_reducible have W0 := Lib.hid (W0.out.below hb9) | with_reducible have W0 := Lib.hid (W0.out.drew.below hb9) | with_reducible have W0 := Lib.hid ((W0.out.below (al1 _ _)).below hb9) | with_reducible have W0 := Lib.hid ((W0.out.below (al1 _ _)).drew.below hb9)); (first | with_reducible have WX := Lib.hid (WX.out.below hb9) | with_reducible have WX := Lib.hid (WX.out.drew.below hb9) | with_reducible have WX := Lib.hid ((WX.out.below (al1 _ _)).below hb9) | with_reducible have WX := Lib.hid ((WX.out.below (al1 _ _)).drew.below hb9)); (first | with_reducible have WG := Lib.hid (WG.out.below hb9) | with_reducible have WG := Lib.hid (WG.out.drew.below hb9) | with_reducible have WG := Lib.hid ((WG.out.below (al1 _ _)).below hb9) | with_reducible have WG := Lib.hid ((WG.out.below (al1 _ _)).drew.below hb9)); clear hb9))
        obtain ⟨hd1, r0, r1, r2⟩ := WX.out.po
        clear HT O5
        go_wp2_with fail
        clear hd1 r0 r1 r2
        obtain ⟨MX, hMX⟩ : ∃ M : Int, M = ((1 + pn1 + pn2 : Nat) : Int) := ⟨_, rfl⟩
        obtain ⟨MG, hMG⟩ : ∃ M : Int, M = ((1 + m1 + m2 : Nat) : Int) := ⟨_, rfl⟩
        have qx : ¬ MX < 0 := by omega
        have qg : ¬ MG < 0 := by omega
        have HMX := Lib.hid hMX
        have HMG := Lib.hid hMG
        clear hMX hMG
        have hx4 := WX.out.lo_le
        have hx5 := WX.out.o.o1.new
        have hx6 := WX.out.o.o2.new
        have hx7 := WX.out.lt1
        have hx8 := WX.out.lt2
        have hg9 := WG.out.hi_le
        refine (markP_any hi x1 x2 _ _ pn1 pn2 pn1 pn2 1 pp xs ys w9 WX.out.o (by omega) ⟨by omega, by omega⟩ (by omega) (by omega)).mono ?_
        rintro e w10 ⟨rfl, hbb, hpo⟩
        rw [← HMX.out]
        have hv1 : w.heap.size + 1 < x1 := by omega
        have hv2 : w.heap.size + 1 < x2 := by omega
        have HS := Lib.hid (HS.out.but2 hbb hv1 hv2)
        have W0 := Lib.hid (W0.out.but2 hbb (.inl hx5) (.inl hx6))
        have WG := Lib.hid (WG.out.but2 hbb (.inr hx7) (.inr hx8))
        clear hbb hpo hx4 hx5 hx6 hx7 hx8 hg9
        obtain ⟨hd1, r0, r1, r2⟩ := W0.out.po
        obtain ⟨hd2, s0, s1, s2⟩ := WG.out.po
        go_wp2_with fail
        clear hd1 hd2 r0 r1 r2 s0 s1 s2
        refine (eqP_same _ _ _ _ _ _ _ _ _ _ _ us vs _ WG.out.o.r W0.out.o.r).mono ?_
        rintro e w11 ⟨rfl, hb8⟩
        (first | with_reducible have HS := Lib.hid (HS.out.below hb8) | with_reducible have HS := Lib.hid (HS.out.drew.below hb8) | with_reducible have HS := Lib.hid ((HS.out.below (al1 _ _)).below hb8) | with_reducible have HS := Lib.hid ((HS.out.below (al1 _ _)).drew.below hb8)); (first | with_reducible have W0 := Lib.hid (W0.out.below hb8) | with_reducible have W0 := Lib.hid (W0.out.drew.below hb8) | with_reducible have W0 := Lib.hid ((W0.out.below (al1 _ _)).below hb8) | with_reducible have W0 := Lib.hid ((W0.out.below (al1 _ _)).drew.below hb8)); (first | with_reducible have WG := Lib.hid (WG.out.below hb8) | with_reducible have WG := Lib.hid (WG.out.drew.below hb8) | with_reducible have WG := Lib.hid ((WG.out.below (al1 _ _)).below hb8) | with_reducible have WG := Lib.hid ((WG.out.below (al1 _ _)).drew.below hb8))
        clear hb8
        obtain ⟨hd2, s0, s1, s2⟩ := WG.out.po
        go_wp2_with fail
        clear hd2 s0 s1 s2
        have hx5 := WG.out.o.o1.new
        have hx6 := WG.out.o.o2.new
        have hx7 := WG.out.lt1
        have hx8 := WG.out.lt2
        have hg9 := WG.out.hi_le
        refine (markP_any (D + 1) k1 k2 _ _ m1 m2 e1 e2 1 pl us vs w11 WG.out.o (by omega) ⟨by omega, by omega⟩ (by omega) hm1).mono ?_
        rintro e w12 ⟨rfl, hbb, hpo⟩
        rw [← HMG.out]
        have hv1 : w.heap.size + 1 < k1 := by omega
        have hv2 : w.heap.size + 1 < k2 := by omega
        have hv3 : hi ≤ k1 := by omega
        have hv4 : hi ≤ k2 := by omega
        have HS := Lib.hid (HS.out.but2 hbb hv1 hv2)
        have W0 := Lib.hid (W0.out.but2 hbb (.inl hv3) (.inl hv4))
        have WG := Lib.hid (WG.out.mark (xs := us) (ys := vs) hbb hpo)
        clear hbb hpo hx5 hx6 hx7 hx8 hg9
        obtain ⟨hd2, s0, s1, s2⟩ := WG.out.po
        go_wp2_with fail
        clear hd2 s0 s1 s2
        refine (heldP_any _ _ m1 m2 _ _ 1 pl _ WG.out.o.r (by omega) hm1).mono ?_
        rintro e w13 ⟨rfl, hb8⟩
        rw [← HMG.out]
        (first | with_reducible have HS := Lib.hid (HS.out.below hb8) | with_reducible have HS := Lib.hid (HS.out.drew.below hb8) | with_reducible have HS := Lib.hid ((HS.out.below (al1 _ _)).below hb8) | with_reducible have HS := Lib.hid ((HS.out.below (al1 _ _)).drew.below hb8)); (first | with_reducible have W0 := Lib.hid (W0.out.below hb8) | with_reducible have W0 := Lib.hid (W0.out.drew.below hb8) | with_reducible have W0 := Lib.hid ((W0.out.below (al1 _ _)).below hb8) | with_reducible have W0 := Lib.hid ((W0.out.below (al1 _ _)).drew.below hb8)); (first | with_reducible have WG := Lib.hid (WG.out.below hb8) | with_reducible have WG := Lib.hid (WG.out.drew.below hb8) | with_reducible have WG := Lib.hid ((WG.out.below (al1 _ _)).below hb8) | with_reducible have WG := Lib.hid ((WG.out.below (al1 _ _)).drew.below hb8))
        clear hb8
        go_upto_region 24 with fail
        have hg9 := WG.out.hi_le
        go_cut [18, 19, 20] (fun s14 sg s15 wx => ∃ (hh B : Nat) (f1 f2 : Option Addr) (j1 j2 l1 l2 : Nat), s14 = .pointer (some ⟨B, 0, none⟩) ∧ sg = .int .i64 gn ∧ s15 = .int .i64 cd ∧ RpAt w p s c l st sk re fe ag p1 p2 pn1 pc1 pn2 pc2 pp wx ∧ WAt wx (w.heap.size + 2) hi A a1 a2 b1 b2 m1 c1 m2 c2 pl us vs ∧ WAt wx (D + 1) hg G d1 d2 k1 k2 m1 e1 m2 e2 pl (marksN 1 m1) (marksN (1 + m1) m2) ∧ WAt wx hg hh B f1 f2 j1 j2 m1 l1 m2 l2 pl us vs)
        case first =>
          have HBe : Hid (∀ u : World, RpAt w p s c l st sk re fe ag p1 p2 pn1 pc1 pn2 pc2 pp u → Below w.heap.size w u) := Lib.hid (fun u h => h.2.2)
          have HT : Hid (∀ u : World, RpAt w p s c l st sk re fe ag p1 p2 pn1 pc1 pn2 pc2 pp u → (w.heap.size < u.heap.size ∧ u.cell? ⟨w.heap.size, 0, none⟩ = some (.int .i64 p) ∧ u.cell? ⟨w.heap.size, 1, none⟩ = some (.int .i64 s) ∧ u.cell? ⟨w.heap.size, 2, none⟩ = some (.bool st) ∧ u.cell? ⟨w.heap.size, 3, none⟩ = some (.bool sk) ∧ u.cell? ⟨w.heap.size, 4, none⟩ = some (.bool re) ∧ u.cell? ⟨w.heap.size, 5, none⟩ = some (.bool fe) ∧ u.cell? ⟨w.heap.size, 6, none⟩ = some (.bool ag) ∧ u.cell? ⟨w.heap.size, 7, none⟩ = some (.int .i64 c) ∧ u.cell? ⟨w.heap.size, 8, none⟩ = some (.int .i64 l)) ∧ (w.heap.size + 1 < u.heap.size ∧ u.cell? ⟨w.heap.size + 1, 0, none⟩ = some (.slice p1 pn1 pc1) ∧ u.cell? ⟨w.heap.size + 1, 1, none⟩ = some (.slice p2 pn2 pc2) ∧ u.cell? ⟨w.heap.size + 1, 2, none⟩ = some (.int .i64 pp)) ∧ Below w.heap.size w u) := Lib.hid (fun u h => h)
          go_region_held3 (fun u => (w.heap.size < u.heap.size ∧ u.cell? ⟨w.heap.size, 0, none⟩ = some (.int .i64 p) ∧ u.cell? ⟨w.heap.size, 1, none⟩ = some (.int .i64 s) ∧ u.cell? ⟨w.heap.size, 2, none⟩ = some (.bool st) ∧ u.cell? ⟨w.heap.size, 3, none⟩ = some (.bool sk) ∧ u.cell? ⟨w.heap.size, 4, none⟩ = some (.bool re) ∧ u.cell? ⟨w.heap.size, 5, none⟩ = some (.bool fe) ∧ u.cell? ⟨w.heap.size, 6, none⟩ = some (.bool ag) ∧ u.cell? ⟨w.heap.size, 7, none⟩ = some (.int .i64 c) ∧ u.cell? ⟨w.heap.size, 8, none⟩ = some (.int .i64 l)) ∧ (w.heap.size + 1 < u.heap.size ∧ u.cell? ⟨w.heap.size + 1, 0, none⟩ = some (.slice p1 pn1 pc1) ∧ u.cell? ⟨w.heap.size + 1, 1, none⟩ = some (.slice p2 pn2 pc2) ∧ u.cell? ⟨w.heap.size + 1, 2, none⟩ = some (.int .i64 pp)) ∧ Below w.heap.size w u) (first | with_reducible exact HT.out _ HS.out | with_reducible exact HT.out _ HS.out.drew | with_reducible exact HT.out _ (HS.out.below (al1 _ _)) | with_reducible exact HT.out _ (HS.out.below (al1 _ _)).drew | with_reducible exact HT.out _ (HS.out.setA (by omega) _ _ _))
            (first
            | (go_at_call 14; (with_reducible refine (toRules_any p s c l st sk re fe ag _).mono ?_); rintro e w5 ⟨rfl, hb5⟩; (have hA1 := WG.out.hi_le); (first | with_reducible have HZ := Lib.hid (HZ.out.below hb5) | with_reducible have HZ := Lib.hid (HZ.out.drew.below hb5) | with_reducible have HZ := Lib.hid ((zero_new _ 32).below hb5) | with_reducible have HZ := Lib.hid ((zero_new _ 32).drew.below hb5) | skip); (first | with_reducible have HS := Lib.hid (HS.out.below hb5) | with_reducible have HS := Lib.hid (HS.out.drew.below hb5) | with_reducible have HS := Lib.hid ((HS.out.below (al1 _ _)).below hb5) | with_reducible have HS := Lib.hid ((HS.out.below (al1 _ _)).drew.below hb5)); (first | with_reducible have W0 := Lib.hid (W0.out.below hb5) | with_reducible have W0 := Lib.hid (W0.out.drew.below hb5) | with_reducible have W0 := Lib.hid ((W0.out.below (al1 _ _)).below hb5) | with_reducible have W0 := Lib.hid ((W0.out.below (al1 _ _)).drew.below hb5)); (first | with_reducible have WG := Lib.hid (WG.out.below hb5) | with_reducible have WG := Lib.hid (WG.out.drew.below hb5) | with_reducible have WG := Lib.hid ((WG.out.below (al1 _ _)).below hb5) | with_reducible have WG := Lib.hid ((WG.out.below (al1 _ _)).drew.below hb5)); clear hb5)
            | (go_at_call 15; (with_reducible refine (toPos_any p1 p2 pn1 pc1 pn2 pc2 pp xs ys _ ?_).mono ?_); (first | with_reducible exact PosR.below H.out (HBe.out _ HS.out) | with_reducible exact PosR.below H.out (HBe.out _ HS.out.drew) | with_reducible exact PosR.below H.out (HBe.out _ (HS.out.below (al1 _ _))) | with_reducible exact PosR.below H.out (HBe.out _ (HS.out.below (al1 _ _)).drew)); rintro e w5 ⟨g1, g2, rfl, o5, l51, l52, hb5⟩; have O5 := Lib.hid o5.r; (have hA2 := WG.out.hi_le); (first | with_reducible have HZ := Lib.hid (HZ.out.below hb5) | with_reducible have HZ := Lib.hid (HZ.out.drew.below hb5) | with_reducible have HZ := Lib.hid ((zero_new _ 32).below hb5) | with_reducible have HZ := Lib.hid ((zero_new _ 32).drew.below hb5) | skip); (first | with_reducible have HS := Lib.hid (HS.out.below hb5) | with_reducible have HS := Lib.hid (HS.out.drew.below hb5) | with_reducible have HS := Lib.hid ((HS.out.below (al1 _ _)).below hb5) | with_reducible have HS := Lib.hid ((HS.out.below (al1 _ _)).drew.below hb5)); (first | with_reducible have W0 := Lib.hid (W0.out.below hb5) | with_reducible have W0 := Lib.hid (W0.out.drew.below hb5) | with_reducible have W0 := Lib.hid ((W0.out.below (al1 _ _)).below hb5) | with_reducible have W0 := Lib.hid ((W0.out.below (al1 _ _)).drew.below hb5)); (first | with_reducible have WG := Lib.hid (WG.out.below hb5) | with_reducible have WG := Lib.hid (WG.out.drew.below hb5) | with_reducible have WG := Lib.hid ((WG.out.below (al1 _ _)).below hb5) | with_reducible have WG := Lib.hid ((WG.out.below (al1 _ _)).drew.below hb5)); clear hb5 o5)
            | (go_at_call 27; (with_reducible refine (Hi.out _ _ _ ?_).mono ?_); (first | with_reducible exact O5.out | with_reducible exact O5.out.alloc _ | with_reducible exact O5.out.drewN 1); rintro e w6 ⟨f1, l1, j1, f2, l2, j2, rfl, ho, hlt1, hlt2, hc1, hc2, hb6⟩; (have hA3 := WG.out.hi_le); (first | have hA4 := HZ.out.lt | skip); have n1 := ho.o1.new; have n2 := ho.o2.new; (first | with_reducible have HZ := Lib.hid (HZ.out.below hb6) | with_reducible have HZ := Lib.hid (HZ.out.drew.below hb6) | with_reducible have HZ := Lib.hid ((zero_new _ 32).below hb6) | with_reducible have HZ := Lib.hid ((zero_new _ 32).drew.below hb6) | skip); (first | with_reducible have HS := Lib.hid (HS.out.below hb6) | with_reducible have HS := Lib.hid (HS.out.drew.below hb6) | with_reducible have HS := Lib.hid ((HS.out.below (al1 _ _)).below hb6) | with_reducible have HS := Lib.hid ((HS.out.below (al1 _ _)).drew.below hb6)); (first | with_reducible have W0 := Lib.hid (W0.out.below hb6) | with_reducible have W0 := Lib.hid (W0.out.drew.below hb6) | with_reducible have W0 := Lib.hid ((W0.out.below (al1 _ _)).below hb6) | with_reducible have W0 := Lib.hid ((W0.out.below (al1 _ _)).drew.below hb6)); (first | with_reducible have WG := Lib.hid (WG.out.below hb6) | with_reducible have WG := Lib.hid (WG.out.drew.below hb6) | with_reducible have WG := Lib.hid ((WG.out.below (al1 _ _)).below hb6) | with_reducible have WG := Lib.hid ((WG.out.below (al1 _ _)).drew.below hb6)); have HO := Lib.hid (ho.lower (C := hg) (by first | omega | (simp; omega))); clear hb6 ho; (first | (obtain ⟨zl, z0, z1, z2, zf⟩ := HZ.out; have f0 := zf 0; have f1 := zf 1; have f2 := zf 2; clear zf) | skip)))
          all_goals (try simp at n1 n2)
          all_goals have hA5 := WG.out.hi_le
          all_goals go_wp2_with fail
          all_goals go_meet
          · exact ⟨_, _, _, _, _, _, _, _, rfl, rfl, rfl, HS.out.below (al1 _ _), W0.out.below (al1 _ _), WG.out.below (al1 _ _), wat_new _ pl l1 l2 HO.out hlt1 hlt2 (by omega)⟩
          all_goals exact ⟨_, _, _, _, _, _, _, _, rfl, rfl, rfl, HS.out.setA (by omega) _ _ _, W0.out.set3 _ _ _ (by omega), WG.out.set3 _ _ _ (by omega), wat_set HZ.out pl l1 l2 HO.out hlt1 hlt2 (by omega) (by omega) (by omega)⟩
        case rest =>
          obtain ⟨hh, B, f1, f2, j1, j2, l1, l2, rfl, rfl, rfl, hs, hw, hx, hv⟩ := hcut
          have HS := Lib.hid hs
          have W0 := Lib.hid hw
          have WG := Lib.hid hx
          have WH := Lib.hid hv
          obtain ⟨hd1, r0, r1, r2⟩ := hw.po
          obtain ⟨hd2, s0, s1, s2⟩ := hv.po
          clear hs hw hx hv
          go_wp2_with fail
          clear hd1 hd2 r0 r1 r2 s0 s1 s2
          refine (eqP_same _ _ _ _ _ _ _ _ _ _ _ us vs _ WH.out.o.r W0.out.o.r).mono ?_
          rintro e w15 ⟨rfl, hb8⟩
          (first | with_reducible have HS := Lib.hid (HS.out.below hb8) | with_reducible have HS := Lib.hid (HS.out.drew.below hb8) | with_reducible have HS := Lib.hid ((HS.out.below (al1 _ _)).below hb8) | with_reducible have HS := Lib.hid ((HS.out.below (al1 _ _)).drew.below hb8)); (first | with_reducible have WG := Lib.hid (WG.out.below hb8) | with_reducible have WG := Lib.hid (WG.out.drew.below hb8) | with_reducible have WG := Lib.hid ((WG.out.below (al1 _ _)).below hb8) | with_reducible have WG := Lib.hid ((WG.out.below (al1 _ _)).drew.below hb8))
          clear hb8
          obtain ⟨hd2, s0, s1, s2⟩ := WG.out.po
          go_wp2_with fail
          clear hd2 s0 s1 s2
          refine (heldP_any _ _ m1 m2 _ _ 1 pl _ WG.out.o.r (by omega) hm1).mono ?_
          rintro e w16 ⟨rfl, hb8⟩
          rw [← HMG.out]
          (first | with_reducible have HS := Lib.hid (HS.out.below hb8) | with_reducible have HS := Lib.hid (HS.out.drew.below hb8) | with_reducible have HS := Lib.hid ((HS.out.below (al1 _ _)).below hb8) | with_reducible have HS := Lib.hid ((HS.out.below (al1 _ _)).drew.below hb8))
          clear hb8
          go_wp2_with fail
          go_ret
          exact ⟨rfl, HS.out.2.2⟩
  · have e1 := szV_no hsz
    have E1 := Lib.hid e1
    clear e1
    go_enter Try.func6, Try.ntmps6
    go_wp2_with fail
    refine (szP_any p1 p2 pn1 pc1 pn2 pc2 pp 1048576 (by omega) (by omega) hb1 hb2 _).mono ?_
    rintro e w1 ⟨rfl, b1⟩
    rw [E1.out]
    have HS := Lib.hid (HS.out.below b1)
    clear b1
    go_wp2_with fail
    go_ret
    exact ⟨rfl, HS.out.2.2⟩
theorem walk_FnExactMakeMove (x : RV) (hx : x.Fit) (q : PV) {w : World} (hq : q.In w) (m : Int) (hm : I64 m) : Calls Try.prog 6 #[x.val, q.val, .int .i64 m] w fun e w' => e = .returned (.bool true) ∧ Below w.heap.size w w' :=
  walk0_FnExactMakeMove _ _ _ _ _ _ _ _ _ _ _ _ _ _ _ _ _ _ m w hq.2
namespace fnExactMakeMove
set_option maxHeartbeats 2000000 in
set_option maxRecDepth 100000 in
theorem lifted (os : Os) (started : os.Started) (H : Type) (enc : TypeId × Value → H) :
    ReturnsInHanded {} Try.checked os 6 .any (Rows.fnExactMakeMoveSpec.pre6 enc Try.prog Try.f6 Rows.fnExactMakeMoveRow.domain false) (Rows.fnExactMakeMoveSpec.post enc Try.prog Try.f6 false true false false) := by
  refine returnsInHanded_of_change (C := Try.checked) own started (by kernel_rfl) Try.func6
    (ChangeSpec.witness6 (enc := enc) (C := Try.checked) false ⟨#[], #[.agg #[.int .i64 0, .int .i64 0, .bool false, .bool false, .bool false, .bool false, .bool false, .int .i64 0, .int .i64 0], .agg #[.slice none 0 0, .slice none 0 0, .int .i64 0], .int .i64 0], []⟩ 8 (by kernel_rfl) (by kernel_rfl) (by kernel_rfl) (by kernel_rfl)) ?_
  intro W base args ds gs before hval0 hW hcnd _
  have hval : ∀ (j : Nat) t v, Try.f6.params[j]? = some t → args[j]? = some v → Value.okWide Try.prog W .any base t v := hval0
  have hW' := hW
  obtain ⟨p, q, hA0, hV, rfl, hfz, hnd⟩ := hW
  have hA : DataW.TrodAll enc Try.prog W 0 (fun _ => true) true Try.f6.params.toList args.toList ds p := hA0
  rw [Try.params6] at hA hval
  obtain ⟨v0, vs0, d0, ds0, p0, q0, hargs, rfl, rfl, h0, r0⟩ := trodAll_cons hA
  obtain ⟨v1, vs1, d1, ds1, p1, q1, rfl, rfl, rfl, h1, r1⟩ := trodAll_cons r0
  obtain ⟨v2, vs2, d2, ds2, p2, q2, rfl, rfl, rfl, h2, r2⟩ := trodAll_cons r1
  obtain ⟨rfl, rfl, rfl⟩ := trodAll_nil r2
  obtain rfl : args = #[v0, v1, v2] := by cases args; simp_all
  obtain ⟨rfl, rfl⟩ := trodVars_none hV
  have k0 := h0
  have lt0 : ∀ x ∈ p0, x.block < W.heap.size := by obtain ⟨m, hm⟩ := k0; exact DataW.trod_lt m _ _ _ hm
  obtain ⟨x0, rfl, w0⟩ := open_rules Try.underlying23 Try.underlying2 Try.underlying4 (by kernel_rfl) (by kernel_rfl) (hval 0 23 v0 rfl rfl) h0
  have k1 := h1
  have lt1 : ∀ x ∈ p1, x.block < W.heap.size := by obtain ⟨m, hm⟩ := k1; exact DataW.trod_lt m _ _ _ hm
  obtain ⟨x1, rfl, w1⟩ := open_pos Try.underlying26 Try.underlying24 Try.underlying2 (by kernel_rfl) (by kernel_rfl) (by kernel_rfl) (hval 1 26 v1 rfl rfl) h1
  have k2 := h2
  have lt2 : ∀ x ∈ p2, x.block < W.heap.size := by obtain ⟨m, hm⟩ := k2; exact DataW.trod_lt m _ _ _ hm
  obtain ⟨a2, rfl, -, -, w2⟩ := open_int Try.underlying2 (hval 2 2 v2 rfl rfl) h2
  clear hA0 hval0
  refine (walk_FnExactMakeMove x0 w0 x1 w1 a2 (wf_i64 w2) (w := W)).mono fun e W' ⟨he, bel⟩ => ?_
  subst he
  exact ⟨_, rfl, _, _, _, [], _, [], hW', trodAll_mk1 (shut_bool Try.underlying4 _), (trodAll_cons_mk (Below.trod laidOut (by kernel_rfl) (of_decide_eq_true (by kernel_rfl)) k0 bel lt0) (trodAll_cons_mk (Below.trod laidOut (by kernel_rfl) (of_decide_eq_true (by kernel_rfl)) k1 bel lt1) (trodAll_cons_mk (Below.trod laidOut (by kernel_rfl) (of_decide_eq_true (by kernel_rfl)) k2 bel lt2) trodAll_mk0))), rfl, bel.frame _, fun h => by cases h⟩

theorem proved : Rows.FnExactMakeMoveSaid :=
  OpenClaim.holds_of_wide 6 Try.f6 rfl rfl rfl rfl rfl rfl rfl ⟨rfl, rfl, rfl, rfl, rfl⟩ rfl rfl rfl rfl rfl (by kernel_rfl) Try.func6 (by kernel_rfl)
    (of_decide_eq_true (by kernel_rfl)) (by unfold Func.isWrapper; first | (rw [if_pos (by decide +kernel)]; kernel_rfl) | (rw [if_neg (by decide +kernel)]; exact ⟨rfl, rfl⟩))
    (fun os started H enc _ => lifted os started H enc)
end fnExactMakeMove

end Go.Proofs.Ytdhkfkfoibddnaa
