/- The law on MoversOf. No conditions. -/
import Derived.Test.YtmngmbpdiaocjaaVz7
import Derived.Test.YtmngmbpdiaocjaaVz4
import Derived.Deep.DeepCutAuto
namespace Go.Proofs.Ytmngmbpdiaocjaa
open Go.Joins Go.ChangeShapes Go.WideShapes Go.ChangeAt Go.RowKit Go.Deep
set_option linter.unusedVariables false

set_option maxHeartbeats 8000000 in
set_option maxRecDepth 100000 in
theorem walk0_FnExactMoversOf (ggp ggs ggc ggl : Int) (ggst ggsk ggre ggfe ggag : Bool) (gga1 gga2 : Option Addr) (ggan1 ggac1 ggan2 ggac2 : Nat) (ggap : Int) (ggm : Option Addr) (ggmn ggmc : Nat) (ggb1 ggb2 : Option Addr) (ggbn1 ggbc1 ggbn2 ggbc2 : Nat) (ggbp ggrg : Int) (sx sy ms nx ny : List Int) (w : World) (h1 : GamW w gga1 gga2 ggan1 ggan2 ggm ggmn ggb1 ggb2 ggbn1 ggbn2 sx sy ms nx ny) :
    Calls Try.prog 5 #[.agg #[.int .i64 ggp, .int .i64 ggs, .bool ggst, .bool ggsk, .bool ggre, .bool ggfe, .bool ggag, .int .i64 ggc, .int .i64 ggl, .slice gga1 ggan1 ggac1, .slice gga2 ggan2 ggac2, .int .i64 ggap, .slice ggm ggmn ggmc, .slice ggb1 ggbn1 ggbc1, .slice ggb2 ggbn2 ggbc2, .int .i64 ggbp, .int .i64 ggrg]] w fun e w' => e = .returned (.bool true) ∧ Below w.heap.size w w' := by
  have ha1 := Lib.hid (And.intro h1.s.m1 (And.intro h1.s.m2 (And.intro h1.mn (And.intro h1.n.m1 h1.n.m2))))
  have HW1 := Lib.hid h1
  have HS := Lib.hid (gmb_new ggp ggs ggc ggl ggst ggsk ggre ggfe ggag gga1 gga2 ggan1 ggac1 ggan2 ggac2 ggap ggm ggmn ggmc ggb1 ggb2 ggbn1 ggbc1 ggbn2 ggbc2 ggbp ggrg w 28)
  clear h1
  obtain ⟨nA, hnA⟩ : ∃ n, gmN ggan1 ggan2 ggmn ggbn1 ggbn2 = n := ⟨_, rfl⟩
  have pA : 0 ≤ nA := by rw [← hnA]; unfold gmN; omega
  by_cases hz1 : nA ≤ 1048576
  rotate_left
  · have E1 : Hid (szW 1048576 (gmN ggan1 ggan2 ggmn ggbn1 ggbn2) = -1) := Lib.hid (by rw [hnA]; exact szW_no hz1)
    clear hnA pA hz1
    go_enter Try.func5, Try.ntmps5
    go_upto_region 2 with fail
    go_step
    refine wpList_load_mid rfl 28 (.tmp 1) rfl w.heap.size 0 rfl _ _ (GmAt.range HS.out.1) Try.underlying28 rfl (by kernel_rfl) ?_
    simp only [Act.put, List.setIfInBounds_toArray, List.set_cons_zero, List.set_cons_succ]
    go_wp2_with fail
    refine (szG_any ggp ggs ggc ggl ggst ggsk ggre ggfe ggag gga1 gga2 ggan1 ggac1 ggan2 ggac2 ggap ggm ggmn ggmc ggb1 ggb2 ggbn1 ggbc1 ggbn2 ggbc2 ggbp ggrg 1048576 (by omega) (by omega) ha1.out.1 ha1.out.2.1 ha1.out.2.2.1 ha1.out.2.2.2.1 ha1.out.2.2.2.2 _).mono ?_
    rintro e v1 ⟨rfl, hb⟩
    rw [E1.out]
    have HS := Lib.hid (HS.out.below hb)
    clear hb
    go_wp2_with fail
    go_ret
    exact ⟨rfl, HS.out.2⟩
  have q0 : 0 ≤ 1048576 - nA := by omega
  have E1 : Hid (szW 1048576 (gmN ggan1 ggan2 ggmn ggbn1 ggbn2) = 1048576 - nA) := Lib.hid (by rw [hnA]; exact szW_yes hz1)
  have hsum : ggan1 + ggan2 + ggmn + ggbn1 + ggbn2 ≤ 1048576 := by unfold gmN at hnA; omega
  have H1 := Lib.hid (HW1.out.toR (by unfold gmN at hnA; omega))
  clear HW1 hnA hz1
  obtain ⟨NS, hNS⟩ : ∃ NS, NS = RowX (okG ggp ggs ggc ggl ggst ggsk ggre ggfe ggag ggan1 ggan2 ggap sx sy ms ggbp nx ny ggrg) (mvsV (stp ggp ggc ggl ggst ggsk ggre ggfe ggag) ⟨ggap, sx, sy⟩ ms) := ⟨_, rfl⟩
  have hle : NS.length ≤ 120 := by rw [hNS]; exact mvs_le _ _ _ _ _ _ _ _ _
  obtain ⟨cv, hcv⟩ : ∃ cv : Int, cv = (if okG ggp ggs ggc ggl ggst ggsk ggre ggfe ggag ggan1 ggan2 ggap sx sy ms ggbp nx ny ggrg = true then 0 else 1) := ⟨_, rfl⟩
  have HSp : Hid (∀ (a1 a2 mm b1 b2 : Option Addr) (u : World), GamR u a1 a2 ggan1 ggan2 mm ggmn b1 b2 ggbn1 ggbn2 sx sy ms nx ny → Calls Try.prog 22 #[.agg #[.int .i64 ggp, .int .i64 ggs, .bool ggst, .bool ggsk, .bool ggre, .bool ggfe, .bool ggag, .int .i64 ggc, .int .i64 ggl, .slice a1 ggan1 ggan1, .slice a2 ggan2 ggan2, .int .i64 ggap, .slice mm ggmn ggmn, .slice b1 ggbn1 ggbn1, .slice b2 ggbn2 ggbn2, .int .i64 ggbp, .int .i64 ggrg]] u fun e w' => ∃ v, e = .returned (.tuple #[v, .int .i64 cv]) ∧ w'.ownsRow u.heap.size 2 1 v NS.length (nvs NS) ∧ Below u.heap.size u w') := Lib.hid (fun a1 a2 mm b1 b2 u hu => (specMoversOf_any ggp ggs ggc ggl ggst ggsk ggre ggfe ggag a1 a2 ggan1 ggan1 ggan2 ggan2 ggap mm ggmn ggmn b1 b2 ggbn1 ggbn1 ggbn2 ggbn2 ggbp ggrg sx sy ms nx ny u hu).mono (fun e w' hq => by rw [hNS, hcv]; exact hq.ex))
  have HIm : Hid (∀ (a1 a2 mm b1 b2 : Option Addr) (u : World), GamR u a1 a2 ggan1 ggan2 mm ggmn b1 b2 ggbn1 ggbn2 sx sy ms nx ny → Calls Try.prog 23 #[.agg #[.int .i64 ggp, .int .i64 ggs, .bool ggst, .bool ggsk, .bool ggre, .bool ggfe, .bool ggag, .int .i64 ggc, .int .i64 ggl, .slice a1 ggan1 ggan1, .slice a2 ggan2 ggan2, .int .i64 ggap, .slice mm ggmn ggmn, .slice b1 ggbn1 ggbn1, .slice b2 ggbn2 ggbn2, .int .i64 ggbp, .int .i64 ggrg]] u fun e w' => ∃ v, e = .returned (.tuple #[v, .int .i64 cv]) ∧ w'.ownsRow u.heap.size 2 1 v NS.length (nvs NS) ∧ Below u.heap.size u w') := Lib.hid (fun a1 a2 mm b1 b2 u hu => (implMoversOf_any ggp ggs ggc ggl ggst ggsk ggre ggfe ggag a1 a2 ggan1 ggan1 ggan2 ggan2 ggap mm ggmn ggmn b1 b2 ggbn1 ggbn1 ggbn2 ggbn2 ggbp ggrg sx sy ms nx ny u hu).mono (fun e w' hq => by rw [hNS, hcv]; exact hq.ex))
  obtain ⟨n, hn⟩ : ∃ n, NS.length = n := ⟨_, rfl⟩
  have Hn := Lib.hid hn
  rw [hn] at hle HSp HIm
  clear hNS hcv hn
  go_enter Try.func5, Try.ntmps5
  go_upto_region 2 with fail
  go_step
  refine wpList_load_mid rfl 28 (.tmp 1) rfl w.heap.size 0 rfl _ _ (GmAt.range HS.out.1) Try.underlying28 rfl (by kernel_rfl) ?_
  simp only [Act.put, List.setIfInBounds_toArray, List.set_cons_zero, List.set_cons_succ]
  go_wp2_with fail
  refine (szG_any ggp ggs ggc ggl ggst ggsk ggre ggfe ggag gga1 gga2 ggan1 ggac1 ggan2 ggac2 ggap ggm ggmn ggmc ggb1 ggb2 ggbn1 ggbc1 ggbn2 ggbc2 ggbp ggrg 1048576 (by omega) (by omega) ha1.out.1 ha1.out.2.1 ha1.out.2.2.1 ha1.out.2.2.2.1 ha1.out.2.2.2.2 _).mono ?_
  rintro e v1 ⟨rfl, hb⟩
  rw [E1.out]
  have HS := Lib.hid (HS.out.below hb)
  clear hb
  go_upto_region 5 with fail
  go_step
  refine wpList_load_mid rfl 28 (.tmp 1) rfl w.heap.size 0 rfl _ _ (GmAt.range HS.out.1) Try.underlying28 rfl (by kernel_rfl) ?_
  simp only [Act.put, List.setIfInBounds_toArray, List.set_cons_zero, List.set_cons_succ]
  go_wp2_with fail
  refine (toG_any ggp ggs ggc ggl ggst ggsk ggre ggfe ggag gga1 gga2 ggan1 ggac1 ggan2 ggac2 ggap ggm ggmn ggmc ggb1 ggb2 ggbn1 ggbc1 ggbn2 ggbc2 ggbp ggrg sx sy ms nx ny _ (H1.out.below HS.out.2)).mono ?_
  rintro e w5 ⟨g1, g2, g3, g4, g5, rfl, og, -, hb⟩
  have HS := Lib.hid (HS.out.below hb)
  have OG := Lib.hid og.r
  clear hb og
  go_wp2_with fail
  refine (HSp.out (some ⟨g1, 0, none⟩) (some ⟨g2, 0, none⟩) (some ⟨g3, 0, none⟩) (some ⟨g4, 0, none⟩) (some ⟨g5, 0, none⟩) _ OG.out).mono ?_
  rintro e w6 ⟨v0, rfl, hown, hb⟩
  obtain ⟨a0, c0, b0, rfl, hr0⟩ := rin_own (own_lower (C := w.heap.size + 1) hown HS.out.1.1) Hn.out (by omega)
  have R0 := Lib.hid hr0
  have HS := Lib.hid (HS.out.below hb)
  have hsz6 : w.heap.size < w6.heap.size := HS.out.1.1
  clear hb OG hown hr0
  go_upto_region 6 with fail
  obtain ⟨H0, hH0⟩ : ∃ H0, H0 = w6.heap.size := ⟨_, rfl⟩
  rw [← hH0] at R0 hsz6
  go_cut [6] (fun sx' wx => ∃ A g1 g2 g3 g4 g5 : Nat, sx' = .pointer (some ⟨A, 0, none⟩) ∧ H0 ≤ A ∧ GmB w w.heap.size ggp ggs ggc ggl ggst ggsk ggre ggfe ggag gga1 gga2 ggan1 ggac1 ggan2 ggac2 ggap ggm ggmn ggmc ggb1 ggb2 ggbn1 ggbc1 ggbn2 ggbc2 ggbp ggrg wx ∧ RIn wx (w.heap.size + 1) H0 a0 b0 NS ∧ GmAt wx A ggp ggs ggc ggl ggst ggsk ggre ggfe ggag (some ⟨g1, 0, none⟩) (some ⟨g2, 0, none⟩) ggan1 ggan1 ggan2 ggan2 ggap (some ⟨g3, 0, none⟩) ggmn ggmn (some ⟨g4, 0, none⟩) (some ⟨g5, 0, none⟩) ggbn1 ggbn1 ggbn2 ggbn2 ggbp ggrg ∧ GamO wx H0 (some ⟨g1, 0, none⟩) (some ⟨g2, 0, none⟩) g1 g2 ggan1 ggan2 (some ⟨g3, 0, none⟩) g3 ggmn (some ⟨g4, 0, none⟩) (some ⟨g5, 0, none⟩) g4 g5 ggbn1 ggbn2 sx sy ms nx ny ∧ GamD wx g1 g2 g3 g4 g5)
  case first =>
    go_step
    refine wpList_load_mid rfl 28 (.tmp 1) rfl w.heap.size 0 rfl _ _ (GmAt.range HS.out.1) Try.underlying28 rfl (by kernel_rfl) ?_
    simp only [Act.put, List.setIfInBounds_toArray, List.set_cons_zero, List.set_cons_succ]
    go_wp2_with fail
    refine (toG2_any ggp ggs ggc ggl ggst ggsk ggre ggfe ggag gga1 gga2 ggan1 ggac1 ggan2 ggac2 ggap ggm ggmn ggmc ggb1 ggb2 ggbn1 ggbc1 ggbn2 ggbc2 ggbp ggrg sx sy ms nx ny _ (H1.out.below HS.out.2)).mono ?_
    rintro e w5 ⟨g1, g2, g3, g4, g5, rfl, og, -, gd, hb⟩
    have HS := Lib.hid (HS.out.below hb)
    have R0 := Lib.hid (R0.out.below hb)
    have hs5 := hb.size
    rw [← hH0] at og hs5
    clear hb
    go_wp2_with (refine wpList_store_mid rfl 34 _ _ rfl w5.heap.size 0 (List.toArray [.int .i64 ggp, .int .i64 ggs, .bool ggst, .bool ggsk, .bool ggre, .bool ggfe, .bool ggag, .int .i64 ggc, .int .i64 ggl, .slice (some ⟨g1, 0, none⟩) ggan1 ggan1, .slice (some ⟨g2, 0, none⟩) ggan2 ggan2, .int .i64 ggap, .slice (some ⟨g3, 0, none⟩) ggmn ggmn, .slice (some ⟨g4, 0, none⟩) ggbn1 ggbn1, .slice (some ⟨g5, 0, none⟩) ggbn2 ggbn2, .int .i64 ggbp, .int .i64 ggrg]) rfl rfl (there17 w5 34) (by kernel_rfl) (gm_one _ _ _ _ _ _ _ _ _ _ _ _ _ _ _ _ _ _ _ _ _ _ _ _ _ _ _) ?_)
    go_meet
    have hst := below_stored w5 34 [.int .i64 ggp, .int .i64 ggs, .bool ggst, .bool ggsk, .bool ggre, .bool ggfe, .bool ggag, .int .i64 ggc, .int .i64 ggl, .slice (some ⟨g1, 0, none⟩) ggan1 ggan1, .slice (some ⟨g2, 0, none⟩) ggan2 ggan2, .int .i64 ggap, .slice (some ⟨g3, 0, none⟩) ggmn ggmn, .slice (some ⟨g4, 0, none⟩) ggbn1 ggbn1, .slice (some ⟨g5, 0, none⟩) ggbn2 ggbn2, .int .i64 ggbp, .int .i64 ggrg]
    exact ⟨_, g1, g2, g3, g4, g5, rfl, hs5, HS.out.below hst, R0.out.below hst, gm_of_rg (by rw [size_scg]; simp) (World.rangeAt_setCells_same _ _ 0 _ (there17 w5 34)), og.below hst, ⟨Nat.lt_of_lt_of_le gd.l1 hst.size, Nat.lt_of_lt_of_le gd.l2 hst.size, Nat.lt_of_lt_of_le gd.l3 hst.size, Nat.lt_of_lt_of_le gd.l4 hst.size, Nat.lt_of_lt_of_le gd.l5 hst.size, gd.n13, gd.n23, gd.n14, gd.n24, gd.n15, gd.n25, gd.n34, gd.n35⟩⟩
  case rest =>
  obtain ⟨A1, g1, g2, g3, g4, g5, rfl, hA1, hs, hr0, hga, hog, hgd⟩ := hcut
  have HS := Lib.hid hs
  have R0 := Lib.hid hr0
  have GA := Lib.hid hga
  have OG := Lib.hid hog
  have GD := Lib.hid hgd
  have GR := Lib.hid hog.r
  have hA1s := hga.1
  have hg1 := hgd.l1
  have hg2 := hgd.l2
  have hg3 := hgd.l3
  have hg4 := hgd.l4
  have hg5 := hgd.l5
  have hh1 := hog.s.o1.new
  have hh2 := hog.s.o2.new
  have hh3 := hog.m.new
  have hh4 := hog.n.o1.new
  have hh5 := hog.n.o2.new
  clear hs hr0 hga hog hgd hH0
  go_upto_region 7 with fail
  go_step
  refine wpList_load_mid rfl 34 (.tmp 6) rfl A1 0 rfl _ _ (GmAt.range GA.out) Try.underlying34 rfl (by kernel_rfl) ?_
  simp only [Act.put, List.setIfInBounds_toArray, List.set_cons_zero, List.set_cons_succ]
  go_wp2_with fail
  refine (HIm.out (some ⟨g1, 0, none⟩) (some ⟨g2, 0, none⟩) (some ⟨g3, 0, none⟩) (some ⟨g4, 0, none⟩) (some ⟨g5, 0, none⟩) _ GR.out).mono ?_
  rintro e w7 ⟨v1, rfl, hown, hb⟩
  obtain ⟨a1, c1, b1, rfl, hr1⟩ := rin_own hown Hn.out (by omega)
  have R1 := Lib.hid hr1
  have HS := Lib.hid (HS.out.below hb)
  have R0 := Lib.hid (R0.out.below hb)
  have GA := Lib.hid (GA.out.below hb)
  have OG := Lib.hid (OG.out.below hb)
  have GD := Lib.hid (GD.out.below hb)
  have GR := Lib.hid (GR.out.below hb)
  clear hb hown hr1
  go_wp2_with fail
  refine (eqN_same a1 a0 c1 c0 n NS _ Hn.out R1.out.1.row R0.out.1.row).mono ?_
  rintro e w8 ⟨rfl, hb⟩
  have HS := Lib.hid (HS.out.below hb)
  have R0 := Lib.hid (R0.out.below hb)
  have R1 := Lib.hid (R1.out.below hb)
  have GA := Lib.hid (GA.out.below hb)
  have OG := Lib.hid (OG.out.below hb)
  have GD := Lib.hid (GD.out.below hb)
  have GR := Lib.hid (GR.out.below hb)
  clear hb
  go_upto_region 10 with fail
  refine wp_region_held_drew (S := fun u => u.rangeAt A1 0 [.int .i64 ggp, .int .i64 ggs, .bool ggst, .bool ggsk, .bool ggre, .bool ggfe, .bool ggag, .int .i64 ggc, .int .i64 ggl, .slice (some ⟨g1, 0, none⟩) ggan1 ggan1, .slice (some ⟨g2, 0, none⟩) ggan2 ggan2, .int .i64 ggap, .slice (some ⟨g3, 0, none⟩) ggmn ggmn, .slice (some ⟨g4, 0, none⟩) ggbn1 ggbn1, .slice (some ⟨g5, 0, none⟩) ggbn2 ggbn2, .int .i64 ggbp, .int .i64 ggrg] ∧ u.rangeAt w.heap.size 0 [.int .i64 ggp, .int .i64 ggs, .bool ggst, .bool ggsk, .bool ggre, .bool ggfe, .bool ggag, .int .i64 ggc, .int .i64 ggl, .slice gga1 ggan1 ggac1, .slice gga2 ggan2 ggac2, .int .i64 ggap, .slice ggm ggmn ggmc, .slice ggb1 ggbn1 ggbc1, .slice ggb2 ggbn2 ggbc2, .int .i64 ggbp, .int .i64 ggrg]) (by kernel_rfl) ⟨GmAt.range GA.out, GmAt.range HS.out.1⟩ (fun hHeld => ?_)
  have HS := Lib.hid (HS.out.below (below_dn (Below.refl _ _) 1))
  have R0 := Lib.hid (R0.out.below (below_dn (Below.refl _ _) 1))
  have R1 := Lib.hid (R1.out.below (below_dn (Below.refl _ _) 1))
  have GA := Lib.hid (GA.out.below (below_dn (Below.refl _ _) 1))
  have OG := Lib.hid (OG.out.below (below_dn (Below.refl _ _) 1))
  have GD := Lib.hid (GD.out.below (below_dn (Below.refl _ _) 1))
  have GR := Lib.hid (GR.out.below (below_dn (Below.refl _ _) 1))
  refine wpAnyH_take (i := 0) rfl (by kernel_rfl) (by kernel_rfl) (by kernel_rfl) (fun _ _ _ h => h) (yieldsIf_load_mid (by rfl) 34 _ rfl A1 0 rfl [.int .i64 ggp, .int .i64 ggs, .bool ggst, .bool ggsk, .bool ggre, .bool ggfe, .bool ggag, .int .i64 ggc, .int .i64 ggl, .slice (some ⟨g1, 0, none⟩) ggan1 ggan1, .slice (some ⟨g2, 0, none⟩) ggan2 ggan2, .int .i64 ggap, .slice (some ⟨g3, 0, none⟩) ggmn ggmn, .slice (some ⟨g4, 0, none⟩) ggbn1 ggbn1, .slice (some ⟨g5, 0, none⟩) ggbn2 ggbn2, .int .i64 ggbp, .int .i64 ggrg] _ (fun u hu => hu.1) Try.underlying34 rfl (by kernel_rfl)) hHeld ?_
  simp only [Act.put, List.setIfInBounds_toArray]
  refine wpAnyH_take (i := 1) rfl (by kernel_rfl) (by kernel_rfl) (by kernel_rfl) (fun _ _ _ h => h) (yieldsIf_load_mid (by rfl) 28 _ rfl w.heap.size 0 rfl [.int .i64 ggp, .int .i64 ggs, .bool ggst, .bool ggsk, .bool ggre, .bool ggfe, .bool ggag, .int .i64 ggc, .int .i64 ggl, .slice gga1 ggan1 ggac1, .slice gga2 ggan2 ggac2, .int .i64 ggap, .slice ggm ggmn ggmc, .slice ggb1 ggbn1 ggbc1, .slice ggb2 ggbn2 ggbc2, .int .i64 ggbp, .int .i64 ggrg] _ (fun u hu => hu.2) Try.underlying28 rfl (by kernel_rfl)) hHeld ?_
  simp only [Act.put]
  refine wpAnyH_ready (rs := [2]) (by kernel_rfl) (by simp) ?_
  refine AllReadyH.cons rfl (fun K hK => ?_) AllReadyH.nil
  rw [if_pos (by rfl)]
  go_simp
  go_at_call 10
  refine (toG_any ggp ggs ggc ggl ggst ggsk ggre ggfe ggag gga1 gga2 ggan1 ggac1 ggan2 ggac2 ggap ggm ggmn ggmc ggb1 ggb2 ggbn1 ggbc1 ggbn2 ggbc2 ggbp ggrg sx sy ms nx ny _ (H1.out.below HS.out.2)).mono ?_
  rintro e u5 ⟨j1, j2, j3, j4, j5, rfl, og, -, hb⟩
  have HS := Lib.hid (HS.out.below hb)
  have R0 := Lib.hid (R0.out.below hb)
  have R1 := Lib.hid (R1.out.below hb)
  have GA := Lib.hid (GA.out.below hb)
  have OG := Lib.hid (OG.out.below hb)
  have GD := Lib.hid (GD.out.below hb)
  have GR := Lib.hid (GR.out.below hb)
  have OJ := Lib.hid og.r
  clear hb og
  (try dsimp only)
  refine hK.out _ _ ⟨GmAt.range GA.out, GmAt.range HS.out.1⟩ (fun hHeld => ?_)
  clear hK K
  (try simp only [Act.put, List.setIfInBounds_toArray, List.set_cons_zero, List.set_cons_succ])
  refine wpAnyH_ready (rs := [3]) (by kernel_rfl) (by simp) ?_
  refine AllReadyH.cons rfl (fun K hK => ?_) AllReadyH.nil
  rw [if_pos (by rfl)]
  go_simp
  go_at_call 12
  refine (eqG_same ggp ggs ggc ggl ggst ggsk ggre ggfe ggag (some ⟨g1, 0, none⟩) (some ⟨g2, 0, none⟩) ggan1 ggan1 ggan2 ggan2 ggap (some ⟨g3, 0, none⟩) ggmn ggmn (some ⟨g4, 0, none⟩) (some ⟨g5, 0, none⟩) ggbn1 ggbn1 ggbn2 ggbn2 ggbp ggrg (some ⟨j1, 0, none⟩) (some ⟨j2, 0, none⟩) ggan1 ggan2 (some ⟨j3, 0, none⟩) ggmn (some ⟨j4, 0, none⟩) (some ⟨j5, 0, none⟩) ggbn1 ggbn2 sx sy ms nx ny _ GR.out OJ.out).mono ?_
  rintro e u6 ⟨rfl, hb⟩
  have HS := Lib.hid (HS.out.below hb)
  have R0 := Lib.hid (R0.out.below hb)
  have R1 := Lib.hid (R1.out.below hb)
  have GA := Lib.hid (GA.out.below hb)
  have OG := Lib.hid (OG.out.below hb)
  have GD := Lib.hid (GD.out.below hb)
  have GR := Lib.hid (GR.out.below hb)
  clear hb OJ
  (try dsimp only)
  refine hK.out _ _ ⟨GmAt.range GA.out, GmAt.range HS.out.1⟩ (fun hHeld => ?_)
  clear hK K
  (try simp only [Act.put, List.setIfInBounds_toArray, List.set_cons_zero, List.set_cons_succ])
  refine wpAnyH_ready (rs := [4]) (by kernel_rfl) (by simp) ?_
  refine AllReadyH.cons rfl (fun K hK => ?_) AllReadyH.nil
  rw [if_pos (by rfl)]
  go_simp
  (try dsimp only)
  refine hK.out _ _ ⟨GmAt.range GA.out, GmAt.range HS.out.1⟩ (fun hHeld => ?_)
  clear hK K
  (try simp only [Act.put, List.setIfInBounds_toArray, List.set_cons_zero, List.set_cons_succ])
  refine wpAnyH_done (by kernel_rfl) ?_ _
  clear hHeld
  obtain ⟨MX, hMX⟩ : ∃ M : Int, M = ((1 + ggan1 + ggan2 + ggmn + ggbn1 + ggbn2 : Nat) : Int) := ⟨_, rfl⟩
  obtain ⟨MG, hMG⟩ : ∃ M : Int, M = ((1 + n : Nat) : Int) := ⟨_, rfl⟩
  have qx : ¬ MX < 0 := by omega
  have qg : ¬ MG < 0 := by omega
  have HMX := Lib.hid hMX
  have HMG := Lib.hid hMG
  clear hMX hMG
  go_upto_region 13 with fail
  go_step
  refine wpList_load_mid rfl 34 (.tmp 6) rfl A1 0 rfl _ _ (GmAt.range GA.out) Try.underlying34 rfl (by kernel_rfl) ?_
  simp only [Act.put, List.setIfInBounds_toArray, List.set_cons_zero, List.set_cons_succ]
  go_wp2_with fail
  refine (markG_any H0 g1 g2 g3 g4 g5 1 ggp ggs ggc ggl ggst ggsk ggre ggfe ggag (some ⟨g1, 0, none⟩) (some ⟨g2, 0, none⟩) ggan1 ggan1 ggan2 ggan2 ggap (some ⟨g3, 0, none⟩) ggmn ggmn (some ⟨g4, 0, none⟩) (some ⟨g5, 0, none⟩) ggbn1 ggbn1 ggbn2 ggbn2 ggbp ggrg sx sy ms nx ny _ OG.out GD.out (by have := HS.out.2.size; have := R0.out.2.2; omega) (by omega) (by omega)).mono ?_
  rintro e w10 ⟨rfl, hbb, -⟩
  rw [← HMX.out]
  have HS := Lib.hid (HS.out.but5 hbb (by omega) (by omega) (by omega) (by omega) (by omega))
  have R0 := Lib.hid (R0.out.but5 hbb (.inl hh1) (.inl hh2) (.inl hh3) (.inl hh4) (.inl hh5))
  have R1 := Lib.hid (R1.out.but5 hbb (.inr hg1) (.inr hg2) (.inr hg3) (.inr hg4) (.inr hg5))
  clear hbb GA OG GD GR
  go_wp2_with fail
  refine (eqN_same a1 a0 c1 c0 n NS _ Hn.out R1.out.1.row R0.out.1.row).mono ?_
  rintro e w11 ⟨rfl, hb⟩
  have HS := Lib.hid (HS.out.below hb)
  have R0 := Lib.hid (R0.out.below hb)
  have R1 := Lib.hid (R1.out.below hb)
  clear hb
  go_wp2_with fail
  refine (marksN_any wc.heap.size b1 a1 c1 n 1 NS _ Hn.out R1.out.1 (by omega)).mono ?_
  rintro e w12 ⟨rfl, hbut, ho⟩
  rw [← HMG.out]
  have hn1 := R1.out.1.new
  have HS := Lib.hid (HS.out.but5 (But5.of3 (k1 := b1) (k2 := b1) (k4 := b1) (k5 := b1) hbut) (by omega) (by omega) (by omega) (by omega) (by omega))
  have R0 := Lib.hid (R0.out.but5 (But5.of3 (k1 := b1) (k2 := b1) (k4 := b1) (k5 := b1) hbut) (.inl (by omega)) (.inl (by omega)) (.inl (by omega)) (.inl (by omega)) (.inl (by omega)))
  have GM := Lib.hid (show GIn w12 wc.heap.size a1 b1 n from ho)
  clear hbut ho R1
  go_wp2_with fail
  refine (heldN_any a1 c1 n 1 _ (OutN.row GM.out) (by omega)).mono ?_
  rintro e w13 ⟨rfl, hb⟩
  rw [← HMG.out]
  have HS := Lib.hid (HS.out.below hb)
  have R0 := Lib.hid (R0.out.below hb)
  have GM := Lib.hid (GM.out.below hb)
  clear hb
  go_upto_region 24 with fail
  go_step
  refine wpList_load_mid rfl 28 (.tmp 1) rfl w.heap.size 0 rfl _ _ (GmAt.range HS.out.1) Try.underlying28 rfl (by kernel_rfl) ?_
  simp only [Act.put, List.setIfInBounds_toArray, List.set_cons_zero, List.set_cons_succ]
  go_wp2_with fail
  refine (toG_any ggp ggs ggc ggl ggst ggsk ggre ggfe ggag gga1 gga2 ggan1 ggac1 ggan2 ggac2 ggap ggm ggmn ggmc ggb1 ggb2 ggbn1 ggbc1 ggbn2 ggbc2 ggbp ggrg sx sy ms nx ny _ (H1.out.below HS.out.2)).mono ?_
  rintro e w14 ⟨j1, j2, j3, j4, j5, rfl, og, -, hb⟩
  have HS := Lib.hid (HS.out.below hb)
  have R0 := Lib.hid (R0.out.below hb)
  have GM := Lib.hid (GM.out.below hb)
  have OJ := Lib.hid og.r
  clear hb og
  go_wp2_with fail
  refine (HIm.out (some ⟨j1, 0, none⟩) (some ⟨j2, 0, none⟩) (some ⟨j3, 0, none⟩) (some ⟨j4, 0, none⟩) (some ⟨j5, 0, none⟩) _ OJ.out).mono ?_
  rintro e w15 ⟨v2, rfl, hown, hb⟩
  obtain ⟨a2, c2, b2, rfl, hr2⟩ := rin_own hown Hn.out (by omega)
  have R2 := Lib.hid hr2
  have HS := Lib.hid (HS.out.below hb)
  have R0 := Lib.hid (R0.out.below hb)
  have GM := Lib.hid (GM.out.below hb)
  clear hb hown hr2 OJ
  go_wp2_with fail
  refine (eqN_same a2 a0 c2 c0 n NS _ Hn.out R2.out.1.row R0.out.1.row).mono ?_
  rintro e w16 ⟨rfl, hb⟩
  have HS := Lib.hid (HS.out.below hb)
  have GM := Lib.hid (GM.out.below hb)
  clear hb
  go_wp2_with fail
  refine (heldN_any a1 c1 n 1 _ (OutN.row GM.out) (by omega)).mono ?_
  rintro e w17 ⟨rfl, hb⟩
  rw [← HMG.out]
  have HS := Lib.hid (HS.out.below hb)
  clear hb
  go_wp2_with fail
  go_ret
  exact ⟨rfl, HS.out.2⟩
theorem walk_FnExactMoversOf (x : GV) {w : World} (hx : x.In w) : Calls Try.prog 5 #[x.val] w fun e w' => e = .returned (.bool true) ∧ Below w.heap.size w w' :=
  walk0_FnExactMoversOf _ _ _ _ _ _ _ _ _ _ _ _ _ _ _ _ _ _ _ _ _ _ _ _ _ _ _ _ _ _ _ _ w hx.2.2.2.2
namespace fnExactMoversOf
set_option maxHeartbeats 2000000 in
set_option maxRecDepth 100000 in
theorem lifted (os : Os) (started : os.Started) (H : Type) (enc : TypeId × Value → H) :
    ReturnsInHanded {} Try.checked os 5 .any (Rows.fnExactMoversOfSpec.pre6 enc Try.prog Try.f5 Rows.fnExactMoversOfRow.domain false) (Rows.fnExactMoversOfSpec.post enc Try.prog Try.f5 false true false false) := by
  refine returnsInHanded_of_change (C := Try.checked) own started (by kernel_rfl) Try.func5
    (ChangeSpec.witness6 (enc := enc) (C := Try.checked) false ⟨#[], #[.agg #[.int .i64 0, .int .i64 0, .bool false, .bool false, .bool false, .bool false, .bool false, .int .i64 0, .int .i64 0, .slice none 0 0, .slice none 0 0, .int .i64 0, .slice none 0 0, .slice none 0 0, .slice none 0 0, .int .i64 0, .int .i64 0]], []⟩ 8 (by kernel_rfl) (by kernel_rfl) (by kernel_rfl) (by kernel_rfl)) ?_
  intro W base args ds gs before hval0 hW hcnd _
  have hval : ∀ (j : Nat) t v, Try.f5.params[j]? = some t → args[j]? = some v → Value.okWide Try.prog W .any base t v := hval0
  have hW' := hW
  obtain ⟨p, q, hA0, hV, rfl, hfz, hnd⟩ := hW
  have hA : DataW.TrodAll enc Try.prog W 0 (fun _ => true) true Try.f5.params.toList args.toList ds p := hA0
  rw [Try.params5] at hA hval
  obtain ⟨v0, vs0, d0, ds0, p0, q0, hargs, rfl, rfl, h0, r0⟩ := trodAll_cons hA
  obtain ⟨rfl, rfl, rfl⟩ := trodAll_nil r0
  obtain rfl : args = #[v0] := by cases args; simp_all
  obtain ⟨rfl, rfl⟩ := trodVars_none hV
  have k0 := h0
  have lt0 : ∀ x ∈ p0, x.block < W.heap.size := by obtain ⟨m, hm⟩ := k0; exact DataW.trod_lt m _ _ _ hm
  obtain ⟨x0, rfl, w0⟩ := open_game Try.underlying28 Try.underlying23 Try.underlying26 Try.underlying24 Try.underlying2 Try.underlying4 (by kernel_rfl) (by kernel_rfl) (by kernel_rfl) (by kernel_rfl) (by kernel_rfl) (hval 0 28 v0 rfl rfl) h0
  clear hA0 hval0
  refine (walk_FnExactMoversOf x0 w0 (w := W)).mono fun e W' ⟨he, bel⟩ => ?_
  subst he
  exact ⟨_, rfl, _, _, _, [], _, [], hW', trodAll_mk1 (shut_bool Try.underlying4 _), (trodAll_cons_mk (Below.trod laidOut (by kernel_rfl) (of_decide_eq_true (by kernel_rfl)) k0 bel lt0) trodAll_mk0), rfl, bel.frame _, fun h => by cases h⟩

theorem proved : Rows.FnExactMoversOfSaid :=
  OpenClaim.holds_of_wide 5 Try.f5 rfl rfl rfl rfl rfl rfl rfl ⟨rfl, rfl, rfl, rfl, rfl⟩ rfl rfl rfl rfl rfl (by kernel_rfl) Try.func5 (by kernel_rfl)
    (of_decide_eq_true (by kernel_rfl)) (by unfold Func.isWrapper; first | (rw [if_pos (by decide +kernel)]; kernel_rfl) | (rw [if_neg (by decide +kernel)]; exact ⟨rfl, rfl⟩))
    (fun os started H enc _ => lifted os started H enc)
end fnExactMoversOf

end Go.Proofs.Ytmngmbpdiaocjaa
