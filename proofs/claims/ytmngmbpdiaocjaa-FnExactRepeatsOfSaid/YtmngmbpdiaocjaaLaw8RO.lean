/- The law on RepeatsOf. No conditions. -/
import Derived.Test.YtmngmbpdiaocjaaVz7
import Derived.Test.YtmngmbpdiaocjaaVz4
import Derived.Deep.DeepCutAuto
namespace Go.Proofs.Ytmngmbpdiaocjaa
open Go.Joins Go.ChangeShapes Go.WideShapes Go.ChangeAt Go.RowKit Go.Deep
set_option linter.unusedVariables false

set_option maxHeartbeats 8000000 in
set_option maxRecDepth 100000 in
theorem walk0_FnExactRepeatsOf (ggp ggs ggc ggl : Int) (ggst ggsk ggre ggfe ggag : Bool) (gga1 gga2 : Option Addr) (ggan1 ggac1 ggan2 ggac2 : Nat) (ggap : Int) (ggm : Option Addr) (ggmn ggmc : Nat) (ggb1 ggb2 : Option Addr) (ggbn1 ggbc1 ggbn2 ggbc2 : Nat) (ggbp ggrg : Int) (sx sy ms nx ny : List Int) (w : World) (h1 : GamW w gga1 gga2 ggan1 ggan2 ggm ggmn ggb1 ggb2 ggbn1 ggbn2 sx sy ms nx ny) :
    Calls Try.prog 7 #[.agg #[.int .i64 ggp, .int .i64 ggs, .bool ggst, .bool ggsk, .bool ggre, .bool ggfe, .bool ggag, .int .i64 ggc, .int .i64 ggl, .slice gga1 ggan1 ggac1, .slice gga2 ggan2 ggac2, .int .i64 ggap, .slice ggm ggmn ggmc, .slice ggb1 ggbn1 ggbc1, .slice ggb2 ggbn2 ggbc2, .int .i64 ggbp, .int .i64 ggrg]] w fun e w' => e = .returned (.bool true) ∧ Below w.heap.size w w' := by
  have ha1 := Lib.hid (And.intro h1.s.m1 (And.intro h1.s.m2 (And.intro h1.mn (And.intro h1.n.m1 h1.n.m2))))
  have HW1 := Lib.hid h1
  have HS := Lib.hid (gmb_new ggp ggs ggc ggl ggst ggsk ggre ggfe ggag gga1 gga2 ggan1 ggac1 ggan2 ggac2 ggap ggm ggmn ggmc ggb1 ggb2 ggbn1 ggbc1 ggbn2 ggbc2 ggbp ggrg w 28)
  clear h1
  obtain ⟨nA, hnA⟩ : ∃ n, gmN ggan1 ggan2 ggmn ggbn1 ggbn2 = n := ⟨_, rfl⟩
  have pA : 0 ≤ nA := by rw [← hnA]; unfold gmN; omega
  by_cases hz1 : nA ≤ 1048576
  rotate_left
  · have E1 : Hid (szW 1048576 (gmN ggan1 ggan2 ggmn ggbn1 ggbn2) = -1) := Lib.hid (by rw [hnA]; exact szW_no hz1)
    clear hnA pA hz1
    go_enter Try.func7, Try.ntmps7
    go_upto_region 2 with fail
    go_step
    refine wpList_load_mid rfl 28 (.tmp 1) rfl w.heap.size 0 rfl _ _ (GmAt.range HS.out.1) Try.underlying28 rfl (by kernel_rfl) ?_
    simp only [Act.put, List.setIfInBounds_toArray, List.set_cons_zero, List.set_cons_succ]
    go_wp2_with fail
    refine (szG_any ggp ggs ggc ggl ggst ggsk ggre ggfe ggag gga1 gga2 ggan1 ggac1 ggan2 ggac2 ggap ggm ggmn ggmc ggb1 ggb2 ggbn1 ggbc1 ggbn2 ggbc2 ggbp ggrg 1048576 (by omega) (by omega) ha1.out.1 ha1.out.2.1 ha1.out.2.2.1 ha1.out.2.2.2.1 ha1.out.2.2.2.2 _).mono ?_
    rintro e v1 ⟨rfl, hb⟩
    rw [E1.out]
    have HS := Lib.hid (HS.out.below hb)
    clear hb
    go_wp2_with fail
    go_ret
    exact ⟨rfl, HS.out.2⟩
  have q0 : 0 ≤ 1048576 - nA := by omega
  have E1 : Hid (szW 1048576 (gmN ggan1 ggan2 ggmn ggbn1 ggbn2) = 1048576 - nA) := Lib.hid (by rw [hnA]; exact szW_yes hz1)
  have H1 := Lib.hid (HW1.out.toR (by unfold gmN at hnA; omega))
  clear HW1 hnA hz1
  have HSp0 : ∀ (a1 a2 mm b1 b2 : Option Addr) (u : World), GamR u a1 a2 ggan1 ggan2 mm ggmn b1 b2 ggbn1 ggbn2 sx sy ms nx ny → Calls Try.prog 29 #[.agg #[.int .i64 ggp, .int .i64 ggs, .bool ggst, .bool ggsk, .bool ggre, .bool ggfe, .bool ggag, .int .i64 ggc, .int .i64 ggl, .slice a1 ggan1 ggan1, .slice a2 ggan2 ggan2, .int .i64 ggap, .slice mm ggmn ggmn, .slice b1 ggbn1 ggbn1, .slice b2 ggbn2 ggbn2, .int .i64 ggbp, .int .i64 ggrg]] u fun e w' => e = .returned (.tuple #[.int .i64 (if okG ggp ggs ggc ggl ggst ggsk ggre ggfe ggag ggan1 ggan2 ggap sx sy ms ggbp nx ny ggrg = true then repV (stp ggp ggc ggl ggst ggsk ggre ggfe ggag) ⟨ggap, sx, sy⟩ ms ggbp nx ny else 0), .int .i64 (if okG ggp ggs ggc ggl ggst ggsk ggre ggfe ggag ggan1 ggan2 ggap sx sy ms ggbp nx ny ggrg = true then 0 else 1)]) ∧ Below u.heap.size u w' := fun a1 a2 mm b1 b2 u hu => specRO_any ggp ggs ggc ggl ggst ggsk ggre ggfe ggag a1 a2 ggan1 ggan1 ggan2 ggan2 ggap mm ggmn ggmn b1 b2 ggbn1 ggbn1 ggbn2 ggbn2 ggbp ggrg sx sy ms nx ny u hu
  have HIm0 : ∀ (a1 a2 mm b1 b2 : Option Addr) (u : World), GamR u a1 a2 ggan1 ggan2 mm ggmn b1 b2 ggbn1 ggbn2 sx sy ms nx ny → Calls Try.prog 30 #[.agg #[.int .i64 ggp, .int .i64 ggs, .bool ggst, .bool ggsk, .bool ggre, .bool ggfe, .bool ggag, .int .i64 ggc, .int .i64 ggl, .slice a1 ggan1 ggan1, .slice a2 ggan2 ggan2, .int .i64 ggap, .slice mm ggmn ggmn, .slice b1 ggbn1 ggbn1, .slice b2 ggbn2 ggbn2, .int .i64 ggbp, .int .i64 ggrg]] u fun e w' => e = .returned (.tuple #[.int .i64 (if okG ggp ggs ggc ggl ggst ggsk ggre ggfe ggag ggan1 ggan2 ggap sx sy ms ggbp nx ny ggrg = true then repV (stp ggp ggc ggl ggst ggsk ggre ggfe ggag) ⟨ggap, sx, sy⟩ ms ggbp nx ny else 0), .int .i64 (if okG ggp ggs ggc ggl ggst ggsk ggre ggfe ggag ggan1 ggan2 ggap sx sy ms ggbp nx ny ggrg = true then 0 else 1)]) ∧ Below u.heap.size u w' := fun a1 a2 mm b1 b2 u hu => implRO_any ggp ggs ggc ggl ggst ggsk ggre ggfe ggag a1 a2 ggan1 ggan1 ggan2 ggan2 ggap mm ggmn ggmn b1 b2 ggbn1 ggbn1 ggbn2 ggbn2 ggbp ggrg sx sy ms nx ny u hu
  generalize (if okG ggp ggs ggc ggl ggst ggsk ggre ggfe ggag ggan1 ggan2 ggap sx sy ms ggbp nx ny ggrg = true then repV (stp ggp ggc ggl ggst ggsk ggre ggfe ggag) ⟨ggap, sx, sy⟩ ms ggbp nx ny else 0) = rv at *
  generalize (((if okG ggp ggs ggc ggl ggst ggsk ggre ggfe ggag ggan1 ggan2 ggap sx sy ms ggbp nx ny ggrg = true then 0 else 1) : Int)) = cv at *
  have HSp := Lib.hid HSp0
  have HIm := Lib.hid HIm0
  clear HSp0 HIm0
  go_enter Try.func7, Try.ntmps7
  go_upto_region 2 with fail
  go_step
  refine wpList_load_mid rfl 28 (.tmp 1) rfl w.heap.size 0 rfl _ _ (GmAt.range HS.out.1) Try.underlying28 rfl (by kernel_rfl) ?_
  simp only [Act.put, List.setIfInBounds_toArray, List.set_cons_zero, List.set_cons_succ]
  go_wp2_with fail
  refine (szG_any ggp ggs ggc ggl ggst ggsk ggre ggfe ggag gga1 gga2 ggan1 ggac1 ggan2 ggac2 ggap ggm ggmn ggmc ggb1 ggb2 ggbn1 ggbc1 ggbn2 ggbc2 ggbp ggrg 1048576 (by omega) (by omega) ha1.out.1 ha1.out.2.1 ha1.out.2.2.1 ha1.out.2.2.2.1 ha1.out.2.2.2.2 _).mono ?_
  rintro e v1 ⟨rfl, hb⟩
  rw [E1.out]
  have HS := Lib.hid (HS.out.below hb)
  clear hb
  go_upto_region 5 with fail
  go_step
  refine wpList_load_mid rfl 28 (.tmp 1) rfl w.heap.size 0 rfl _ _ (GmAt.range HS.out.1) Try.underlying28 rfl (by kernel_rfl) ?_
  simp only [Act.put, List.setIfInBounds_toArray, List.set_cons_zero, List.set_cons_succ]
  go_wp2_with fail
  refine (toG_any ggp ggs ggc ggl ggst ggsk ggre ggfe ggag gga1 gga2 ggan1 ggac1 ggan2 ggac2 ggap ggm ggmn ggmc ggb1 ggb2 ggbn1 ggbc1 ggbn2 ggbc2 ggbp ggrg sx sy ms nx ny _ (H1.out.below HS.out.2)).mono ?_
  rintro e w5 ⟨g1, g2, g3, g4, g5, rfl, og, -, hb⟩
  have HS := Lib.hid (HS.out.below hb)
  have OG := Lib.hid og.r
  clear hb og
  go_wp2_with fail
  refine (HSp.out (some ⟨g1, 0, none⟩) (some ⟨g2, 0, none⟩) (some ⟨g3, 0, none⟩) (some ⟨g4, 0, none⟩) (some ⟨g5, 0, none⟩) _ OG.out).mono ?_
  rintro e w6 ⟨rfl, hb⟩
  have HS := Lib.hid (HS.out.below hb)
  clear hb OG
  go_upto_region 6 with fail
  go_cut [6] (fun sx' wx => ∃ A : Nat, sx' = .pointer (some ⟨A, 0, none⟩) ∧ GmB w w.heap.size ggp ggs ggc ggl ggst ggsk ggre ggfe ggag gga1 gga2 ggan1 ggac1 ggan2 ggac2 ggap ggm ggmn ggmc ggb1 ggb2 ggbn1 ggbc1 ggbn2 ggbc2 ggbp ggrg wx ∧ TgAt wx A ggp ggs ggc ggl ggst ggsk ggre ggfe ggag ggan1 ggan2 ggap ggmn ggbn1 ggbn2 ggbp ggrg sx sy ms nx ny)
  case first =>
    go_step
    refine wpList_load_mid rfl 28 (.tmp 1) rfl w.heap.size 0 rfl _ _ (GmAt.range HS.out.1) Try.underlying28 rfl (by kernel_rfl) ?_
    simp only [Act.put, List.setIfInBounds_toArray, List.set_cons_zero, List.set_cons_succ]
    go_wp2_with fail
    refine (toG_any ggp ggs ggc ggl ggst ggsk ggre ggfe ggag gga1 gga2 ggan1 ggac1 ggan2 ggac2 ggap ggm ggmn ggmc ggb1 ggb2 ggbn1 ggbc1 ggbn2 ggbc2 ggbp ggrg sx sy ms nx ny _ (H1.out.below HS.out.2)).mono ?_
    rintro e w5 ⟨g1, g2, g3, g4, g5, rfl, og, -, hb⟩
    have HS := Lib.hid (HS.out.below hb)
    clear hb
    go_wp2_with (refine wpList_store_mid rfl 34 _ _ rfl w5.heap.size 0 (List.toArray [.int .i64 ggp, .int .i64 ggs, .bool ggst, .bool ggsk, .bool ggre, .bool ggfe, .bool ggag, .int .i64 ggc, .int .i64 ggl, .slice (some ⟨g1, 0, none⟩) ggan1 ggan1, .slice (some ⟨g2, 0, none⟩) ggan2 ggan2, .int .i64 ggap, .slice (some ⟨g3, 0, none⟩) ggmn ggmn, .slice (some ⟨g4, 0, none⟩) ggbn1 ggbn1, .slice (some ⟨g5, 0, none⟩) ggbn2 ggbn2, .int .i64 ggbp, .int .i64 ggrg]) rfl rfl (there17 w5 34) (by kernel_rfl) (gm_one _ _ _ _ _ _ _ _ _ _ _ _ _ _ _ _ _ _ _ _ _ _ _ _ _ _ _) ?_)
    go_meet
    exact ⟨_, rfl, HS.out.below (below_stored w5 34 _), tg_stored 34 og⟩
  case rest =>
  obtain ⟨A1, rfl, hs, ht1⟩ := hcut
  have HS := Lib.hid hs
  obtain ⟨g1, g2, g3, g4, g5, hg, hgr⟩ := ht1
  have GA := Lib.hid hg
  have GR := Lib.hid hgr
  clear hs hg hgr
  go_upto_region 7 with fail
  go_step
  refine wpList_load_mid rfl 34 (.tmp 6) rfl A1 0 rfl _ _ (GmAt.range GA.out) Try.underlying34 rfl (by kernel_rfl) ?_
  simp only [Act.put, List.setIfInBounds_toArray, List.set_cons_zero, List.set_cons_succ]
  go_wp2_with fail
  refine (HIm.out (some ⟨g1, 0, none⟩) (some ⟨g2, 0, none⟩) (some ⟨g3, 0, none⟩) (some ⟨g4, 0, none⟩) (some ⟨g5, 0, none⟩) _ GR.out).mono ?_
  rintro e w7 ⟨rfl, hb⟩
  have HS := Lib.hid (HS.out.below hb)
  have GA := Lib.hid (GA.out.below hb)
  have GR := Lib.hid (GR.out.below hb)
  clear hb
  go_upto_region 10 with fail
  refine wp_region_held_drew (S := fun u => u.rangeAt A1 0 [.int .i64 ggp, .int .i64 ggs, .bool ggst, .bool ggsk, .bool ggre, .bool ggfe, .bool ggag, .int .i64 ggc, .int .i64 ggl, .slice (some ⟨g1, 0, none⟩) ggan1 ggan1, .slice (some ⟨g2, 0, none⟩) ggan2 ggan2, .int .i64 ggap, .slice (some ⟨g3, 0, none⟩) ggmn ggmn, .slice (some ⟨g4, 0, none⟩) ggbn1 ggbn1, .slice (some ⟨g5, 0, none⟩) ggbn2 ggbn2, .int .i64 ggbp, .int .i64 ggrg] ∧ u.rangeAt w.heap.size 0 [.int .i64 ggp, .int .i64 ggs, .bool ggst, .bool ggsk, .bool ggre, .bool ggfe, .bool ggag, .int .i64 ggc, .int .i64 ggl, .slice gga1 ggan1 ggac1, .slice gga2 ggan2 ggac2, .int .i64 ggap, .slice ggm ggmn ggmc, .slice ggb1 ggbn1 ggbc1, .slice ggb2 ggbn2 ggbc2, .int .i64 ggbp, .int .i64 ggrg]) (by kernel_rfl) ⟨GmAt.range GA.out, GmAt.range HS.out.1⟩ (fun hHeld => ?_)
  have HS := Lib.hid (HS.out.below (below_dn (Below.refl _ _) 1))
  have GA := Lib.hid (GA.out.below (below_dn (Below.refl _ _) 1))
  have GR := Lib.hid (GR.out.below (below_dn (Below.refl _ _) 1))
  refine wpAnyH_take (i := 0) rfl (by kernel_rfl) (by kernel_rfl) (by kernel_rfl) (fun _ _ _ h => h) (yieldsIf_load_mid (by rfl) 34 _ rfl A1 0 rfl [.int .i64 ggp, .int .i64 ggs, .bool ggst, .bool ggsk, .bool ggre, .bool ggfe, .bool ggag, .int .i64 ggc, .int .i64 ggl, .slice (some ⟨g1, 0, none⟩) ggan1 ggan1, .slice (some ⟨g2, 0, none⟩) ggan2 ggan2, .int .i64 ggap, .slice (some ⟨g3, 0, none⟩) ggmn ggmn, .slice (some ⟨g4, 0, none⟩) ggbn1 ggbn1, .slice (some ⟨g5, 0, none⟩) ggbn2 ggbn2, .int .i64 ggbp, .int .i64 ggrg] _ (fun u hu => hu.1) Try.underlying34 rfl (by kernel_rfl)) hHeld ?_
  simp only [Act.put, List.setIfInBounds_toArray]
  refine wpAnyH_take (i := 1) rfl (by kernel_rfl) (by kernel_rfl) (by kernel_rfl) (fun _ _ _ h => h) (yieldsIf_load_mid (by rfl) 28 _ rfl w.heap.size 0 rfl [.int .i64 ggp, .int .i64 ggs, .bool ggst, .bool ggsk, .bool ggre, .bool ggfe, .bool ggag, .int .i64 ggc, .int .i64 ggl, .slice gga1 ggan1 ggac1, .slice gga2 ggan2 ggac2, .int .i64 ggap, .slice ggm ggmn ggmc, .slice ggb1 ggbn1 ggbc1, .slice ggb2 ggbn2 ggbc2, .int .i64 ggbp, .int .i64 ggrg] _ (fun u hu => hu.2) Try.underlying28 rfl (by kernel_rfl)) hHeld ?_
  simp only [Act.put]
  refine wpAnyH_ready (rs := [2]) (by kernel_rfl) (by simp) ?_
  refine AllReadyH.cons rfl (fun K hK => ?_) AllReadyH.nil
  rw [if_pos (by rfl)]
  go_simp
  go_at_call 10
  refine (toG_any ggp ggs ggc ggl ggst ggsk ggre ggfe ggag gga1 gga2 ggan1 ggac1 ggan2 ggac2 ggap ggm ggmn ggmc ggb1 ggb2 ggbn1 ggbc1 ggbn2 ggbc2 ggbp ggrg sx sy ms nx ny _ (H1.out.below HS.out.2)).mono ?_
  rintro e u5 ⟨j1, j2, j3, j4, j5, rfl, og, -, hb⟩
  have HS := Lib.hid (HS.out.below hb)
  have GA := Lib.hid (GA.out.below hb)
  have GR := Lib.hid (GR.out.below hb)
  have OG := Lib.hid og.r
  clear hb og
  (try dsimp only)
  refine hK.out _ _ ⟨GmAt.range GA.out, GmAt.range HS.out.1⟩ (fun hHeld => ?_)
  clear hK K
  (try simp only [Act.put, List.setIfInBounds_toArray, List.set_cons_zero, List.set_cons_succ])
  refine wpAnyH_ready (rs := [3]) (by kernel_rfl) (by simp) ?_
  refine AllReadyH.cons rfl (fun K hK => ?_) AllReadyH.nil
  rw [if_pos (by rfl)]
  go_simp
  go_at_call 12
  refine (eqG_same ggp ggs ggc ggl ggst ggsk ggre ggfe ggag (some ⟨g1, 0, none⟩) (some ⟨g2, 0, none⟩) ggan1 ggan1 ggan2 ggan2 ggap (some ⟨g3, 0, none⟩) ggmn ggmn (some ⟨g4, 0, none⟩) (some ⟨g5, 0, none⟩) ggbn1 ggbn1 ggbn2 ggbn2 ggbp ggrg (some ⟨j1, 0, none⟩) (some ⟨j2, 0, none⟩) ggan1 ggan2 (some ⟨j3, 0, none⟩) ggmn (some ⟨j4, 0, none⟩) (some ⟨j5, 0, none⟩) ggbn1 ggbn2 sx sy ms nx ny _ GR.out OG.out).mono ?_
  rintro e u6 ⟨rfl, hb⟩
  have HS := Lib.hid (HS.out.below hb)
  have GA := Lib.hid (GA.out.below hb)
  have GR := Lib.hid (GR.out.below hb)
  clear hb OG
  (try dsimp only)
  refine hK.out _ _ ⟨GmAt.range GA.out, GmAt.range HS.out.1⟩ (fun hHeld => ?_)
  clear hK K
  (try simp only [Act.put, List.setIfInBounds_toArray, List.set_cons_zero, List.set_cons_succ])
  refine wpAnyH_ready (rs := [4]) (by kernel_rfl) (by simp) ?_
  refine AllReadyH.cons rfl (fun K hK => ?_) AllReadyH.nil
  rw [if_pos (by rfl)]
  go_simp
  (try dsimp only)
  refine hK.out _ _ ⟨GmAt.range GA.out, GmAt.range HS.out.1⟩ (fun hHeld => ?_)
  clear hK K
  (try simp only [Act.put, List.setIfInBounds_toArray, List.set_cons_zero, List.set_cons_succ])
  refine wpAnyH_done (by kernel_rfl) ?_ _
  go_wp2_with fail
  go_ret
  exact ⟨rfl, HS.out.2⟩
theorem walk_FnExactRepeatsOf (x : GV) {w : World} (hx : x.In w) : Calls Try.prog 7 #[x.val] w fun e w' => e = .returned (.bool true) ∧ Below w.heap.size w w' :=
  walk0_FnExactRepeatsOf _ _ _ _ _ _ _ _ _ _ _ _ _ _ _ _ _ _ _ _ _ _ _ _ _ _ _ _ _ _ _ _ w hx.2.2.2.2
namespace fnExactRepeatsOf
set_option maxHeartbeats 2000000 in
set_option maxRecDepth 100000 in
theorem lifted (os : Os) (started : os.Started) (H : Type) (enc : TypeId × Value → H) :
    ReturnsInHanded {} Try.checked os 7 .any (Rows.fnExactRepeatsOfSpec.pre6 enc Try.prog Try.f7 Rows.fnExactRepeatsOfRow.domain false) (Rows.fnExactRepeatsOfSpec.post enc Try.prog Try.f7 false true false false) := by
  refine returnsInHanded_of_change (C := Try.checked) own started (by kernel_rfl) Try.func7
    (ChangeSpec.witness6 (enc := enc) (C := Try.checked) false ⟨#[], #[.agg #[.int .i64 0, .int .i64 0, .bool false, .bool false, .bool false, .bool false, .bool false, .int .i64 0, .int .i64 0, .slice none 0 0, .slice none 0 0, .int .i64 0, .slice none 0 0, .slice none 0 0, .slice none 0 0, .int .i64 0, .int .i64 0]], []⟩ 8 (by kernel_rfl) (by kernel_rfl) (by kernel_rfl) (by kernel_rfl)) ?_
  intro W base args ds gs before hval0 hW hcnd _
  have hval : ∀ (j : Nat) t v, Try.f7.params[j]? = some t → args[j]? = some v → Value.okWide Try.prog W .any base t v := hval0
  have hW' := hW
  obtain ⟨p, q, hA0, hV, rfl, hfz, hnd⟩ := hW
  have hA : DataW.TrodAll enc Try.prog W 0 (fun _ => true) true Try.f7.params.toList args.toList ds p := hA0
  rw [Try.params7] at hA hval
  obtain ⟨v0, vs0, d0, ds0, p0, q0, hargs, rfl, rfl, h0, r0⟩ := trodAll_cons hA
  obtain ⟨rfl, rfl, rfl⟩ := trodAll_nil r0
  obtain rfl : args = #[v0] := by cases args; simp_all
  obtain ⟨rfl, rfl⟩ := trodVars_none hV
  have k0 := h0
  have lt0 : ∀ x ∈ p0, x.block < W.heap.size := by obtain ⟨m, hm⟩ := k0; exact DataW.trod_lt m _ _ _ hm
  obtain ⟨x0, rfl, w0⟩ := open_game Try.underlying28 Try.underlying23 Try.underlying26 Try.underlying24 Try.underlying2 Try.underlying4 (by kernel_rfl) (by kernel_rfl) (by kernel_rfl) (by kernel_rfl) (by kernel_rfl) (hval 0 28 v0 rfl rfl) h0
  clear hA0 hval0
  refine (walk_FnExactRepeatsOf x0 w0 (w := W)).mono fun e W' ⟨he, bel⟩ => ?_
  subst he
  exact ⟨_, rfl, _, _, _, [], _, [], hW', trodAll_mk1 (shut_bool Try.underlying4 _), (trodAll_cons_mk (Below.trod laidOut (by kernel_rfl) (of_decide_eq_true (by kernel_rfl)) k0 bel lt0) trodAll_mk0), rfl, bel.frame _, fun h => by cases h⟩

theorem proved : Rows.FnExactRepeatsOfSaid :=
  OpenClaim.holds_of_wide 7 Try.f7 rfl rfl rfl rfl rfl rfl rfl ⟨rfl, rfl, rfl, rfl, rfl⟩ rfl rfl rfl rfl rfl (by kernel_rfl) Try.func7 (by kernel_rfl)
    (of_decide_eq_true (by kernel_rfl)) (by unfold Func.isWrapper; first | (rw [if_pos (by decide +kernel)]; kernel_rfl) | (rw [if_neg (by decide +kernel)]; exact ⟨rfl, rfl⟩))
    (fun os started H enc _ => lifted os started H enc)
end fnExactRepeatsOf

end Go.Proofs.Ytmngmbpdiaocjaa
