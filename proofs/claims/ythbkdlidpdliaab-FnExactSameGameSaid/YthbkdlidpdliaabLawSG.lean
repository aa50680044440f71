/- The law on SameGame. No conditions. -/
import Derived.Test.YthbkdlidpdliaabGame4
import Derived.Deep.DeepCutAuto
namespace Go.Proofs.Ythbkdlidpdliaab
open Go.Joins Go.ChangeShapes Go.WideShapes Go.ChangeAt Go.RowKit Go.Deep
set_option linter.unusedVariables false

set_option maxHeartbeats 8000000 in
set_option maxRecDepth 100000 in
theorem walk0_FnExactSameGame (ggp ggs ggc ggl : Int) (ggst ggsk ggre ggfe ggag : Bool) (gga1 gga2 : Option Addr) (ggan1 ggac1 ggan2 ggac2 : Nat) (ggap : Int) (ggm : Option Addr) (ggmn ggmc : Nat) (ggb1 ggb2 : Option Addr) (ggbn1 ggbc1 ggbn2 ggbc2 : Nat) (ggbp ggrg : Int) (hhp hhs hhc hhl : Int) (hhst hhsk hhre hhfe hhag : Bool) (hha1 hha2 : Option Addr) (hhan1 hhac1 hhan2 hhac2 : Nat) (hhap : Int) (hhm : Option Addr) (hhmn hhmc : Nat) (hhb1 hhb2 : Option Addr) (hhbn1 hhbc1 hhbn2 hhbc2 : Nat) (hhbp hhrg : Int) (sx sy ms nx ny tx ty ns mx my : List Int) (w : World) (h1 : GamW w gga1 gga2 ggan1 ggan2 ggm ggmn ggb1 ggb2 ggbn1 ggbn2 sx sy ms nx ny) (h2 : GamW w hha1 hha2 hhan1 hhan2 hhm hhmn hhb1 hhb2 hhbn1 hhbn2 tx ty ns mx my) :
    Calls Try.prog 4 #[.agg #[.int .i64 ggp, .int .i64 ggs, .bool ggst, .bool ggsk, .bool ggre, .bool ggfe, .bool ggag, .int .i64 ggc, .int .i64 ggl, .slice gga1 ggan1 ggac1, .slice gga2 ggan2 ggac2, .int .i64 ggap, .slice ggm ggmn ggmc, .slice ggb1 ggbn1 ggbc1, .slice ggb2 ggbn2 ggbc2, .int .i64 ggbp, .int .i64 ggrg], .agg #[.int .i64 hhp, .int .i64 hhs, .bool hhst, .bool hhsk, .bool hhre, .bool hhfe, .bool hhag, .int .i64 hhc, .int .i64 hhl, .slice hha1 hhan1 hhac1, .slice hha2 hhan2 hhac2, .int .i64 hhap, .slice hhm hhmn hhmc, .slice hhb1 hhbn1 hhbc1, .slice hhb2 hhbn2 hhbc2, .int .i64 hhbp, .int .i64 hhrg]] w fun e w' => e = .returned (.bool true) ∧ Below w.heap.size w w' := by
  have ha1 := Lib.hid (And.intro h1.s.m1 (And.intro h1.s.m2 (And.intro h1.mn (And.intro h1.n.m1 h1.n.m2))))
  have ha2 := Lib.hid (And.intro h2.s.m1 (And.intro h2.s.m2 (And.intro h2.mn (And.intro h2.n.m1 h2.n.m2))))
  have HW1 := Lib.hid h1
  have HW2 := Lib.hid h2
  have HS := Lib.hid (tg2_new ggp ggs ggc ggl ggst ggsk ggre ggfe ggag gga1 gga2 ggan1 ggac1 ggan2 ggac2 ggap ggm ggmn ggmc ggb1 ggb2 ggbn1 ggbc1 ggbn2 ggbc2 ggbp ggrg hhp hhs hhc hhl hhst hhsk hhre hhfe hhag hha1 hha2 hhan1 hhac1 hhan2 hhac2 hhap hhm hhmn hhmc hhb1 hhb2 hhbn1 hhbc1 hhbn2 hhbc2 hhbp hhrg w 28)
  clear h1 h2
  obtain ⟨nA, hnA⟩ : ∃ n, gmN ggan1 ggan2 ggmn ggbn1 ggbn2 = n := ⟨_, rfl⟩
  obtain ⟨nB, hnB⟩ : ∃ n, gmN hhan1 hhan2 hhmn hhbn1 hhbn2 = n := ⟨_, rfl⟩
  have pA : 0 ≤ nA := by rw [← hnA]; unfold gmN; omega
  have pB : 0 ≤ nB := by rw [← hnB]; unfold gmN; omega
  by_cases hz1 : nA ≤ 1048576
  rotate_left
  · have E1 : Hid (szW 1048576 (gmN ggan1 ggan2 ggmn ggbn1 ggbn2) = -1) := Lib.hid (by rw [hnA]; exact szW_no hz1)
    clear hnA hnB pA pB hz1
    go_enter Try.func4, Try.ntmps4
    go_upto_region 2 with fail
    go_step
    refine wpList_load_mid rfl 28 (.tmp 2) rfl w.heap.size 0 rfl _ _ (GmAt.range HS.out.1) Try.underlying28 rfl (by kernel_rfl) ?_
    simp only [Act.put, List.setIfInBounds_toArray, List.set_cons_zero, List.set_cons_succ]
    go_wp2_with fail
    refine (szG_any ggp ggs ggc ggl ggst ggsk ggre ggfe ggag gga1 gga2 ggan1 ggac1 ggan2 ggac2 ggap ggm ggmn ggmc ggb1 ggb2 ggbn1 ggbc1 ggbn2 ggbc2 ggbp ggrg 1048576 (by omega) (by omega) ha1.out.1 ha1.out.2.1 ha1.out.2.2.1 ha1.out.2.2.2.1 ha1.out.2.2.2.2 _).mono ?_
    rintro e v1 ⟨rfl, hb⟩
    rw [E1.out]
    have HS := Lib.hid (HS.out.below hb)
    clear hb
    go_wp2_with fail
    go_ret
    exact ⟨rfl, HS.out.2.2⟩
  have q0 : 0 ≤ 1048576 - nA := by omega
  have E1 : Hid (szW 1048576 (gmN ggan1 ggan2 ggmn ggbn1 ggbn2) = 1048576 - nA) := Lib.hid (by rw [hnA]; exact szW_yes hz1)
  by_cases hz2 : nB ≤ 1048576 - nA
  rotate_left
  · have E2 : Hid (szW (1048576 - nA) (gmN hhan1 hhan2 hhmn hhbn1 hhbn2) = -1) := Lib.hid (by rw [hnB]; exact szW_no hz2)
    clear hnA hnB pB hz1 hz2
    go_enter Try.func4, Try.ntmps4
    go_upto_region 2 with fail
    go_step
    refine wpList_load_mid rfl 28 (.tmp 2) rfl w.heap.size 0 rfl _ _ (GmAt.range HS.out.1) Try.underlying28 rfl (by kernel_rfl) ?_
    simp only [Act.put, List.setIfInBounds_toArray, List.set_cons_zero, List.set_cons_succ]
    go_wp2_with fail
    refine (szG_any ggp ggs ggc ggl ggst ggsk ggre ggfe ggag gga1 gga2 ggan1 ggac1 ggan2 ggac2 ggap ggm ggmn ggmc ggb1 ggb2 ggbn1 ggbc1 ggbn2 ggbc2 ggbp ggrg 1048576 (by omega) (by omega) ha1.out.1 ha1.out.2.1 ha1.out.2.2.1 ha1.out.2.2.2.1 ha1.out.2.2.2.2 _).mono ?_
    rintro e v1 ⟨rfl, hb⟩
    rw [E1.out]
    have HS := Lib.hid (HS.out.below hb)
    clear hb
    go_upto_region 5 with fail
    go_step
    refine wpList_load_mid rfl 28 (.tmp 3) rfl (w.heap.size + 1) 0 rfl _ _ (GmAt.range HS.out.2.1) Try.underlying28 rfl (by kernel_rfl) ?_
    simp only [Act.put, List.setIfInBounds_toArray, List.set_cons_zero, List.set_cons_succ]
    go_wp2_with fail
    refine (szG_any hhp hhs hhc hhl hhst hhsk hhre hhfe hhag hha1 hha2 hhan1 hhac1 hhan2 hhac2 hhap hhm hhmn hhmc hhb1 hhb2 hhbn1 hhbc1 hhbn2 hhbc2 hhbp hhrg (1048576 - nA) q0 (by omega) ha2.out.1 ha2.out.2.1 ha2.out.2.2.1 ha2.out.2.2.2.1 ha2.out.2.2.2.2 _).mono ?_
    rintro e v2 ⟨rfl, hb⟩
    rw [E2.out]
    have HS := Lib.hid (HS.out.below hb)
    clear hb
    go_wp2_with fail
    go_ret
    exact ⟨rfl, HS.out.2.2⟩
  have q1 : 0 ≤ 1048576 - nA - nB := by omega
  have E2 : Hid (szW (1048576 - nA) (gmN hhan1 hhan2 hhmn hhbn1 hhbn2) = 1048576 - nA - nB) := Lib.hid (by rw [hnB]; exact szW_yes hz2)
  have H1 := Lib.hid (HW1.out.toR (by unfold gmN at hnA; omega))
  have H2 := Lib.hid (HW2.out.toR (by unfold gmN at hnB; omega))
  clear HW1 HW2 hnA hnB pB hz1 hz2
  obtain ⟨k, hk⟩ : ∃ k, gmB (decide (ggp = hhp ∧ ggs = hhs ∧ ggst = hhst ∧ ggsk = hhsk ∧ ggre = hhre ∧ ggfe = hhfe ∧ ggag = hhag ∧ ggc = hhc ∧ ggl = hhl)) sx sy ms nx ny tx ty ns mx my ggap hhap ggbp hhbp ggrg hhrg = k := ⟨_, rfl⟩
  have KE := Lib.hid hk
  clear hk
  go_enter Try.func4, Try.ntmps4
  go_upto_region 2 with fail
  go_step
  refine wpList_load_mid rfl 28 (.tmp 2) rfl w.heap.size 0 rfl _ _ (GmAt.range HS.out.1) Try.underlying28 rfl (by kernel_rfl) ?_
  simp only [Act.put, List.setIfInBounds_toArray, List.set_cons_zero, List.set_cons_succ]
  go_wp2_with fail
  refine (szG_any ggp ggs ggc ggl ggst ggsk ggre ggfe ggag gga1 gga2 ggan1 ggac1 ggan2 ggac2 ggap ggm ggmn ggmc ggb1 ggb2 ggbn1 ggbc1 ggbn2 ggbc2 ggbp ggrg 1048576 (by omega) (by omega) ha1.out.1 ha1.out.2.1 ha1.out.2.2.1 ha1.out.2.2.2.1 ha1.out.2.2.2.2 _).mono ?_
  rintro e v1 ⟨rfl, hb⟩
  rw [E1.out]
  have HS := Lib.hid (HS.out.below hb)
  clear hb
  go_upto_region 5 with fail
  go_step
  refine wpList_load_mid rfl 28 (.tmp 3) rfl (w.heap.size + 1) 0 rfl _ _ (GmAt.range HS.out.2.1) Try.underlying28 rfl (by kernel_rfl) ?_
  simp only [Act.put, List.setIfInBounds_toArray, List.set_cons_zero, List.set_cons_succ]
  go_wp2_with fail
  refine (szG_any hhp hhs hhc hhl hhst hhsk hhre hhfe hhag hha1 hha2 hhan1 hhac1 hhan2 hhac2 hhap hhm hhmn hhmc hhb1 hhb2 hhbn1 hhbc1 hhbn2 hhbc2 hhbp hhrg (1048576 - nA) q0 (by omega) ha2.out.1 ha2.out.2.1 ha2.out.2.2.1 ha2.out.2.2.2.1 ha2.out.2.2.2.2 _).mono ?_
  rintro e v2 ⟨rfl, hb⟩
  rw [E2.out]
  have HS := Lib.hid (HS.out.below hb)
  clear hb
  go_upto_region 8 with fail
  refine wp_region_held_drew (S := fun u => u.rangeAt w.heap.size 0 [.int .i64 ggp, .int .i64 ggs, .bool ggst, .bool ggsk, .bool ggre, .bool ggfe, .bool ggag, .int .i64 ggc, .int .i64 ggl, .slice gga1 ggan1 ggac1, .slice gga2 ggan2 ggac2, .int .i64 ggap, .slice ggm ggmn ggmc, .slice ggb1 ggbn1 ggbc1, .slice ggb2 ggbn2 ggbc2, .int .i64 ggbp, .int .i64 ggrg] ∧ u.rangeAt (w.heap.size + 1) 0 [.int .i64 hhp, .int .i64 hhs, .bool hhst, .bool hhsk, .bool hhre, .bool hhfe, .bool hhag, .int .i64 hhc, .int .i64 hhl, .slice hha1 hhan1 hhac1, .slice hha2 hhan2 hhac2, .int .i64 hhap, .slice hhm hhmn hhmc, .slice hhb1 hhbn1 hhbc1, .slice hhb2 hhbn2 hhbc2, .int .i64 hhbp, .int .i64 hhrg]) (by kernel_rfl) ⟨GmAt.range HS.out.1, GmAt.range HS.out.2.1⟩ (fun hHeld => ?_)
  have HS := Lib.hid (HS.out.drewN 1)
  refine wpAnyH_take (i := 0) rfl (by kernel_rfl) (by kernel_rfl) (by kernel_rfl) (fun _ _ _ h => h) (yieldsIf_load_mid (by rfl) 28 _ rfl w.heap.size 0 rfl [.int .i64 ggp, .int .i64 ggs, .bool ggst, .bool ggsk, .bool ggre, .bool ggfe, .bool ggag, .int .i64 ggc, .int .i64 ggl, .slice gga1 ggan1 ggac1, .slice gga2 ggan2 ggac2, .int .i64 ggap, .slice ggm ggmn ggmc, .slice ggb1 ggbn1 ggbc1, .slice ggb2 ggbn2 ggbc2, .int .i64 ggbp, .int .i64 ggrg] _ (fun u hu => hu.1) Try.underlying28 rfl (by kernel_rfl)) hHeld ?_
  simp only [Act.put, List.setIfInBounds_toArray]
  refine wpAnyH_take (i := 2) rfl (by kernel_rfl) (by kernel_rfl) (by kernel_rfl) (fun _ _ _ h => h) (yieldsIf_load_mid (by rfl) 28 _ rfl (w.heap.size + 1) 0 rfl [.int .i64 hhp, .int .i64 hhs, .bool hhst, .bool hhsk, .bool hhre, .bool hhfe, .bool hhag, .int .i64 hhc, .int .i64 hhl, .slice hha1 hhan1 hhac1, .slice hha2 hhan2 hhac2, .int .i64 hhap, .slice hhm hhmn hhmc, .slice hhb1 hhbn1 hhbc1, .slice hhb2 hhbn2 hhbc2, .int .i64 hhbp, .int .i64 hhrg] _ (fun u hu => hu.2) Try.underlying28 rfl (by kernel_rfl)) hHeld ?_
  simp only [Act.put]
  refine wpAnyH_ready (rs := [1]) (by kernel_rfl) (by simp) ?_
  refine AllReadyH.cons rfl (fun K hK => ?_) AllReadyH.nil
  rw [if_pos (by rfl)]
  go_simp
  go_at_call 11
  refine (toG_any ggp ggs ggc ggl ggst ggsk ggre ggfe ggag gga1 gga2 ggan1 ggac1 ggan2 ggac2 ggap ggm ggmn ggmc ggb1 ggb2 ggbn1 ggbc1 ggbn2 ggbc2 ggbp ggrg sx sy ms nx ny _ (H1.out.below HS.out.2.2)).mono ?_
  rintro e w5 ⟨g1, g2, g3, g4, g5, rfl, og, -, hb⟩
  have HS := Lib.hid (HS.out.below hb)
  have OG := Lib.hid og.r
  clear hb og
  (try dsimp only)
  refine hK.out _ _ ⟨GmAt.range HS.out.1, GmAt.range HS.out.2.1⟩ (fun hHeld => ?_)
  clear hK K
  (try simp only [Act.put, List.setIfInBounds_toArray, List.set_cons_zero, List.set_cons_succ])
  refine wpAnyH_ready (rs := [3]) (by kernel_rfl) (by simp) ?_
  refine AllReadyH.cons rfl (fun K hK => ?_) AllReadyH.nil
  rw [if_pos (by rfl)]
  go_simp
  go_at_call 11
  refine (toG_any hhp hhs hhc hhl hhst hhsk hhre hhfe hhag hha1 hha2 hhan1 hhac1 hhan2 hhac2 hhap hhm hhmn hhmc hhb1 hhb2 hhbn1 hhbc1 hhbn2 hhbc2 hhbp hhrg tx ty ns mx my _ (H2.out.below HS.out.2.2)).mono ?_
  rintro e w6 ⟨k1, k2, k3, k4, k5, rfl, og, -, hb⟩
  have HS := Lib.hid (HS.out.below hb)
  have OG := Lib.hid (OG.out.below hb)
  have OH := Lib.hid og.r
  clear hb og
  (try dsimp only)
  refine hK.out _ _ ⟨GmAt.range HS.out.1, GmAt.range HS.out.2.1⟩ (fun hHeld => ?_)
  clear hK K
  (try simp only [Act.put, List.setIfInBounds_toArray, List.set_cons_zero, List.set_cons_succ])
  refine wpAnyH_ready (rs := [4]) (by kernel_rfl) (by simp) ?_
  refine AllReadyH.cons rfl (fun K hK => ?_) AllReadyH.nil
  rw [if_pos (by rfl)]
  go_simp
  go_at_call 14
  refine (specSG_any ggp ggs ggc ggl ggst ggsk ggre ggfe ggag (some ⟨g1, 0, none⟩) (some ⟨g2, 0, none⟩) ggan1 ggan1 ggan2 ggan2 ggap (some ⟨g3, 0, none⟩) ggmn ggmn (some ⟨g4, 0, none⟩) (some ⟨g5, 0, none⟩) ggbn1 ggbn1 ggbn2 ggbn2 ggbp ggrg hhp hhs hhc hhl hhst hhsk hhre hhfe hhag (some ⟨k1, 0, none⟩) (some ⟨k2, 0, none⟩) hhan1 hhan1 hhan2 hhan2 hhap (some ⟨k3, 0, none⟩) hhmn hhmn (some ⟨k4, 0, none⟩) (some ⟨k5, 0, none⟩) hhbn1 hhbn1 hhbn2 hhbn2 hhbp hhrg sx sy ms nx ny tx ty ns mx my _ OG.out OH.out).mono ?_
  rw [KE.out]
  rintro e w7 ⟨rfl, hb⟩
  have HS := Lib.hid (HS.out.below hb)
  clear hb OG OH
  (try dsimp only)
  refine hK.out _ _ ⟨GmAt.range HS.out.1, GmAt.range HS.out.2.1⟩ (fun hHeld => ?_)
  clear hK K
  (try simp only [Act.put, List.setIfInBounds_toArray, List.set_cons_zero, List.set_cons_succ])
  refine wpAnyH_ready (rs := [5]) (by kernel_rfl) (by simp) ?_
  refine AllReadyH.cons rfl (fun K hK => ?_) AllReadyH.nil
  rw [if_pos (by rfl)]
  go_simp
  (try dsimp only)
  refine hK.out _ _ ⟨GmAt.range HS.out.1, GmAt.range HS.out.2.1⟩ (fun hHeld => ?_)
  clear hK K
  (try simp only [Act.put, List.setIfInBounds_toArray, List.set_cons_zero, List.set_cons_succ])
  refine wpAnyH_done (by kernel_rfl) ?_ _
  go_upto_region 9 with fail
  go_cut [7] (fun s7 wx => ∃ A : Nat, s7 = .pointer (some ⟨A, 0, none⟩) ∧ TG2 w ggp ggs ggc ggl ggst ggsk ggre ggfe ggag gga1 gga2 ggan1 ggac1 ggan2 ggac2 ggap ggm ggmn ggmc ggb1 ggb2 ggbn1 ggbc1 ggbn2 ggbc2 ggbp ggrg hhp hhs hhc hhl hhst hhsk hhre hhfe hhag hha1 hha2 hhan1 hhac1 hhan2 hhac2 hhap hhm hhmn hhmc hhb1 hhb2 hhbn1 hhbc1 hhbn2 hhbc2 hhbp hhrg wx ∧ TgAt wx A ggp ggs ggc ggl ggst ggsk ggre ggfe ggag ggan1 ggan2 ggap ggmn ggbn1 ggbn2 ggbp ggrg sx sy ms nx ny)
  case first =>
    go_step
    refine wpList_load_mid rfl 28 (.tmp 2) rfl w.heap.size 0 rfl _ _ (GmAt.range HS.out.1) Try.underlying28 rfl (by kernel_rfl) ?_
    simp only [Act.put, List.setIfInBounds_toArray, List.set_cons_zero, List.set_cons_succ]
    go_wp2_with fail
    refine (toG_any ggp ggs ggc ggl ggst ggsk ggre ggfe ggag gga1 gga2 ggan1 ggac1 ggan2 ggac2 ggap ggm ggmn ggmc ggb1 ggb2 ggbn1 ggbc1 ggbn2 ggbc2 ggbp ggrg sx sy ms nx ny _ (H1.out.below HS.out.2.2)).mono ?_
    rintro e w5 ⟨g1, g2, g3, g4, g5, rfl, og, -, hb⟩
    have HS := Lib.hid (HS.out.below hb)
    clear hb
    go_wp2_with (refine wpList_store_mid rfl 34 _ _ rfl w5.heap.size 0 (List.toArray [.int .i64 ggp, .int .i64 ggs, .bool ggst, .bool ggsk, .bool ggre, .bool ggfe, .bool ggag, .int .i64 ggc, .int .i64 ggl, .slice (some ⟨g1, 0, none⟩) ggan1 ggan1, .slice (some ⟨g2, 0, none⟩) ggan2 ggan2, .int .i64 ggap, .slice (some ⟨g3, 0, none⟩) ggmn ggmn, .slice (some ⟨g4, 0, none⟩) ggbn1 ggbn1, .slice (some ⟨g5, 0, none⟩) ggbn2 ggbn2, .int .i64 ggbp, .int .i64 ggrg]) rfl rfl (there17 w5 34) (by kernel_rfl) (gm_one _ _ _ _ _ _ _ _ _ _ _ _ _ _ _ _ _ _ _ _ _ _ _ _ _ _ _) ?_)
    go_meet
    exact ⟨_, rfl, HS.out.below (below_stored w5 34 _), tg_stored 34 og⟩
  obtain ⟨A1, rfl, hs, ht⟩ := hcut
  have HS := Lib.hid hs
  have TG := Lib.hid ht
  clear hs ht
  go_upto_region 10 with fail
  go_cut [8] (fun s8 wx => ∃ A : Nat, s8 = .pointer (some ⟨A, 0, none⟩) ∧ TG2 w ggp ggs ggc ggl ggst ggsk ggre ggfe ggag gga1 gga2 ggan1 ggac1 ggan2 ggac2 ggap ggm ggmn ggmc ggb1 ggb2 ggbn1 ggbc1 ggbn2 ggbc2 ggbp ggrg hhp hhs hhc hhl hhst hhsk hhre hhfe hhag hha1 hha2 hhan1 hhac1 hhan2 hhac2 hhap hhm hhmn hhmc hhb1 hhb2 hhbn1 hhbc1 hhbn2 hhbc2 hhbp hhrg wx ∧ TgAt wx A hhp hhs hhc hhl hhst hhsk hhre hhfe hhag hhan1 hhan2 hhap hhmn hhbn1 hhbn2 hhbp hhrg tx ty ns mx my ∧ TgAt wx A1 ggp ggs ggc ggl ggst ggsk ggre ggfe ggag ggan1 ggan2 ggap ggmn ggbn1 ggbn2 ggbp ggrg sx sy ms nx ny)
  case first =>
    go_step
    refine wpList_load_mid rfl 28 (.tmp 3) rfl (w.heap.size + 1) 0 rfl _ _ (GmAt.range HS.out.2.1) Try.underlying28 rfl (by kernel_rfl) ?_
    simp only [Act.put, List.setIfInBounds_toArray, List.set_cons_zero, List.set_cons_succ]
    go_wp2_with fail
    refine (toG_any hhp hhs hhc hhl hhst hhsk hhre hhfe hhag hha1 hha2 hhan1 hhac1 hhan2 hhac2 hhap hhm hhmn hhmc hhb1 hhb2 hhbn1 hhbc1 hhbn2 hhbc2 hhbp hhrg tx ty ns mx my _ (H2.out.below HS.out.2.2)).mono ?_
    rintro e w5 ⟨g1, g2, g3, g4, g5, rfl, og, -, hb⟩
    have HS := Lib.hid (HS.out.below hb)
    have TG := Lib.hid (TG.out.below hb)
    clear hb
    go_wp2_with (refine wpList_store_mid rfl 34 _ _ rfl w5.heap.size 0 (List.toArray [.int .i64 hhp, .int .i64 hhs, .bool hhst, .bool hhsk, .bool hhre, .bool hhfe, .bool hhag, .int .i64 hhc, .int .i64 hhl, .slice (some ⟨g1, 0, none⟩) hhan1 hhan1, .slice (some ⟨g2, 0, none⟩) hhan2 hhan2, .int .i64 hhap, .slice (some ⟨g3, 0, none⟩) hhmn hhmn, .slice (some ⟨g4, 0, none⟩) hhbn1 hhbn1, .slice (some ⟨g5, 0, none⟩) hhbn2 hhbn2, .int .i64 hhbp, .int .i64 hhrg]) rfl rfl (there17 w5 34) (by kernel_rfl) (gm_one _ _ _ _ _ _ _ _ _ _ _ _ _ _ _ _ _ _ _ _ _ _ _ _ _ _ _) ?_)
    go_meet
    exact ⟨_, rfl, HS.out.below (below_stored w5 34 _), tg_stored 34 og, TG.out.below (below_stored w5 34 _)⟩
  obtain ⟨A2, rfl, hs, ht2, ht1⟩ := hcut
  have HS := Lib.hid hs
  obtain ⟨g1, g2, g3, g4, g5, hg, hgr⟩ := ht1
  obtain ⟨k1, k2, k3, k4, k5, hh, hhr⟩ := ht2
  have GA := Lib.hid hg
  have GR := Lib.hid hgr
  have GB := Lib.hid hh
  have GS := Lib.hid hhr
  clear hs hg hgr hh hhr TG
  go_upto_region 11 with fail
  go_step
  refine wpList_load_mid rfl 34 (.tmp 7) rfl A1 0 rfl _ _ (GmAt.range GA.out) Try.underlying34 rfl (by kernel_rfl) ?_
  simp only [Act.put, List.setIfInBounds_toArray, List.set_cons_zero, List.set_cons_succ]
  refine wpList_load_mid rfl 34 (.tmp 8) rfl A2 0 rfl _ _ (GmAt.range GB.out) Try.underlying34 rfl (by kernel_rfl) ?_
  simp only [Act.put, List.setIfInBounds_toArray, List.set_cons_zero, List.set_cons_succ]
  go_wp2_with fail
  refine (implSG_any ggp ggs ggc ggl ggst ggsk ggre ggfe ggag (some ⟨g1, 0, none⟩) (some ⟨g2, 0, none⟩) ggan1 ggan1 ggan2 ggan2 ggap (some ⟨g3, 0, none⟩) ggmn ggmn (some ⟨g4, 0, none⟩) (some ⟨g5, 0, none⟩) ggbn1 ggbn1 ggbn2 ggbn2 ggbp ggrg hhp hhs hhc hhl hhst hhsk hhre hhfe hhag (some ⟨k1, 0, none⟩) (some ⟨k2, 0, none⟩) hhan1 hhan1 hhan2 hhan2 hhap (some ⟨k3, 0, none⟩) hhmn hhmn (some ⟨k4, 0, none⟩) (some ⟨k5, 0, none⟩) hhbn1 hhbn1 hhbn2 hhbn2 hhbp hhrg sx sy ms nx ny tx ty ns mx my _ GR.out GS.out).mono ?_
  rw [KE.out]
  rintro e w7 ⟨rfl, hb⟩
  have HS := Lib.hid (HS.out.below hb)
  have GA := Lib.hid (GA.out.below hb)
  have GR := Lib.hid (GR.out.below hb)
  have GB := Lib.hid (GB.out.below hb)
  have GS := Lib.hid (GS.out.below hb)
  clear hb
  go_upto_region 14 with fail
  refine wp_region_held_drew (S := fun u => u.rangeAt A1 0 [.int .i64 ggp, .int .i64 ggs, .bool ggst, .bool ggsk, .bool ggre, .bool ggfe, .bool ggag, .int .i64 ggc, .int .i64 ggl, .slice (some ⟨g1, 0, none⟩) ggan1 ggan1, .slice (some ⟨g2, 0, none⟩) ggan2 ggan2, .int .i64 ggap, .slice (some ⟨g3, 0, none⟩) ggmn ggmn, .slice (some ⟨g4, 0, none⟩) ggbn1 ggbn1, .slice (some ⟨g5, 0, none⟩) ggbn2 ggbn2, .int .i64 ggbp, .int .i64 ggrg] ∧ u.rangeAt w.heap.size 0 [.int .i64 ggp, .int .i64 ggs, .bool ggst, .bool ggsk, .bool ggre, .bool ggfe, .bool ggag, .int .i64 ggc, .int .i64 ggl, .slice gga1 ggan1 ggac1, .slice gga2 ggan2 ggac2, .int .i64 ggap, .slice ggm ggmn ggmc, .slice ggb1 ggbn1 ggbc1, .slice ggb2 ggbn2 ggbc2, .int .i64 ggbp, .int .i64 ggrg]) (by kernel_rfl) ⟨GmAt.range GA.out, GmAt.range HS.out.1⟩ (fun hHeld => ?_)
  have HS := Lib.hid (HS.out.drewN 1)
  have GA := Lib.hid (GA.out.below (below_dn (Below.refl _ _) 1))
  have GR := Lib.hid (GR.out.below (below_dn (Below.refl _ _) 1))
  have GB := Lib.hid (GB.out.below (below_dn (Below.refl _ _) 1))
  have GS := Lib.hid (GS.out.below (below_dn (Below.refl _ _) 1))
  refine wpAnyH_take (i := 0) rfl (by kernel_rfl) (by kernel_rfl) (by kernel_rfl) (fun _ _ _ h => h) (yieldsIf_load_mid (by rfl) 34 _ rfl A1 0 rfl [.int .i64 ggp, .int .i64 ggs, .bool ggst, .bool ggsk, .bool ggre, .bool ggfe, .bool ggag, .int .i64 ggc, .int .i64 ggl, .slice (some ⟨g1, 0, none⟩) ggan1 ggan1, .slice (some ⟨g2, 0, none⟩) ggan2 ggan2, .int .i64 ggap, .slice (some ⟨g3, 0, none⟩) ggmn ggmn, .slice (some ⟨g4, 0, none⟩) ggbn1 ggbn1, .slice (some ⟨g5, 0, none⟩) ggbn2 ggbn2, .int .i64 ggbp, .int .i64 ggrg] _ (fun u hu => hu.1) Try.underlying34 rfl (by kernel_rfl)) hHeld ?_
  simp only [Act.put, List.setIfInBounds_toArray]
  refine wpAnyH_take (i := 1) rfl (by kernel_rfl) (by kernel_rfl) (by kernel_rfl) (fun _ _ _ h => h) (yieldsIf_load_mid (by rfl) 28 _ rfl w.heap.size 0 rfl [.int .i64 ggp, .int .i64 ggs, .bool ggst, .bool ggsk, .bool ggre, .bool ggfe, .bool ggag, .int .i64 ggc, .int .i64 ggl, .slice gga1 ggan1 ggac1, .slice gga2 ggan2 ggac2, .int .i64 ggap, .slice ggm ggmn ggmc, .slice ggb1 ggbn1 ggbc1, .slice ggb2 ggbn2 ggbc2, .int .i64 ggbp, .int .i64 ggrg] _ (fun u hu => hu.2) Try.underlying28 rfl (by kernel_rfl)) hHeld ?_
  simp only [Act.put]
  refine wpAnyH_ready (rs := [2]) (by kernel_rfl) (by simp) ?_
  refine AllReadyH.cons rfl (fun K hK => ?_) AllReadyH.nil
  rw [if_pos (by rfl)]
  go_simp
  go_at_call 11
  refine (toG_any ggp ggs ggc ggl ggst ggsk ggre ggfe ggag gga1 gga2 ggan1 ggac1 ggan2 ggac2 ggap ggm ggmn ggmc ggb1 ggb2 ggbn1 ggbc1 ggbn2 ggbc2 ggbp ggrg sx sy ms nx ny _ (H1.out.below HS.out.2.2)).mono ?_
  rintro e u5 ⟨j1, j2, j3, j4, j5, rfl, og, -, hb⟩
  have HS := Lib.hid (HS.out.below hb)
  have GA := Lib.hid (GA.out.below hb)
  have GR := Lib.hid (GR.out.below hb)
  have GB := Lib.hid (GB.out.below hb)
  have GS := Lib.hid (GS.out.below hb)
  have OG := Lib.hid og.r
  clear hb og
  (try dsimp only)
  refine hK.out _ _ ⟨GmAt.range GA.out, GmAt.range HS.out.1⟩ (fun hHeld => ?_)
  clear hK K
  (try simp only [Act.put, List.setIfInBounds_toArray, List.set_cons_zero, List.set_cons_succ])
  refine wpAnyH_ready (rs := [3]) (by kernel_rfl) (by simp) ?_
  refine AllReadyH.cons rfl (fun K hK => ?_) AllReadyH.nil
  rw [if_pos (by rfl)]
  go_simp
  go_at_call 13
  refine (eqG_same ggp ggs ggc ggl ggst ggsk ggre ggfe ggag (some ⟨g1, 0, none⟩) (some ⟨g2, 0, none⟩) ggan1 ggan1 ggan2 ggan2 ggap (some ⟨g3, 0, none⟩) ggmn ggmn (some ⟨g4, 0, none⟩) (some ⟨g5, 0, none⟩) ggbn1 ggbn1 ggbn2 ggbn2 ggbp ggrg (some ⟨j1, 0, none⟩) (some ⟨j2, 0, none⟩) ggan1 ggan2 (some ⟨j3, 0, none⟩) ggmn (some ⟨j4, 0, none⟩) (some ⟨j5, 0, none⟩) ggbn1 ggbn2 sx sy ms nx ny _ GR.out OG.out).mono ?_
  rintro e u6 ⟨rfl, hb⟩
  have HS := Lib.hid (HS.out.below hb)
  have GA := Lib.hid (GA.out.below hb)
  have GR := Lib.hid (GR.out.below hb)
  have GB := Lib.hid (GB.out.below hb)
  have GS := Lib.hid (GS.out.below hb)
  clear hb OG
  (try dsimp only)
  refine hK.out _ _ ⟨GmAt.range GA.out, GmAt.range HS.out.1⟩ (fun hHeld => ?_)
  clear hK K
  (try simp only [Act.put, List.setIfInBounds_toArray, List.set_cons_zero, List.set_cons_succ])
  refine wpAnyH_ready (rs := [4]) (by kernel_rfl) (by simp) ?_
  refine AllReadyH.cons rfl (fun K hK => ?_) AllReadyH.nil
  rw [if_pos (by rfl)]
  go_simp
  (try dsimp only)
  refine hK.out _ _ ⟨GmAt.range GA.out, GmAt.range HS.out.1⟩ (fun hHeld => ?_)
  clear hK K
  (try simp only [Act.put, List.setIfInBounds_toArray, List.set_cons_zero, List.set_cons_succ])
  refine wpAnyH_done (by kernel_rfl) ?_ _
  go_upto_region 16 with fail
  refine wp_region_held_drew (S := fun u => u.rangeAt A2 0 [.int .i64 hhp, .int .i64 hhs, .bool hhst, .bool hhsk, .bool hhre, .bool hhfe, .bool hhag, .int .i64 hhc, .int .i64 hhl, .slice (some ⟨k1, 0, none⟩) hhan1 hhan1, .slice (some ⟨k2, 0, none⟩) hhan2 hhan2, .int .i64 hhap, .slice (some ⟨k3, 0, none⟩) hhmn hhmn, .slice (some ⟨k4, 0, none⟩) hhbn1 hhbn1, .slice (some ⟨k5, 0, none⟩) hhbn2 hhbn2, .int .i64 hhbp, .int .i64 hhrg] ∧ u.rangeAt (w.heap.size + 1) 0 [.int .i64 hhp, .int .i64 hhs, .bool hhst, .bool hhsk, .bool hhre, .bool hhfe, .bool hhag, .int .i64 hhc, .int .i64 hhl, .slice hha1 hhan1 hhac1, .slice hha2 hhan2 hhac2, .int .i64 hhap, .slice hhm hhmn hhmc, .slice hhb1 hhbn1 hhbc1, .slice hhb2 hhbn2 hhbc2, .int .i64 hhbp, .int .i64 hhrg]) (by kernel_rfl) ⟨GmAt.range GB.out, GmAt.range HS.out.2.1⟩ (fun hHeld => ?_)
  have HS := Lib.hid (HS.out.drewN 1)
  have GB := Lib.hid (GB.out.below (below_dn (Below.refl _ _) 1))
  have GS := Lib.hid (GS.out.below (below_dn (Below.refl _ _) 1))
  refine wpAnyH_take (i := 0) rfl (by kernel_rfl) (by kernel_rfl) (by kernel_rfl) (fun _ _ _ h => h) (yieldsIf_load_mid (by rfl) 34 _ rfl A2 0 rfl [.int .i64 hhp, .int .i64 hhs, .bool hhst, .bool hhsk, .bool hhre, .bool hhfe, .bool hhag, .int .i64 hhc, .int .i64 hhl, .slice (some ⟨k1, 0, none⟩) hhan1 hhan1, .slice (some ⟨k2, 0, none⟩) hhan2 hhan2, .int .i64 hhap, .slice (some ⟨k3, 0, none⟩) hhmn hhmn, .slice (some ⟨k4, 0, none⟩) hhbn1 hhbn1, .slice (some ⟨k5, 0, none⟩) hhbn2 hhbn2, .int .i64 hhbp, .int .i64 hhrg] _ (fun u hu => hu.1) Try.underlying34 rfl (by kernel_rfl)) hHeld ?_
  simp only [Act.put, List.setIfInBounds_toArray]
  refine wpAnyH_take (i := 1) rfl (by kernel_rfl) (by kernel_rfl) (by kernel_rfl) (fun _ _ _ h => h) (yieldsIf_load_mid (by rfl) 28 _ rfl (w.heap.size + 1) 0 rfl [.int .i64 hhp, .int .i64 hhs, .bool hhst, .bool hhsk, .bool hhre, .bool hhfe, .bool hhag, .int .i64 hhc, .int .i64 hhl, .slice hha1 hhan1 hhac1, .slice hha2 hhan2 hhac2, .int .i64 hhap, .slice hhm hhmn hhmc, .slice hhb1 hhbn1 hhbc1, .slice hhb2 hhbn2 hhbc2, .int .i64 hhbp, .int .i64 hhrg] _ (fun u hu => hu.2) Try.underlying28 rfl (by kernel_rfl)) hHeld ?_
  simp only [Act.put]
  refine wpAnyH_ready (rs := [2]) (by kernel_rfl) (by simp) ?_
  refine AllReadyH.cons rfl (fun K hK => ?_) AllReadyH.nil
  rw [if_pos (by rfl)]
  go_simp
  go_at_call 11
  refine (toG_any hhp hhs hhc hhl hhst hhsk hhre hhfe hhag hha1 hha2 hhan1 hhac1 hhan2 hhac2 hhap hhm hhmn hhmc hhb1 hhb2 hhbn1 hhbc1 hhbn2 hhbc2 hhbp hhrg tx ty ns mx my _ (H2.out.below HS.out.2.2)).mono ?_
  rintro e u5 ⟨j1, j2, j3, j4, j5, rfl, og, -, hb⟩
  have HS := Lib.hid (HS.out.below hb)
  have GB := Lib.hid (GB.out.below hb)
  have GS := Lib.hid (GS.out.below hb)
  have OG := Lib.hid og.r
  clear hb og
  (try dsimp only)
  refine hK.out _ _ ⟨GmAt.range GB.out, GmAt.range HS.out.2.1⟩ (fun hHeld => ?_)
  clear hK K
  (try simp only [Act.put, List.setIfInBounds_toArray, List.set_cons_zero, List.set_cons_succ])
  refine wpAnyH_ready (rs := [3]) (by kernel_rfl) (by simp) ?_
  refine AllReadyH.cons rfl (fun K hK => ?_) AllReadyH.nil
  rw [if_pos (by rfl)]
  go_simp
  go_at_call 13
  refine (eqG_same hhp hhs hhc hhl hhst hhsk hhre hhfe hhag (some ⟨k1, 0, none⟩) (some ⟨k2, 0, none⟩) hhan1 hhan1 hhan2 hhan2 hhap (some ⟨k3, 0, none⟩) hhmn hhmn (some ⟨k4, 0, none⟩) (some ⟨k5, 0, none⟩) hhbn1 hhbn1 hhbn2 hhbn2 hhbp hhrg (some ⟨j1, 0, none⟩) (some ⟨j2, 0, none⟩) hhan1 hhan2 (some ⟨j3, 0, none⟩) hhmn (some ⟨j4, 0, none⟩) (some ⟨j5, 0, none⟩) hhbn1 hhbn2 tx ty ns mx my _ GS.out OG.out).mono ?_
  rintro e u6 ⟨rfl, hb⟩
  have HS := Lib.hid (HS.out.below hb)
  have GB := Lib.hid (GB.out.below hb)
  have GS := Lib.hid (GS.out.below hb)
  clear hb OG
  (try dsimp only)
  refine hK.out _ _ ⟨GmAt.range GB.out, GmAt.range HS.out.2.1⟩ (fun hHeld => ?_)
  clear hK K
  (try simp only [Act.put, List.setIfInBounds_toArray, List.set_cons_zero, List.set_cons_succ])
  refine wpAnyH_ready (rs := [4]) (by kernel_rfl) (by simp) ?_
  refine AllReadyH.cons rfl (fun K hK => ?_) AllReadyH.nil
  rw [if_pos (by rfl)]
  go_simp
  (try dsimp only)
  refine hK.out _ _ ⟨GmAt.range GB.out, GmAt.range HS.out.2.1⟩ (fun hHeld => ?_)
  clear hK K
  (try simp only [Act.put, List.setIfInBounds_toArray, List.set_cons_zero, List.set_cons_succ])
  refine wpAnyH_done (by kernel_rfl) ?_ _
  go_wp2_with fail
  go_ret
  exact ⟨rfl, HS.out.2.2⟩
theorem walk_FnExactSameGame (x : GV) {w : World} (hx : x.In w) (y : GV) (hy : y.In w) : Calls Try.prog 4 #[x.val, y.val] w fun e w' => e = .returned (.bool true) ∧ Below w.heap.size w w' :=
  walk0_FnExactSameGame _ _ _ _ _ _ _ _ _ _ _ _ _ _ _ _ _ _ _ _ _ _ _ _ _ _ _ _ _ _ _ _ _ _ _ _ _ _ _ _ _ _ _ _ _ _ _ _ _ _ _ _ _ _ _ _ _ _ _ _ _ _ _ _ w hx.2.2.2.2 hy.2.2.2.2
namespace fnExactSameGame
set_option maxHeartbeats 2000000 in
set_option maxRecDepth 100000 in
theorem lifted (os : Os) (started : os.Started) (H : Type) (enc : TypeId × Value → H) :
    ReturnsInHanded {} Try.checked os 4 .any (Rows.fnExactSameGameSpec.pre6 enc Try.prog Try.f4 Rows.fnExactSameGameRow.domain false) (Rows.fnExactSameGameSpec.post enc Try.prog Try.f4 false true false false) := by
  refine returnsInHanded_of_change (C := Try.checked) own started (by kernel_rfl) Try.func4
    (ChangeSpec.witness6 (enc := enc) (C := Try.checked) false ⟨#[], #[.agg #[.int .i64 0, .int .i64 0, .bool false, .bool false, .bool false, .bool false, .bool false, .int .i64 0, .int .i64 0, .slice none 0 0, .slice none 0 0, .int .i64 0, .slice none 0 0, .slice none 0 0, .slice none 0 0, .int .i64 0, .int .i64 0], .agg #[.int .i64 0, .int .i64 0, .bool false, .bool false, .bool false, .bool false, .bool false, .int .i64 0, .int .i64 0, .slice none 0 0, .slice none 0 0, .int .i64 0, .slice none 0 0, .slice none 0 0, .slice none 0 0, .int .i64 0, .int .i64 0]], []⟩ 8 (by kernel_rfl) (by kernel_rfl) (by kernel_rfl) (by kernel_rfl)) ?_
  intro W base args ds gs before hval0 hW hcnd _
  have hval : ∀ (j : Nat) t v, Try.f4.params[j]? = some t → args[j]? = some v → Value.okWide Try.prog W .any base t v := hval0
  have hW' := hW
  obtain ⟨p, q, hA0, hV, rfl, hfz, hnd⟩ := hW
  have hA : DataW.TrodAll enc Try.prog W 0 (fun _ => true) true Try.f4.params.toList args.toList ds p := hA0
  rw [Try.params4] at hA hval
  obtain ⟨v0, vs0, d0, ds0, p0, q0, hargs, rfl, rfl, h0, r0⟩ := trodAll_cons hA
  obtain ⟨v1, vs1, d1, ds1, p1, q1, rfl, rfl, rfl, h1, r1⟩ := trodAll_cons r0
  obtain ⟨rfl, rfl, rfl⟩ := trodAll_nil r1
  obtain rfl : args = #[v0, v1] := by cases args; simp_all
  obtain ⟨rfl, rfl⟩ := trodVars_none hV
  have k0 := h0
  have lt0 : ∀ x ∈ p0, x.block < W.heap.size := by obtain ⟨m, hm⟩ := k0; exact DataW.trod_lt m _ _ _ hm
  obtain ⟨x0, rfl, w0⟩ := open_game Try.underlying28 Try.underlying23 Try.underlying26 Try.underlying24 Try.underlying2 Try.underlying4 (by kernel_rfl) (by kernel_rfl) (by kernel_rfl) (by kernel_rfl) (by kernel_rfl) (hval 0 28 v0 rfl rfl) h0
  have k1 := h1
  have lt1 : ∀ x ∈ p1, x.block < W.heap.size := by obtain ⟨m, hm⟩ := k1; exact DataW.trod_lt m _ _ _ hm
  obtain ⟨x1, rfl, w1⟩ := open_game Try.underlying28 Try.underlying23 Try.underlying26 Try.underlying24 Try.underlying2 Try.underlying4 (by kernel_rfl) (by kernel_rfl) (by kernel_rfl) (by kernel_rfl) (by kernel_rfl) (hval 1 28 v1 rfl rfl) h1
  clear hA0 hval0
  refine (walk_FnExactSameGame x0 w0 x1 w1 (w := W)).mono fun e W' ⟨he, bel⟩ => ?_
  subst he
  exact ⟨_, rfl, _, _, _, [], _, [], hW', trodAll_mk1 (shut_bool Try.underlying4 _), (trodAll_cons_mk (Below.trod laidOut (by kernel_rfl) (of_decide_eq_true (by kernel_rfl)) k0 bel lt0) (trodAll_cons_mk (Below.trod laidOut (by kernel_rfl) (of_decide_eq_true (by kernel_rfl)) k1 bel lt1) trodAll_mk0)), rfl, bel.frame _, fun h => by cases h⟩

theorem proved : Rows.FnExactSameGameSaid :=
  OpenClaim.holds_of_wide 4 Try.f4 rfl rfl rfl rfl rfl rfl rfl ⟨rfl, rfl, rfl, rfl, rfl⟩ rfl rfl rfl rfl rfl (by kernel_rfl) Try.func4 (by kernel_rfl)
    (of_decide_eq_true (by kernel_rfl)) (by unfold Func.isWrapper; first | (rw [if_pos (by decide +kernel)]; kernel_rfl) | (rw [if_neg (by decide +kernel)]; exact ⟨rfl, rfl⟩))
    (fun os started H enc _ => lifted os started H enc)
end fnExactSameGame

end Go.Proofs.Ythbkdlidpdliaab
