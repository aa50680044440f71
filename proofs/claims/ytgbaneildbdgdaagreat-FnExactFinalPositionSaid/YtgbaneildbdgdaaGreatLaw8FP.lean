/- The law on FinalPosition. No conditions. -/
import Derived.Test.YtgbaneildbdgdaaGreatWb9
import Derived.Test.YtgbaneildbdgdaaGreatWb10
import Derived.Test.YtgbaneildbdgdaaGreatWb4
import Derived.Deep.DeepCutAuto
namespace Go.Proofs.YtgbaneildbdgdaaGreat
open Go.Joins Go.ChangeShapes Go.WideShapes Go.ChangeAt Go.RowKit Go.Deep
set_option linter.unusedVariables false

theorem WAt.but5 {u v : World} {lo hi A b1 b2 n1 c1 n2 c2 : Nat} {a1 a2 : Option Addr} {pl : Int} {us vs : List Int} {k1 k2 k3 k4 k5 : Nat} (h : WAt u lo hi A a1 a2 b1 b2 n1 c1 n2 c2 pl us vs) (k : But5 k1 k2 k3 k4 k5 u v) (d1 : hi ≤ k1 ∨ k1 < lo) (d2 : hi ≤ k2 ∨ k2 < lo) (d3 : hi ≤ k3 ∨ k3 < lo) (d4 : hi ≤ k4 ∨ k4 < lo) (d5 : hi ≤ k5 ∨ k5 < lo) : WAt v lo hi A a1 a2 b1 b2 n1 c1 n2 c2 pl us vs := by
  have r1 := RIn.but5 (show RIn u lo hi a1 b1 us from ⟨h.o.o1, fun _ => h.lt1, h.hi_le⟩) k d1 d2 d3 d4 d5
  have r2 := RIn.but5 (show RIn u lo hi a2 b2 vs from ⟨h.o.o2, fun _ => h.lt2, h.hi_le⟩) k d1 d2 d3 d4 d5
  have q1 := h.lo_le
  have q2 := h.lt
  have hp : PoAt v A a1 a2 n1 c1 n2 c2 pl := by
    obtain ⟨hd, h⟩ := h.po
    have e := fun o => k.cell (o := o) hd (by omega) (by omega) (by omega) (by omega) (by omega)
    exact ⟨Nat.lt_of_lt_of_le hd k.size, by rw [e, e, e]; exact h⟩
  exact ⟨hp, ⟨r1.1, r2.1, h.o.ne, h.o.l1, h.o.l2⟩, h.lo_le, h.lt, h.lt1, h.lt2, Nat.le_trans h.hi_le k.size, h.ne1, h.ne2⟩
theorem GmB.but2 {w u v : World} {b c : Nat} {ggp ggs ggc ggl : Int} {ggst ggsk ggre ggfe ggag : Bool} {gga1 gga2 : Option Addr} {ggan1 ggac1 ggan2 ggac2 : Nat} {ggap : Int} {ggm : Option Addr} {ggmn ggmc : Nat} {ggb1 ggb2 : Option Addr} {ggbn1 ggbc1 ggbn2 ggbc2 : Nat} {ggbp ggrg : Int} (h : GmB w w.heap.size ggp ggs ggc ggl ggst ggsk ggre ggfe ggag gga1 gga2 ggan1 ggac1 ggan2 ggac2 ggap ggm ggmn ggmc ggb1 ggb2 ggbn1 ggbc1 ggbn2 ggbc2 ggbp ggrg u) (k : But2 b c u v) (hb : w.heap.size < b) (hc : w.heap.size < c) : GmB w w.heap.size ggp ggs ggc ggl ggst ggsk ggre ggfe ggag gga1 gga2 ggan1 ggac1 ggan2 ggac2 ggap ggm ggmn ggmc ggb1 ggb2 ggbn1 ggbc1 ggbn2 ggbc2 ggbp ggrg v :=
  ⟨h.1.but2 k (by omega) (by omega), k.below h.2 (by omega) (by omega) h.2.size⟩
theorem fp_ex (cd : Int) (n1 : Nat) (h1 : n1 ≤ 10000000) (pl p rg : Int) (nx ny : List Int) : ∃ (m1 m2 : Nat) (pl' : Int) (us vs : List Int), m1 ≤ 10000000 ∧ m2 ≤ 10000000 ∧ FpP cd n1 pl p rg nx ny = PosZ m1 m2 pl' cd us vs := by
  by_cases hz : cd = 0
  · subst hz
    exact ⟨n1, 2, pl, _, _, h1, by omega, FpP0 _ _ _ _ _ _⟩
  · exact ⟨0, 0, 0, [], [], by omega, by omega, FpPn hz _ _ _ _ _ _⟩
set_option maxHeartbeats 4000000 in
set_option maxRecDepth 100000 in
theorem walk0_FnExactFinalPosition (ggp ggs ggc ggl : Int) (ggst ggsk ggre ggfe ggag : Bool) (gga1 gga2 : Option Addr) (ggan1 ggac1 ggan2 ggac2 : Nat) (ggap : Int) (ggm : Option Addr) (ggmn ggmc : Nat) (ggb1 ggb2 : Option Addr) (ggbn1 ggbc1 ggbn2 ggbc2 : Nat) (ggbp ggrg : Int) (sx sy ms nx ny : List Int) (w : World) (h1 : GamW w gga1 gga2 ggan1 ggan2 ggm ggmn ggb1 ggb2 ggbn1 ggbn2 sx sy ms nx ny) :
    Calls Tryz.prog 6 #[.agg #[.int .i64 ggp, .int .i64 ggs, .bool ggst, .bool ggsk, .bool ggre, .bool ggfe, .bool ggag, .int .i64 ggc, .int .i64 ggl, .slice gga1 ggan1 ggac1, .slice gga2 ggan2 ggac2, .int .i64 ggap, .slice ggm ggmn ggmc, .slice ggb1 ggbn1 ggbc1, .slice ggb2 ggbn2 ggbc2, .int .i64 ggbp, .int .i64 ggrg]] w fun e w' => e = .returned (.bool true) ∧ Below w.heap.size w w' := by
  have ha1 := Lib.hid (And.intro h1.s.m1 (And.intro h1.s.m2 (And.intro h1.mn (And.intro h1.n.m1 h1.n.m2))))
  have HW1 := Lib.hid h1
  have HS := Lib.hid (gmb_new ggp ggs ggc ggl ggst ggsk ggre ggfe ggag gga1 gga2 ggan1 ggac1 ggan2 ggac2 ggap ggm ggmn ggmc ggb1 ggb2 ggbn1 ggbc1 ggbn2 ggbc2 ggbp ggrg w 28)
  clear h1
  obtain ⟨nA, hnA⟩ : ∃ n, gmN ggan1 ggan2 ggmn ggbn1 ggbn2 = n := ⟨_, rfl⟩
  have pA : 0 ≤ nA := by rw [← hnA]; unfold gmN; omega
  by_cases hz1 : nA ≤ 1048576
  rotate_left
  · have E1 : Hid (szW 1048576 (gmN ggan1 ggan2 ggmn ggbn1 ggbn2) = -1) := Lib.hid (by rw [hnA]; exact szW_no hz1)
    clear hnA pA hz1
    go_enter Tryz.func6, Tryz.ntmps6
    go_upto_region 2 with fail
    go_step
    refine wpList_load_mid rfl 28 (.tmp 1) rfl w.heap.size 0 rfl _ _ (GmAt.range HS.out.1) Tryz.underlying28 rfl (by kernel_rfl) ?_
    simp only [Act.put, List.setIfInBounds_toArray, List.set_cons_zero, List.set_cons_succ]
    go_wp2_with fail
    refine (szG_any ggp ggs ggc ggl ggst ggsk ggre ggfe ggag gga1 gga2 ggan1 ggac1 ggan2 ggac2 ggap ggm ggmn ggmc ggb1 ggb2 ggbn1 ggbc1 ggbn2 ggbc2 ggbp ggrg 1048576 (by omega) (by omega) ha1.out.1 ha1.out.2.1 ha1.out.2.2.1 ha1.out.2.2.2.1 ha1.out.2.2.2.2 _).mono ?_
    rintro e v1 ⟨rfl, hb⟩
    rw [E1.out]
    have HS := Lib.hid (HS.out.below hb)
    clear hb
    go_wp2_with fail
    go_ret
    exact ⟨rfl, HS.out.2⟩
  have q0 : 0 ≤ 1048576 - nA := by omega
  have E1 : Hid (szW 1048576 (gmN ggan1 ggan2 ggmn ggbn1 ggbn2) = 1048576 - nA) := Lib.hid (by rw [hnA]; exact szW_yes hz1)
  have hsum : ggan1 + ggan2 + ggmn + ggbn1 + ggbn2 ≤ 1048576 := by unfold gmN at hnA; omega
  have H1 := Lib.hid (HW1.out.toR (by unfold gmN at hnA; omega))
  clear HW1 hnA hz1
  obtain ⟨cd, hcd⟩ : ∃ cd : Int, finC ggp ggs ggc ggl ggst ggsk ggre ggfe ggag ggan1 ggan2 ggap sx sy ms ggbp nx ny ggrg = cd := ⟨_, rfl⟩
  obtain ⟨m1, m2, pl, us, vs, hm1, hm2, hfp⟩ := fp_ex cd ggbn1 (by omega) ggbp ggp ggrg nx ny
  have HSp : Hid (∀ (a1 a2 mm b1 b2 : Option Addr) (u : World), GamR u a1 a2 ggan1 ggan2 mm ggmn b1 b2 ggbn1 ggbn2 sx sy ms nx ny → Calls Tryz.prog 25 #[.agg #[.int .i64 ggp, .int .i64 ggs, .bool ggst, .bool ggsk, .bool ggre, .bool ggfe, .bool ggag, .int .i64 ggc, .int .i64 ggl, .slice a1 ggan1 ggan1, .slice a2 ggan2 ggan2, .int .i64 ggap, .slice mm ggmn ggmn, .slice b1 ggbn1 ggbn1, .slice b2 ggbn2 ggbn2, .int .i64 ggbp, .int .i64 ggrg]] u (PosZ m1 m2 pl cd us vs u)) := Lib.hid (fun a1 a2 mm b1 b2 u hu => by have h9 := specFP_any ggp ggs ggc ggl ggst ggsk ggre ggfe ggag a1 a2 ggan1 ggan1 ggan2 ggan2 ggap mm ggmn ggmn b1 b2 ggbn1 ggbn1 ggbn2 ggbn2 ggbp ggrg sx sy ms nx ny u hu; rw [hcd, hfp] at h9; exact h9)
  have HIm : Hid (∀ (a1 a2 mm b1 b2 : Option Addr) (u : World), GamR u a1 a2 ggan1 ggan2 mm ggmn b1 b2 ggbn1 ggbn2 sx sy ms nx ny → Calls Tryz.prog 26 #[.agg #[.int .i64 ggp, .int .i64 ggs, .bool ggst, .bool ggsk, .bool ggre, .bool ggfe, .bool ggag, .int .i64 ggc, .int .i64 ggl, .slice a1 ggan1 ggan1, .slice a2 ggan2 ggan2, .int .i64 ggap, .slice mm ggmn ggmn, .slice b1 ggbn1 ggbn1, .slice b2 ggbn2 ggbn2, .int .i64 ggbp, .int .i64 ggrg]] u (PosZ m1 m2 pl cd us vs u)) := Lib.hid (fun a1 a2 mm b1 b2 u hu => by have h9 := implFP_any ggp ggs ggc ggl ggst ggsk ggre ggfe ggag a1 a2 ggan1 ggan1 ggan2 ggan2 ggap mm ggmn ggmn b1 b2 ggbn1 ggbn1 ggbn2 ggbn2 ggbp ggrg sx sy ms nx ny u hu; rw [hcd, hfp] at h9; exact h9)
  clear hcd hfp
  go_enter Tryz.func6, Tryz.ntmps6
  go_upto_region 2 with fail
  go_step
  refine wpList_load_mid rfl 28 (.tmp 1) rfl w.heap.size 0 rfl _ _ (GmAt.range HS.out.1) Tryz.underlying28 rfl (by kernel_rfl) ?_
  simp only [Act.put, List.setIfInBounds_toArray, List.set_cons_zero, List.set_cons_succ]
  go_wp2_with fail
  refine (szG_any ggp ggs ggc ggl ggst ggsk ggre ggfe ggag gga1 gga2 ggan1 ggac1 ggan2 ggac2 ggap ggm ggmn ggmc ggb1 ggb2 ggbn1 ggbc1 ggbn2 ggbc2 ggbp ggrg 1048576 (by omega) (by omega) ha1.out.1 ha1.out.2.1 ha1.out.2.2.1 ha1.out.2.2.2.1 ha1.out.2.2.2.2 _).mono ?_
  rintro e v1 ⟨rfl, hb⟩
  rw [E1.out]
  have HS := Lib.hid (HS.out.below hb)
  clear hb
  go_upto_region 5 with fail
  go_step
  refine wpList_load_mid rfl 28 (.tmp 1) rfl w.heap.size 0 rfl _ _ (GmAt.range HS.out.1) Tryz.underlying28 rfl (by kernel_rfl) ?_
  simp only [Act.put, List.setIfInBounds_toArray, List.set_cons_zero, List.set_cons_succ]
  go_wp2_with fail
  refine (toG_any ggp ggs ggc ggl ggst ggsk ggre ggfe ggag gga1 gga2 ggan1 ggac1 ggan2 ggac2 ggap ggm ggmn ggmc ggb1 ggb2 ggbn1 ggbc1 ggbn2 ggbc2 ggbp ggrg sx sy ms nx ny _ (H1.out.below HS.out.2)).mono ?_
  rintro e w5 ⟨g1, g2, g3, g4, g5, rfl, og, -, hb⟩
  have HS := Lib.hid (HS.out.below hb)
  have OG := Lib.hid og.r
  clear hb og
  go_wp2_with fail
  refine (HSp.out (some ⟨g1, 0, none⟩) (some ⟨g2, 0, none⟩) (some ⟨g3, 0, none⟩) (some ⟨g4, 0, none⟩) (some ⟨g5, 0, none⟩) _ OG.out).mono ?_
  rintro e w6 ⟨p1, c1, pb1, p2, c2, pb2, rfl, ho, hlt1, hlt2, hc1, hc2, hb⟩
  have HO := Lib.hid (ho.lower (C := w.heap.size + 1) HS.out.1.1)
  have HS := Lib.hid (HS.out.below hb)
  have hsz6 : w.heap.size < w6.heap.size := HS.out.1.1
  clear hb OG ho hc1 hc2
  go_upto_region 6 with fail
  have W0 := Lib.hid (wat_new 33 pl c1 c2 HO.out hlt1 hlt2 hsz6)
  have HS := Lib.hid (HS.out.below (al1 w6 (.cells #[.slice p1 m1 c1, .slice p2 m2 c2, .int .i64 pl] 33)))
  have hsz7 : (w6.alloc (.cells #[.slice p1 m1 c1, .slice p2 m2 c2, .int .i64 pl] 33)).heap.size = w6.heap.size + 1 := World.size_alloc _ _
  clear HO hlt1 hlt2
  generalize w6.alloc (.cells #[.slice p1 m1 c1, .slice p2 m2 c2, .int .i64 pl] 33) = w7 at *
  obtain ⟨A0, hA0⟩ : ∃ A0, A0 = w6.heap.size := ⟨_, rfl⟩
  rw [← hA0] at W0 hsz6 hsz7
  rw [← hA0]
  clear hA0
  obtain ⟨H0, hH0⟩ : ∃ H0, H0 = w7.heap.size := ⟨_, rfl⟩
  rw [← hsz7, ← hH0] at W0
  go_cut [6] (fun sx' wx => ∃ A g1 g2 g3 g4 g5 : Nat, sx' = .pointer (some ⟨A, 0, none⟩) ∧ H0 ≤ A ∧ GmB w w.heap.size ggp ggs ggc ggl ggst ggsk ggre ggfe ggag gga1 gga2 ggan1 ggac1 ggan2 ggac2 ggap ggm ggmn ggmc ggb1 ggb2 ggbn1 ggbc1 ggbn2 ggbc2 ggbp ggrg wx ∧ WAt wx (w.heap.size + 1) H0 A0 p1 p2 pb1 pb2 m1 c1 m2 c2 pl us vs ∧ GmAt wx A ggp ggs ggc ggl ggst ggsk ggre ggfe ggag (some ⟨g1, 0, none⟩) (some ⟨g2, 0, none⟩) ggan1 ggan1 ggan2 ggan2 ggap (some ⟨g3, 0, none⟩) ggmn ggmn (some ⟨g4, 0, none⟩) (some ⟨g5, 0, none⟩) ggbn1 ggbn1 ggbn2 ggbn2 ggbp ggrg ∧ GamO wx H0 (some ⟨g1, 0, none⟩) (some ⟨g2, 0, none⟩) g1 g2 ggan1 ggan2 (some ⟨g3, 0, none⟩) g3 ggmn (some ⟨g4, 0, none⟩) (some ⟨g5, 0, none⟩) g4 g5 ggbn1 ggbn2 sx sy ms nx ny ∧ GamD wx g1 g2 g3 g4 g5)
  case first =>
    go_step
    refine wpList_load_mid rfl 28 (.tmp 1) rfl w.heap.size 0 rfl _ _ (GmAt.range HS.out.1) Tryz.underlying28 rfl (by kernel_rfl) ?_
    simp only [Act.put, List.setIfInBounds_toArray, List.set_cons_zero, List.set_cons_succ]
    go_wp2_with fail
    refine (toG2_any ggp ggs ggc ggl ggst ggsk ggre ggfe ggag gga1 gga2 ggan1 ggac1 ggan2 ggac2 ggap ggm ggmn ggmc ggb1 ggb2 ggbn1 ggbc1 ggbn2 ggbc2 ggbp ggrg sx sy ms nx ny _ (H1.out.below HS.out.2)).mono ?_
    rintro e w5 ⟨g1, g2, g3, g4, g5, rfl, og, -, gd, hb⟩
    have HS := Lib.hid (HS.out.below hb)
    have W0 := Lib.hid (W0.out.below hb)
    have hs5 := hb.size
    rw [← hH0] at og hs5
    clear hb
    go_wp2_with (refine wpList_store_mid rfl 35 _ _ rfl w5.heap.size 0 (List.toArray [.int .i64 ggp, .int .i64 ggs, .bool ggst, .bool ggsk, .bool ggre, .bool ggfe, .bool ggag, .int .i64 ggc, .int .i64 ggl, .slice (some ⟨g1, 0, none⟩) ggan1 ggan1, .slice (some ⟨g2, 0, none⟩) ggan2 ggan2, .int .i64 ggap, .slice (some ⟨g3, 0, none⟩) ggmn ggmn, .slice (some ⟨g4, 0, none⟩) ggbn1 ggbn1, .slice (some ⟨g5, 0, none⟩) ggbn2 ggbn2, .int .i64 ggbp, .int .i64 ggrg]) rfl rfl (there17 w5 35) (by kernel_rfl) (gm_one _ _ _ _ _ _ _ _ _ _ _ _ _ _ _ _ _ _ _ _ _ _ _ _ _ _ _) ?_)
    go_meet
    have hst := below_stored w5 35 [.int .i64 ggp, .int .i64 ggs, .bool ggst, .bool ggsk, .bool ggre, .bool ggfe, .bool ggag, .int .i64 ggc, .int .i64 ggl, .slice (some ⟨g1, 0, none⟩) ggan1 ggan1, .slice (some ⟨g2, 0, none⟩) ggan2 ggan2, .int .i64 ggap, .slice (some ⟨g3, 0, none⟩) ggmn ggmn, .slice (some ⟨g4, 0, none⟩) ggbn1 ggbn1, .slice (some ⟨g5, 0, none⟩) ggbn2 ggbn2, .int .i64 ggbp, .int .i64 ggrg]
    exact ⟨_, g1, g2, g3, g4, g5, rfl, hs5, HS.out.below hst, W0.out.below hst, gm_of_rg (by rw [size_scg]; simp) (World.rangeAt_setCells_same _ _ 0 _ (there17 w5 35)), og.below hst, ⟨Nat.lt_of_lt_of_le gd.l1 hst.size, Nat.lt_of_lt_of_le gd.l2 hst.size, Nat.lt_of_lt_of_le gd.l3 hst.size, Nat.lt_of_lt_of_le gd.l4 hst.size, Nat.lt_of_lt_of_le gd.l5 hst.size, gd.n13, gd.n23, gd.n14, gd.n24, gd.n15, gd.n25, gd.n34, gd.n35⟩⟩
  case rest =>
  obtain ⟨A1, g1, g2, g3, g4, g5, rfl, hA1, hs, hr0, hga, hog, hgd⟩ := hcut
  have HS := Lib.hid hs
  have W0 := Lib.hid hr0
  have GA := Lib.hid hga
  have OG := Lib.hid hog
  have GD := Lib.hid hgd
  have GR := Lib.hid hog.r
  have hA1s := hga.1
  have hg1 := hgd.l1
  have hg2 := hgd.l2
  have hg3 := hgd.l3
  have hg4 := hgd.l4
  have hg5 := hgd.l5
  have hh1 := hog.s.o1.new
  have hh2 := hog.s.o2.new
  have hh3 := hog.m.new
  have hh4 := hog.n.o1.new
  have hh5 := hog.n.o2.new
  have hW0 := hr0.hi_le
  have hW1 := hr0.lo_le
  have hW2 := hr0.lt
  clear hs hr0 hga hog hgd hH0 hsz7
  go_upto_region 7 with fail
  go_step
  refine wpList_load_mid rfl 35 (.tmp 6) rfl A1 0 rfl _ _ (GmAt.range GA.out) Tryz.underlying35 rfl (by kernel_rfl) ?_
  simp only [Act.put, List.setIfInBounds_toArray, List.set_cons_zero, List.set_cons_succ]
  go_wp2_with fail
  refine (HIm.out (some ⟨g1, 0, none⟩) (some ⟨g2, 0, none⟩) (some ⟨g3, 0, none⟩) (some ⟨g4, 0, none⟩) (some ⟨g5, 0, none⟩) _ GR.out).mono ?_
  rintro e w7 ⟨q1, e1, qb1, q2, e2, qb2, rfl, ho, hlt1, hlt2, hc1, hc2, hb⟩
  have HO := Lib.hid ho
  have hsc := hb.size
  have HS := Lib.hid (HS.out.below hb)
  have W0 := Lib.hid (W0.out.below hb)
  have GA := Lib.hid (GA.out.below hb)
  have OG := Lib.hid (OG.out.below hb)
  have GD := Lib.hid (GD.out.below hb)
  have GR := Lib.hid (GR.out.below hb)
  clear hb ho hc1 hc2
  go_upto_region 8 with fail
  have WG := Lib.hid (wat_new 33 pl e1 e2 HO.out hlt1 hlt2 hsc)
  have HS := Lib.hid (HS.out.below (al1 w7 (.cells #[.slice q1 m1 e1, .slice q2 m2 e2, .int .i64 pl] 33)))
  have W0 := Lib.hid (W0.out.below (al1 w7 (.cells #[.slice q1 m1 e1, .slice q2 m2 e2, .int .i64 pl] 33)))
  have GA := Lib.hid (GA.out.below (al1 w7 (.cells #[.slice q1 m1 e1, .slice q2 m2 e2, .int .i64 pl] 33)))
  have OG := Lib.hid (OG.out.below (al1 w7 (.cells #[.slice q1 m1 e1, .slice q2 m2 e2, .int .i64 pl] 33)))
  have GD := Lib.hid (GD.out.below (al1 w7 (.cells #[.slice q1 m1 e1, .slice q2 m2 e2, .int .i64 pl] 33)))
  have GR := Lib.hid (GR.out.below (al1 w7 (.cells #[.slice q1 m1 e1, .slice q2 m2 e2, .int .i64 pl] 33)))
  clear HO hlt1 hlt2
  generalize w7.alloc (.cells #[.slice q1 m1 e1, .slice q2 m2 e2, .int .i64 pl] 33) = w8 at *
  obtain ⟨G0, hG0⟩ : ∃ G0, G0 = w7.heap.size := ⟨_, rfl⟩
  rw [← hG0] at WG hsc
  rw [← hG0]
  clear hG0
  obtain ⟨hd1, r10, r11, r12⟩ := W0.out.po
  obtain ⟨hd2, r20, r21, r22⟩ := WG.out.po
  go_wp2_with fail
  clear hd1 r10 r11 r12 hd2 r20 r21 r22
  refine (eqP_same _ _ _ _ _ _ _ _ _ _ _ us vs _ WG.out.o.r W0.out.o.r).mono ?_
  rintro e w9 ⟨rfl, hb⟩
  have HS := Lib.hid (HS.out.below hb)
  have W0 := Lib.hid (W0.out.below hb)
  have WG := Lib.hid (WG.out.below hb)
  have GA := Lib.hid (GA.out.below hb)
  have OG := Lib.hid (OG.out.below hb)
  have GD := Lib.hid (GD.out.below hb)
  have GR := Lib.hid (GR.out.below hb)
  clear hb
  go_upto_region 10 with fail
  refine wp_region_held_drew (S := fun u => u.rangeAt A1 0 [.int .i64 ggp, .int .i64 ggs, .bool ggst, .bool ggsk, .bool ggre, .bool ggfe, .bool ggag, .int .i64 ggc, .int .i64 ggl, .slice (some ⟨g1, 0, none⟩) ggan1 ggan1, .slice (some ⟨g2, 0, none⟩) ggan2 ggan2, .int .i64 ggap, .slice (some ⟨g3, 0, none⟩) ggmn ggmn, .slice (some ⟨g4, 0, none⟩) ggbn1 ggbn1, .slice (some ⟨g5, 0, none⟩) ggbn2 ggbn2, .int .i64 ggbp, .int .i64 ggrg] ∧ u.rangeAt w.heap.size 0 [.int .i64 ggp, .int .i64 ggs, .bool ggst, .bool ggsk, .bool ggre, .bool ggfe, .bool ggag, .int .i64 ggc, .int .i64 ggl, .slice gga1 ggan1 ggac1, .slice gga2 ggan2 ggac2, .int .i64 ggap, .slice ggm ggmn ggmc, .slice ggb1 ggbn1 ggbc1, .slice ggb2 ggbn2 ggbc2, .int .i64 ggbp, .int .i64 ggrg]) (by kernel_rfl) ⟨GmAt.range GA.out, GmAt.range HS.out.1⟩ (fun hHeld => ?_)
  have HS := Lib.hid (HS.out.below (below_dn (Below.refl _ _) 1))
  have W0 := Lib.hid (W0.out.below (below_dn (Below.refl _ _) 1))
  have WG := Lib.hid (WG.out.below (below_dn (Below.refl _ _) 1))
  have GA := Lib.hid (GA.out.below (below_dn (Below.refl _ _) 1))
  have OG := Lib.hid (OG.out.below (below_dn (Below.refl _ _) 1))
  have GD := Lib.hid (GD.out.below (below_dn (Below.refl _ _) 1))
  have GR := Lib.hid (GR.out.below (below_dn (Below.refl _ _) 1))
  refine wpAnyH_take (i := 0) rfl (by kernel_rfl) (by kernel_rfl) (by kernel_rfl) (fun _ _ _ h => h) (yieldsIf_load_mid (by rfl) 35 _ rfl A1 0 rfl [.int .i64 ggp, .int .i64 ggs, .bool ggst, .bool ggsk, .bool ggre, .bool ggfe, .bool ggag, .int .i64 ggc, .int .i64 ggl, .slice (some ⟨g1, 0, none⟩) ggan1 ggan1, .slice (some ⟨g2, 0, none⟩) ggan2 ggan2, .int .i64 ggap, .slice (some ⟨g3, 0, none⟩) ggmn ggmn, .slice (some ⟨g4, 0, none⟩) ggbn1 ggbn1, .slice (some ⟨g5, 0, none⟩) ggbn2 ggbn2, .int .i64 ggbp, .int .i64 ggrg] _ (fun u hu => hu.1) Tryz.underlying35 rfl (by kernel_rfl)) hHeld ?_
  simp only [Act.put, List.setIfInBounds_toArray]
  refine wpAnyH_take (i := 1) rfl (by kernel_rfl) (by kernel_rfl) (by kernel_rfl) (fun _ _ _ h => h) (yieldsIf_load_mid (by rfl) 28 _ rfl w.heap.size 0 rfl [.int .i64 ggp, .int .i64 ggs, .bool ggst, .bool ggsk, .bool ggre, .bool ggfe, .bool ggag, .int .i64 ggc, .int .i64 ggl, .slice gga1 ggan1 ggac1, .slice gga2 ggan2 ggac2, .int .i64 ggap, .slice ggm ggmn ggmc, .slice ggb1 ggbn1 ggbc1, .slice ggb2 ggbn2 ggbc2, .int .i64 ggbp, .int .i64 ggrg] _ (fun u hu => hu.2) Tryz.underlying28 rfl (by kernel_rfl)) hHeld ?_
  simp only [Act.put]
  refine wpAnyH_ready (rs := [2]) (by kernel_rfl) (by simp) ?_
  refine AllReadyH.cons rfl (fun K hK => ?_) AllReadyH.nil
  rw [if_pos (by rfl)]
  go_simp
  go_at_call 14
  refine (toG_any ggp ggs ggc ggl ggst ggsk ggre ggfe ggag gga1 gga2 ggan1 ggac1 ggan2 ggac2 ggap ggm ggmn ggmc ggb1 ggb2 ggbn1 ggbc1 ggbn2 ggbc2 ggbp ggrg sx sy ms nx ny _ (H1.out.below HS.out.2)).mono ?_
  rintro e u5 ⟨j1, j2, j3, j4, j5, rfl, og, -, hb⟩
  have HS := Lib.hid (HS.out.below hb)
  have W0 := Lib.hid (W0.out.below hb)
  have WG := Lib.hid (WG.out.below hb)
  have GA := Lib.hid (GA.out.below hb)
  have OG := Lib.hid (OG.out.below hb)
  have GD := Lib.hid (GD.out.below hb)
  have GR := Lib.hid (GR.out.below hb)
  have OJ := Lib.hid og.r
  clear hb og
  (try dsimp only)
  refine hK.out _ _ ⟨GmAt.range GA.out, GmAt.range HS.out.1⟩ (fun hHeld => ?_)
  clear hK K
  (try simp only [Act.put, List.setIfInBounds_toArray, List.set_cons_zero, List.set_cons_succ])
  refine wpAnyH_ready (rs := [3]) (by kernel_rfl) (by simp) ?_
  refine AllReadyH.cons rfl (fun K hK => ?_) AllReadyH.nil
  rw [if_pos (by rfl)]
  go_simp
  go_at_call 16
  refine (eqG_same ggp ggs ggc ggl ggst ggsk ggre ggfe ggag (some ⟨g1, 0, none⟩) (some ⟨g2, 0, none⟩) ggan1 ggan1 ggan2 ggan2 ggap (some ⟨g3, 0, none⟩) ggmn ggmn (some ⟨g4, 0, none⟩) (some ⟨g5, 0, none⟩) ggbn1 ggbn1 ggbn2 ggbn2 ggbp ggrg (some ⟨j1, 0, none⟩) (some ⟨j2, 0, none⟩) ggan1 ggan2 (some ⟨j3, 0, none⟩) ggmn (some ⟨j4, 0, none⟩) (some ⟨j5, 0, none⟩) ggbn1 ggbn2 sx sy ms nx ny _ GR.out OJ.out).mono ?_
  rintro e u6 ⟨rfl, hb⟩
  have HS := Lib.hid (HS.out.below hb)
  have W0 := Lib.hid (W0.out.below hb)
  have WG := Lib.hid (WG.out.below hb)
  have GA := Lib.hid (GA.out.below hb)
  have OG := Lib.hid (OG.out.below hb)
  have GD := Lib.hid (GD.out.below hb)
  have GR := Lib.hid (GR.out.below hb)
  clear hb OJ
  (try dsimp only)
  refine hK.out _ _ ⟨GmAt.range GA.out, GmAt.range HS.out.1⟩ (fun hHeld => ?_)
  clear hK K
  (try simp only [Act.put, List.setIfInBounds_toArray, List.set_cons_zero, List.set_cons_succ])
  refine wpAnyH_ready (rs := [4]) (by kernel_rfl) (by simp) ?_
  refine AllReadyH.cons rfl (fun K hK => ?_) AllReadyH.nil
  rw [if_pos (by rfl)]
  go_simp
  (try dsimp only)
  refine hK.out _ _ ⟨GmAt.range GA.out, GmAt.range HS.out.1⟩ (fun hHeld => ?_)
  clear hK K
  (try simp only [Act.put, List.setIfInBounds_toArray, List.set_cons_zero, List.set_cons_succ])
  refine wpAnyH_done (by kernel_rfl) ?_ _
  clear hHeld
  obtain ⟨MX, hMX⟩ : ∃ M : Int, M = ((1 + ggan1 + ggan2 + ggmn + ggbn1 + ggbn2 : Nat) : Int) := ⟨_, rfl⟩
  obtain ⟨MG, hMG⟩ : ∃ M : Int, M = ((1 + m1 + m2 : Nat) : Int) := ⟨_, rfl⟩
  have qx : ¬ MX < 0 := by omega
  have qg : ¬ MG < 0 := by omega
  have HMX := Lib.hid hMX
  have HMG := Lib.hid hMG
  clear hMX hMG
  go_upto_region 13 with fail
  go_step
  refine wpList_load_mid rfl 35 (.tmp 6) rfl A1 0 rfl _ _ (GmAt.range GA.out) Tryz.underlying35 rfl (by kernel_rfl) ?_
  simp only [Act.put, List.setIfInBounds_toArray, List.set_cons_zero, List.set_cons_succ]
  go_wp2_with fail
  refine (markG_any H0 g1 g2 g3 g4 g5 1 ggp ggs ggc ggl ggst ggsk ggre ggfe ggag (some ⟨g1, 0, none⟩) (some ⟨g2, 0, none⟩) ggan1 ggan1 ggan2 ggan2 ggap (some ⟨g3, 0, none⟩) ggmn ggmn (some ⟨g4, 0, none⟩) (some ⟨g5, 0, none⟩) ggbn1 ggbn1 ggbn2 ggbn2 ggbp ggrg sx sy ms nx ny _ OG.out GD.out (by have := HS.out.2.size; have := W0.out.hi_le; omega) (by omega) (by omega)).mono ?_
  rintro e w10 ⟨rfl, hbb, -⟩
  rw [← HMX.out]
  have HS := Lib.hid (HS.out.but5 hbb (by omega) (by omega) (by omega) (by omega) (by omega))
  have W0 := Lib.hid (W0.out.but5 hbb (.inl hh1) (.inl hh2) (.inl hh3) (.inl hh4) (.inl hh5))
  have WG := Lib.hid (WG.out.but5 hbb (.inr hg1) (.inr hg2) (.inr hg3) (.inr hg4) (.inr hg5))
  clear hbb GA OG GD GR
  obtain ⟨hd1, r10, r11, r12⟩ := W0.out.po
  obtain ⟨hd2, r20, r21, r22⟩ := WG.out.po
  go_wp2_with fail
  clear hd1 r10 r11 r12 hd2 r20 r21 r22
  refine (eqP_same _ _ _ _ _ _ _ _ _ _ _ us vs _ WG.out.o.r W0.out.o.r).mono ?_
  rintro e w11 ⟨rfl, hb⟩
  have HS := Lib.hid (HS.out.below hb)
  have W0 := Lib.hid (W0.out.below hb)
  have WG := Lib.hid (WG.out.below hb)
  clear hb
  obtain ⟨hd2, r20, r21, r22⟩ := WG.out.po
  go_wp2_with fail
  clear hd2 r20 r21 r22
  have hx5 := WG.out.o.o1.new
  have hx6 := WG.out.o.o2.new
  have hx7 := WG.out.lt1
  have hx8 := WG.out.lt2
  have hg9 := WG.out.hi_le
  refine (markP_any wc.heap.size qb1 qb2 _ _ m1 m2 e1 e2 1 pl us vs _ WG.out.o (by omega) ⟨by omega, by omega⟩ (by omega) hm1).mono ?_
  rintro e w12 ⟨rfl, hbb, hpo⟩
  rw [← HMG.out]
  have hv1 : w.heap.size < qb1 := by omega
  have hv2 : w.heap.size < qb2 := by omega
  have hv3 : H0 ≤ qb1 := by omega
  have hv4 : H0 ≤ qb2 := by omega
  have HS := Lib.hid (HS.out.but2 hbb hv1 hv2)
  have W0 := Lib.hid (W0.out.but2 hbb (.inl hv3) (.inl hv4))
  have WG := Lib.hid (WG.out.mark (xs := us) (ys := vs) hbb hpo)
  clear hbb hpo hx5 hx6 hx7 hx8 hg9
  obtain ⟨hd2, r20, r21, r22⟩ := WG.out.po
  go_wp2_with fail
  clear hd2 r20 r21 r22
  refine (heldP_any _ _ m1 m2 _ _ 1 pl _ WG.out.o.r (by omega) hm1).mono ?_
  rintro e w13 ⟨rfl, hb⟩
  rw [← HMG.out]
  have HS := Lib.hid (HS.out.below hb)
  have W0 := Lib.hid (W0.out.below hb)
  have WG := Lib.hid (WG.out.below hb)
  clear hb
  go_upto_region 24 with fail
  go_step
  refine wpList_load_mid rfl 28 (.tmp 1) rfl w.heap.size 0 rfl _ _ (GmAt.range HS.out.1) Tryz.underlying28 rfl (by kernel_rfl) ?_
  simp only [Act.put, List.setIfInBounds_toArray, List.set_cons_zero, List.set_cons_succ]
  go_wp2_with fail
  refine (toG_any ggp ggs ggc ggl ggst ggsk ggre ggfe ggag gga1 gga2 ggan1 ggac1 ggan2 ggac2 ggap ggm ggmn ggmc ggb1 ggb2 ggbn1 ggbc1 ggbn2 ggbc2 ggbp ggrg sx sy ms nx ny _ (H1.out.below HS.out.2)).mono ?_
  rintro e w14 ⟨j1, j2, j3, j4, j5, rfl, og, -, hb⟩
  have HS := Lib.hid (HS.out.below hb)
  have W0 := Lib.hid (W0.out.below hb)
  have WG := Lib.hid (WG.out.below hb)
  have OJ := Lib.hid og.r
  clear hb og
  go_wp2_with fail
  refine (HIm.out (some ⟨j1, 0, none⟩) (some ⟨j2, 0, none⟩) (some ⟨j3, 0, none⟩) (some ⟨j4, 0, none⟩) (some ⟨j5, 0, none⟩) _ OJ.out).mono ?_
  rintro e w15 ⟨x1, k1, xb1, x2, k2, xb2, rfl, ho, hlt1, hlt2, hc1, hc2, hb⟩
  have HO := Lib.hid ho
  have hsc9 := hb.size
  have HS := Lib.hid (HS.out.below hb)
  have W0 := Lib.hid (W0.out.below hb)
  have WG := Lib.hid (WG.out.below hb)
  clear hb ho OJ hc1 hc2
  go_upto_region 25 with fail
  have WH := Lib.hid (wat_new 33 pl k1 k2 HO.out hlt1 hlt2 hsc9)
  have HS := Lib.hid (HS.out.below (al1 w15 (.cells #[.slice x1 m1 k1, .slice x2 m2 k2, .int .i64 pl] 33)))
  have W0 := Lib.hid (W0.out.below (al1 w15 (.cells #[.slice x1 m1 k1, .slice x2 m2 k2, .int .i64 pl] 33)))
  have WG := Lib.hid (WG.out.below (al1 w15 (.cells #[.slice x1 m1 k1, .slice x2 m2 k2, .int .i64 pl] 33)))
  clear HO hlt1 hlt2 hsc9
  generalize w15.alloc (.cells #[.slice x1 m1 k1, .slice x2 m2 k2, .int .i64 pl] 33) = w16 at *
  generalize w15.heap.size = B0 at *
  obtain ⟨hd1, r10, r11, r12⟩ := W0.out.po
  obtain ⟨hd3, r30, r31, r32⟩ := WH.out.po
  go_wp2_with fail
  clear hd1 r10 r11 r12 hd3 r30 r31 r32
  refine (eqP_same _ _ _ _ _ _ _ _ _ _ _ us vs _ WH.out.o.r W0.out.o.r).mono ?_
  rintro e w17 ⟨rfl, hb⟩
  have HS := Lib.hid (HS.out.below hb)
  have WG := Lib.hid (WG.out.below hb)
  clear hb
  obtain ⟨hd2, r20, r21, r22⟩ := WG.out.po
  go_wp2_with fail
  clear hd2 r20 r21 r22
  refine (heldP_any _ _ m1 m2 _ _ 1 pl _ WG.out.o.r (by omega) hm1).mono ?_
  rintro e w18 ⟨rfl, hb⟩
  rw [← HMG.out]
  have HS := Lib.hid (HS.out.below hb)
  clear hb
  go_wp2_with fail
  go_ret
  exact ⟨rfl, HS.out.2⟩
theorem walk_FnExactFinalPosition (x : GV) {w : World} (hx : x.In w) : Calls Tryz.prog 6 #[x.val] w fun e w' => e = .returned (.bool true) ∧ Below w.heap.size w w' :=
  walk0_FnExactFinalPosition _ _ _ _ _ _ _ _ _ _ _ _ _ _ _ _ _ _ _ _ _ _ _ _ _ _ _ _ _ _ _ _ w hx.2.2.2.2
namespace fnExactFinalPosition
set_option maxHeartbeats 2000000 in
set_option maxRecDepth 100000 in
theorem lifted (os : Os) (started : os.Started) (H : Type) (enc : TypeId × Value → H) :
    ReturnsInHanded {} Tryz.checked os 6 .any (Rows.fnExactFinalPositionSpec.pre6 enc Tryz.prog Tryz.f6 Rows.fnExactFinalPositionRow.domain false) (Rows.fnExactFinalPositionSpec.post enc Tryz.prog Tryz.f6 false true false false) := by
  refine returnsInHanded_of_change (C := Tryz.checked) own started (by kernel_rfl) Tryz.func6
    (ChangeSpec.witness6 (enc := enc) (C := Tryz.checked) false ⟨#[], #[.agg #[.int .i64 0, .int .i64 0, .bool false, .bool false, .bool false, .bool false, .bool false, .int .i64 0, .int .i64 0, .slice none 0 0, .slice none 0 0, .int .i64 0, .slice none 0 0, .slice none 0 0, .slice none 0 0, .int .i64 0, .int .i64 0]], []⟩ 8 (by kernel_rfl) (by kernel_rfl) (by kernel_rfl) (by kernel_rfl)) ?_
  intro W base args ds gs before hval0 hW hcnd _
  have hval : ∀ (j : Nat) t v, Tryz.f6.params[j]? = some t → args[j]? = some v → Value.okWide Tryz.prog W .any base t v := hval0
  have hW' := hW
  obtain ⟨p, q, hA0, hV, rfl, hfz, hnd⟩ := hW
  have hA : DataW.TrodAll enc Tryz.prog W 0 (fun _ => true) true Tryz.f6.params.toList args.toList ds p := hA0
  rw [Tryz.params6] at hA hval
  obtain ⟨v0, vs0, d0, ds0, p0, q0, hargs, rfl, rfl, h0, r0⟩ := trodAll_cons hA
  obtain ⟨rfl, rfl, rfl⟩ := trodAll_nil r0
  obtain rfl : args = #[v0] := by cases args; simp_all
  obtain ⟨rfl, rfl⟩ := trodVars_none hV
  have k0 := h0
  have lt0 : ∀ x ∈ p0, x.block < W.heap.size := by obtain ⟨m, hm⟩ := k0; exact DataW.trod_lt m _ _ _ hm
  obtain ⟨x0, rfl, w0⟩ := open_game Tryz.underlying28 Tryz.underlying23 Tryz.underlying26 Tryz.underlying24 Tryz.underlying2 Tryz.underlying4 (by kernel_rfl) (by kernel_rfl) (by kernel_rfl) (by kernel_rfl) (by kernel_rfl) (hval 0 28 v0 rfl rfl) h0
  clear hA0 hval0
  refine (walk_FnExactFinalPosition x0 w0 (w := W)).mono fun e W' ⟨he, bel⟩ => ?_
  subst he
  exact ⟨_, rfl, _, _, _, [], _, [], hW', trodAll_mk1 (shut_bool Tryz.underlying4 _), (trodAll_cons_mk (Below.trod laidOut (by kernel_rfl) (of_decide_eq_true (by kernel_rfl)) k0 bel lt0) trodAll_mk0), rfl, bel.frame _, fun h => by cases h⟩

theorem proved : Rows.FnExactFinalPositionSaid :=
  OpenClaim.holds_of_wide 6 Tryz.f6 rfl rfl rfl rfl rfl rfl rfl ⟨rfl, rfl, rfl, rfl, rfl⟩ rfl rfl rfl rfl rfl (by kernel_rfl) Tryz.func6 (by kernel_rfl)
    (of_decide_eq_true (by kernel_rfl)) (by unfold Func.isWrapper; first | (rw [if_pos (by decide +kernel)]; kernel_rfl) | (rw [if_neg (by decide +kernel)]; exact ⟨rfl, rfl⟩))
    (fun os started H enc _ => lifted os started H enc)
end fnExactFinalPosition

end Go.Proofs.YtgbaneildbdgdaaGreat
