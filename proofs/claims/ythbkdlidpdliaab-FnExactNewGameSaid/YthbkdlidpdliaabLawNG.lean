/- The law on NewGame. No conditions. -/
import Derived.Test.YthbkdlidpdliaabGame8
namespace Go.Proofs.Ythbkdlidpdliaab
open Go.Joins Go.ChangeShapes Go.WideShapes Go.ChangeAt Go.RowKit Go.Deep
set_option linter.unusedVariables false

/-- A game that NewGame gives, and a code: the reference's. -/
def NgS (xp xs xc xl : Int) (xst xsk xre xfe xag : Bool) (n1 n2 : Nat) (rg cd : Int) (ps qs : List Int) (w : World) (e : Ending) (w' : World) : Prop :=
  ∃ (a1 a2 a4 a5 : Option Addr) (ac1 ac2 ac4 ac5 : Nat), e = .returned (.tuple #[.agg #[.int .i64 xp, .int .i64 xs, .bool xst, .bool xsk, .bool xre, .bool xfe, .bool xag, .int .i64 xc, .int .i64 xl, .slice a1 n1 ac1, .slice a2 n2 ac2, .int .i64 0, .slice none 0 0, .slice a4 n1 ac4, .slice a5 n2 ac5, .int .i64 0, .int .i64 rg], .int .i64 cd]) ∧ GamR w' a1 a2 n1 n2 none 0 a4 a5 n1 n2 ps qs [] ps qs ∧ Below w.heap.size w w'
/-- .. and the program's: in blocks of the call's own, all different. -/
def NgO (xp xs xc xl : Int) (xst xsk xre xfe xag : Bool) (n1 n2 : Nat) (rg cd : Int) (ps qs : List Int) (w : World) (e : Ending) (w' : World) : Prop :=
  ∃ (a1 a2 a4 a5 : Option Addr) (ac1 ac2 ac4 ac5 : Nat) (k1 k2 k3 k4 k5 : Nat), e = .returned (.tuple #[.agg #[.int .i64 xp, .int .i64 xs, .bool xst, .bool xsk, .bool xre, .bool xfe, .bool xag, .int .i64 xc, .int .i64 xl, .slice a1 n1 ac1, .slice a2 n2 ac2, .int .i64 0, .slice none 0 0, .slice a4 n1 ac4, .slice a5 n2 ac5, .int .i64 0, .int .i64 rg], .int .i64 cd]) ∧ GamO w' w.heap.size a1 a2 k1 k2 n1 n2 none k3 0 a4 a5 k4 k5 n1 n2 ps qs [] ps qs ∧ GamD w' k1 k2 k3 k4 k5 ∧ Below w.heap.size w w'
theorem outN_none (w : World) (B b : Nat) (h : B ≤ b) : OutN w B none b [] := ⟨rowN_nil _ _, (fun _ _ h => nomatch h), h, fun h => absurd rfl h⟩
theorem newng_ex (p s c l : Int) (st sk re fe ag : Bool) : ∃ (xp xs xc xl : Int) (xst xsk xre xfe xag : Bool) (n1 n2 : Nat) (rg cd : Int) (ps qs : List Int), (n1 ≤ 16 ∧ n2 ≤ 2) ∧ (∀ w, Calls Try.prog 16 #[.agg #[.int .i64 p, .int .i64 s, .bool st, .bool sk, .bool re, .bool fe, .bool ag, .int .i64 c, .int .i64 l]] w (NgS xp xs xc xl xst xsk xre xfe xag n1 n2 rg cd ps qs w)) ∧ (∀ w, Calls Try.prog 18 #[.agg #[.int .i64 p, .int .i64 s, .bool st, .bool sk, .bool re, .bool fe, .bool ag, .int .i64 c, .int .i64 l]] w (NgO xp xs xc xl xst xsk xre xfe xag n1 n2 rg cd ps qs w)) := by
  cases hk : okR p s c l st ag
  · refine ⟨0, 0, 0, 0, false, false, false, false, false, 0, 0, 0, 1, [], [], ⟨by omega, by omega⟩, fun w => ?_, fun w => ?_⟩
    · refine (specNG_no p s c l st sk re fe ag w hk).mono ?_
      rintro e w' ⟨rfl, hb⟩
      exact ⟨none, none, none, none, 0, 0, 0, 0, rfl, ⟨⟨rowN_nil _ _, rowN_nil _ _, rfl, rfl⟩, rowN_nil _ _, rfl, ⟨rowN_nil _ _, rowN_nil _ _, rfl, rfl⟩⟩, hb⟩
    · refine (implNG_no p s c l st sk re fe ag w hk).mono ?_
      rintro e w' ⟨⟨rfl, hb⟩, hs⟩
      exact ⟨none, none, none, none, 0, 0, 0, 0, w.heap.size, w.heap.size + 1, w.heap.size + 2, w.heap.size + 3, w.heap.size + 4, rfl, ⟨⟨outN_none _ _ _ (by omega), outN_none _ _ _ (by omega), by omega, rfl, rfl⟩, outN_none _ _ _ (by omega), rfl, ⟨outN_none _ _ _ (by omega), outN_none _ _ _ (by omega), by omega, rfl, rfl⟩⟩, ⟨by omega, by omega, by omega, by omega, by omega, by omega, by omega, by omega, by omega, by omega, by omega, by omega, by omega⟩, hb⟩
  · obtain ⟨hp1, hp2, -⟩ := okR_bd hk
    obtain ⟨P, rfl⟩ : ∃ P : Nat, p = (P : Int) := ⟨p.toNat, by omega⟩
    refine ⟨(P : Int), s, c, l, st, sk, re, fe, ag, 2 * P, 2, -1, 0, List.replicate (2 * P) s, [0, 0], ⟨by omega, by omega⟩, fun w => ?_, fun w => ?_⟩
    · refine (specNG_yes P s c l st sk re fe ag w (by omega) (by omega) hk).mono ?_
      rintro e w' ⟨g1, c1, g2, c2, g4, c4, g5, c5, rfl, hn, -⟩
      exact ⟨_, _, _, _, _, _, _, _, rfl, ⟨hn.s.r, rowN_nil _ _, rfl, hn.n.r⟩, hn.be⟩
    · refine (implNG_yes P s c l st sk re fe ag w (by omega) (by omega) hk).mono ?_
      rintro e w' ⟨g1, c1, g2, c2, g4, c4, g5, c5, rfl, hn, hg⟩
      have l1 := hn.l1
      have l2 := hn.l2
      have l4 := hn.l4
      have l5 := hn.l5
      have m1 := hn.n14
      have m2 := hn.n15
      have m3 := hn.n24
      have m4 := hn.n25
      exact ⟨_, _, _, _, _, _, _, _, g1, g2, w.heap.size, g4, g5, rfl, ⟨hn.s, outN_none _ _ _ (Nat.le_refl _), rfl, hn.n⟩, ⟨by omega, by omega, by omega, by omega, by omega, by omega, by omega, by omega, by omega, by omega, by omega, by omega, by omega⟩, hn.be⟩
/-- The reference's game in a block. -/
def NgA (u : World) (A : Nat) (xp xs xc xl : Int) (xst xsk xre xfe xag : Bool) (n1 n2 : Nat) (rg cd : Int) (ps qs : List Int) : Prop := ∃ (a1 a2 a4 a5 : Option Addr) (ac1 ac2 ac4 ac5 : Nat), GmAt u A xp xs xc xl xst xsk xre xfe xag a1 a2 n1 ac1 n2 ac2 0 none 0 0 a4 a5 n1 ac4 n2 ac5 0 rg ∧ GamR u a1 a2 n1 n2 none 0 a4 a5 n1 n2 ps qs [] ps qs
theorem NgA.below {u v : World} {A : Nat} {xp xs xc xl : Int} {xst xsk xre xfe xag : Bool} {n1 n2 : Nat} {rg cd : Int} {ps qs : List Int} (h : NgA u A xp xs xc xl xst xsk xre xfe xag n1 n2 rg cd ps qs) (k : Below u.heap.size u v) : NgA v A xp xs xc xl xst xsk xre xfe xag n1 n2 rg cd ps qs := by
  obtain ⟨a1, a2, a4, a5, ac1, ac2, ac4, ac5, h1, h2⟩ := h
  exact ⟨_, _, _, _, _, _, _, _, h1.below k, h2.below k⟩
theorem gm_stored (ggp ggs ggc ggl : Int) (ggst ggsk ggre ggfe ggag : Bool) (gga1 gga2 : Option Addr) (ggan1 ggac1 ggan2 ggac2 : Nat) (ggap : Int) (ggm : Option Addr) (ggmn ggmc : Nat) (ggb1 ggb2 : Option Addr) (ggbn1 ggbc1 ggbn2 ggbc2 : Nat) (ggbp ggrg : Int) (v : World) (T : TypeId) : GmAt ((v.alloc (.cells #[.int .i64 0, .int .i64 0, .bool false, .bool false, .bool false, .bool false, .bool false, .int .i64 0, .int .i64 0, .slice none 0 0, .slice none 0 0, .int .i64 0, .slice none 0 0, .slice none 0 0, .slice none 0 0, .int .i64 0, .int .i64 0] T)).setCells v.heap.size 0 [.int .i64 ggp, .int .i64 ggs, .bool ggst, .bool ggsk, .bool ggre, .bool ggfe, .bool ggag, .int .i64 ggc, .int .i64 ggl, .slice gga1 ggan1 ggac1, .slice gga2 ggan2 ggac2, .int .i64 ggap, .slice ggm ggmn ggmc, .slice ggb1 ggbn1 ggbc1, .slice ggb2 ggbn2 ggbc2, .int .i64 ggbp, .int .i64 ggrg]) v.heap.size ggp ggs ggc ggl ggst ggsk ggre ggfe ggag gga1 gga2 ggan1 ggac1 ggan2 ggac2 ggap ggm ggmn ggmc ggb1 ggb2 ggbn1 ggbc1 ggbn2 ggbc2 ggbp ggrg :=
  gm_of_rg (by rw [size_scg]; simp) (World.rangeAt_setCells_same _ _ 0 _ (there17 v T))
theorem GamD.below {u v : World} {k1 k2 k3 k4 k5 : Nat} (h : GamD u k1 k2 k3 k4 k5) (k : u.heap.size ≤ v.heap.size) : GamD v k1 k2 k3 k4 k5 :=
  ⟨Nat.lt_of_lt_of_le h.l1 k, Nat.lt_of_lt_of_le h.l2 k, Nat.lt_of_lt_of_le h.l3 k, Nat.lt_of_lt_of_le h.l4 k, Nat.lt_of_lt_of_le h.l5 k, h.n13, h.n23, h.n14, h.n24, h.n15, h.n25, h.n34, h.n35⟩
set_option maxHeartbeats 8000000 in
set_option maxRecDepth 100000 in
theorem walk0_FnExactNewGame (p s c l : Int) (st sk re fe ag : Bool) (w : World) : Calls Try.prog 5 #[.agg #[.int .i64 p, .int .i64 s, .bool st, .bool sk, .bool re, .bool fe, .bool ag, .int .i64 c, .int .i64 l]] w fun e w' => e = .returned (.bool true) ∧ Below w.heap.size w w' := by
  obtain ⟨xp, xs, xc, xl, xst, xsk, xre, xfe, xag, n1, n2, rg, cd, ps, qs, hn, hs, hi⟩ := newng_ex p s c l st sk re fe ag
  have Hn := Lib.hid hn
  have Hs := Lib.hid hs
  have Hi := Lib.hid hi
  have HR := Lib.hid (ro_new p s c l st sk re fe ag w 23)
  clear hn hs hi
  go_enter Try.func5, Try.ntmps5
  go_upto_region 1 with fail
  go_cut [3, 4] (fun s3 s4 wx => ∃ A : Nat, s3 = .pointer (some ⟨A, 0, none⟩) ∧ s4 = .int .i64 cd ∧ (RuAt wx w.heap.size p s c l st sk re fe ag ∧ Below w.heap.size w wx) ∧ NgA wx A xp xs xc xl xst xsk xre xfe xag n1 n2 rg cd ps qs)
  case first =>
    obtain ⟨_, d0, d1, d2, d3, d4, d5, d6, d7, d8⟩ := HR.out.1
    go_wp2_with fail
    refine (toRules_any p s c l st sk re fe ag _).mono ?_
    rintro e w5 ⟨rfl, hb⟩
    have HR := Lib.hid (And.intro (HR.out.1.below hb) (HR.out.2.trans (hb.mono HR.out.2.size)))
    clear hb d0 d1 d2 d3 d4 d5 d6 d7 d8
    go_wp2_with fail
    refine (Hs.out _).mono ?_
    rintro e w6 ⟨a1, a2, a4, a5, ac1, ac2, ac4, ac5, rfl, hr, hb⟩
    have HR := Lib.hid (And.intro (HR.out.1.below hb) (HR.out.2.trans (hb.mono HR.out.2.size)))
    clear hb
    go_wp2_with (refine wpList_store_mid rfl 34 _ _ rfl w6.heap.size 0 (List.toArray [.int .i64 xp, .int .i64 xs, .bool xst, .bool xsk, .bool xre, .bool xfe, .bool xag, .int .i64 xc, .int .i64 xl, .slice a1 n1 ac1, .slice a2 n2 ac2, .int .i64 0, .slice none 0 0, .slice a4 n1 ac4, .slice a5 n2 ac5, .int .i64 0, .int .i64 rg]) rfl rfl (there17 w6 34) (by kernel_rfl) (gm_one _ _ _ _ _ _ _ _ _ _ _ _ _ _ _ _ _ _ _ _ _ _ _ _ _ _ _) ?_)
    go_meet
    exact ⟨_, rfl, rfl, ⟨HR.out.1.below (below_stored w6 34 _), HR.out.2.trans ((below_stored w6 34 _).mono HR.out.2.size)⟩, _, _, _, _, _, _, _, _, gm_stored xp xs xc xl xst xsk xre xfe xag a1 a2 n1 ac1 n2 ac2 0 none 0 0 a4 a5 n1 ac4 n2 ac5 0 rg w6 34, hr.below (below_stored w6 34 _)⟩
  obtain ⟨A, rfl, rfl, hr, ha⟩ := hcut
  have HR := Lib.hid hr
  have NA := Lib.hid ha
  clear hr ha
  go_upto_region 2 with fail
  obtain ⟨w1, hw1⟩ : ∃ x, x = wc := ⟨_, rfl⟩
  subst hw1
  have HB := Lib.hid (Below.refl w1.heap.size w1)
  go_cut [5, 6] (fun s5 s6 wx => ∃ C : Nat, s5 = .pointer (some ⟨C, 0, none⟩) ∧ s6 = .int .i64 cd ∧ Below w1.heap.size w1 wx ∧ (∃ (W0 : Nat) (b1 b2 b4 b5 : Option Addr) (bc1 bc2 bc4 bc5 : Nat) (k1 k2 k3 k4 k5 : Nat), w1.heap.size ≤ W0 ∧ GmAt wx C xp xs xc xl xst xsk xre xfe xag b1 b2 n1 bc1 n2 bc2 0 none 0 0 b4 b5 n1 bc4 n2 bc5 0 rg ∧ GamO wx W0 b1 b2 k1 k2 n1 n2 none k3 0 b4 b5 k4 k5 n1 n2 ps qs [] ps qs ∧ GamD wx k1 k2 k3 k4 k5 ∧ (C ≠ k1 ∧ C ≠ k2 ∧ C ≠ k3 ∧ C ≠ k4 ∧ C ≠ k5)))
  case first =>
    obtain ⟨_, d0, d1, d2, d3, d4, d5, d6, d7, d8⟩ := HR.out.1.below HB.out
    go_wp2_with fail
    refine (toRules_any p s c l st sk re fe ag _).mono ?_
    rintro e w5 ⟨rfl, hb⟩
    have HB := Lib.hid (HB.out.trans (hb.mono HB.out.size))
    clear hb d0 d1 d2 d3 d4 d5 d6 d7 d8
    go_wp2_with fail
    refine (Hi.out _).mono ?_
    rintro e w6 ⟨a1, a2, a4, a5, ac1, ac2, ac4, ac5, k1, k2, k3, k4, k5, rfl, ho, hd, hb⟩
    have hs5 := HB.out.size
    have HB := Lib.hid (HB.out.trans (hb.mono HB.out.size))
    have HO := Lib.hid ho
    have HD := Lib.hid hd
    clear hb ho hd
    go_wp2_with (refine wpList_store_mid rfl 34 _ _ rfl w6.heap.size 0 (List.toArray [.int .i64 xp, .int .i64 xs, .bool xst, .bool xsk, .bool xre, .bool xfe, .bool xag, .int .i64 xc, .int .i64 xl, .slice a1 n1 ac1, .slice a2 n2 ac2, .int .i64 0, .slice none 0 0, .slice a4 n1 ac4, .slice a5 n2 ac5, .int .i64 0, .int .i64 rg]) rfl rfl (there17 w6 34) (by kernel_rfl) (gm_one _ _ _ _ _ _ _ _ _ _ _ _ _ _ _ _ _ _ _ _ _ _ _ _ _ _ _) ?_)
    go_meet
    exact ⟨_, rfl, rfl, HB.out.trans ((below_stored w6 34 _).mono HB.out.size), w5.heap.size, _, _, _, _, _, _, _, _, k1, k2, k3, k4, k5, hs5, gm_stored xp xs xc xl xst xsk xre xfe xag a1 a2 n1 ac1 n2 ac2 0 none 0 0 a4 a5 n1 ac4 n2 ac5 0 rg w6 34, HO.out.below (below_stored w6 34 _), HD.out.below (below_stored w6 34 _).size, by have := HD.out.l1; omega, by have := HD.out.l2; omega, by have := HD.out.l3; omega, by have := HD.out.l4; omega, by have := HD.out.l5; omega⟩
  obtain ⟨C, rfl, rfl, hb, W0, b1, b2, b4, b5, bc1, bc2, bc4, bc5, k1, k2, k3, k4, k5, hW, gc, go, gd, hc⟩ := hcut
  have HB := Lib.hid hb
  have GC := Lib.hid gc
  have GO := Lib.hid go
  have GD := Lib.hid gd
  have HC := Lib.hid hc
  obtain ⟨a1, a2, a4, a5, ac1, ac2, ac4, ac5, hA, hAR⟩ := NA.out
  have A0 := Lib.hid hA
  have AR := Lib.hid hAR
  have KW := Lib.hid (show (w1.heap.size ≤ k1 ∧ w1.heap.size ≤ k2 ∧ w1.heap.size ≤ k3 ∧ w1.heap.size ≤ k4 ∧ w1.heap.size ≤ k5) from ⟨Nat.le_trans hW go.s.o1.new, Nat.le_trans hW go.s.o2.new, Nat.le_trans hW go.m.new, Nat.le_trans hW go.n.o1.new, Nat.le_trans hW go.n.o2.new⟩)
  have hn := Hn.out
  clear hb gc go gd hc hA hAR hW
  obtain ⟨M, hM⟩ : ∃ M : Int, M = ((1 + n1 + n2 + 0 + n1 + n2 : Nat) : Int) := ⟨_, rfl⟩
  have qM : ¬ M < 0 := by omega
  have HM := Lib.hid hM
  clear hM
  go_upto_region 3 with fail
  go_step
  refine wpList_load_mid rfl 34 (.tmp 5) rfl C 0 rfl _ _ (GmAt.range GC.out) Try.underlying34 rfl (by kernel_rfl) ?_
  simp only [Act.put, List.setIfInBounds_toArray, List.set_cons_zero, List.set_cons_succ]
  refine wpList_load_mid rfl 34 (.tmp 3) rfl A 0 rfl _ _ (GmAt.range (A0.out.below HB.out)) Try.underlying34 rfl (by kernel_rfl) ?_
  simp only [Act.put, List.setIfInBounds_toArray, List.set_cons_zero, List.set_cons_succ]
  go_wp2_with fail
  refine (eqG_same xp xs xc xl xst xsk xre xfe xag b1 b2 n1 bc1 n2 bc2 0 none 0 0 b4 b5 n1 bc4 n2 bc5 0 rg a1 a2 ac1 ac2 none 0 a4 a5 ac4 ac5 ps qs [] ps qs _ GO.out.r (AR.out.below HB.out)).mono ?_
  rintro e w7 ⟨rfl, hb⟩
  have HB := Lib.hid (HB.out.trans (hb.mono HB.out.size))
  have GC := Lib.hid (GC.out.below hb)
  have GO := Lib.hid (GO.out.below hb)
  have GD := Lib.hid (GD.out.below hb.size)
  clear hb
  go_upto_region 6 with fail
  go_step
  refine wpList_load_mid rfl 34 (.tmp 5) rfl C 0 rfl _ _ (GmAt.range GC.out) Try.underlying34 rfl (by kernel_rfl) ?_
  simp only [Act.put, List.setIfInBounds_toArray, List.set_cons_zero, List.set_cons_succ]
  go_wp2_with fail
  refine (markG_any W0 k1 k2 k3 k4 k5 1 xp xs xc xl xst xsk xre xfe xag b1 b2 n1 bc1 n2 bc2 0 none 0 0 b4 b5 n1 bc4 n2 bc5 0 rg ps qs [] ps qs _ GO.out GD.out (by have := GO.out.s.o1.new; have := GD.out.l1; omega) (by omega) (by omega)).mono ?_
  rintro e w8 ⟨rfl, hb, go⟩
  rw [← HM.out]
  have HB := Lib.hid (HB.out.trans (hb.below HB.out.size KW.out.1 KW.out.2.1 KW.out.2.2.1 KW.out.2.2.2.1 KW.out.2.2.2.2))
  have GC := Lib.hid (GC.out.but5 hb HC.out.1 HC.out.2.1 HC.out.2.2.1 HC.out.2.2.2.1 HC.out.2.2.2.2)
  have GO := Lib.hid go
  have GD := Lib.hid (GD.out.below hb.size)
  clear hb go
  go_upto_region 8 with fail
  go_step
  refine wpList_load_mid rfl 34 (.tmp 5) rfl C 0 rfl _ _ (GmAt.range GC.out) Try.underlying34 rfl (by kernel_rfl) ?_
  simp only [Act.put, List.setIfInBounds_toArray, List.set_cons_zero, List.set_cons_succ]
  go_wp2_with fail
  refine (heldG_any 1 xp xs xc xl xst xsk xre xfe xag b1 b2 n1 bc1 n2 bc2 0 none 0 0 b4 b5 n1 bc4 n2 bc5 0 rg _ GO.out.r (by omega) (by omega)).mono ?_
  rintro e w9 ⟨rfl, hb⟩
  rw [← HM.out]
  have HB := Lib.hid (HB.out.trans (hb.mono HB.out.size))
  have GC := Lib.hid (GC.out.below hb)
  have GO := Lib.hid (GO.out.below hb)
  have GD := Lib.hid (GD.out.below hb.size)
  clear hb
  go_upto_region 13 with fail
  go_cut [9, 10] (fun s9 s10 wx => ∃ E : Nat, s9 = .pointer (some ⟨E, 0, none⟩) ∧ s10 = .int .i64 cd ∧ Below w9.heap.size w9 wx ∧ NgA wx E xp xs xc xl xst xsk xre xfe xag n1 n2 rg cd ps qs)
  case first =>
    have HQ := Lib.hid (Below.refl w9.heap.size w9)
    obtain ⟨_, d0, d1, d2, d3, d4, d5, d6, d7, d8⟩ := HR.out.1.below HB.out
    go_wp2_with fail
    refine (toRules_any p s c l st sk re fe ag _).mono ?_
    rintro e w5 ⟨rfl, hb⟩
    have HB := Lib.hid (HB.out.trans (hb.mono HB.out.size))
    have HQ := Lib.hid (HQ.out.trans (hb.mono HQ.out.size))
    clear hb d0 d1 d2 d3 d4 d5 d6 d7 d8
    go_wp2_with fail
    refine (Hi.out _).mono ?_
    rintro e w6 ⟨a1, a2, a4, a5, ac1, ac2, ac4, ac5, j1, j2, j3, j4, j5, rfl, ho, hd, hb⟩
    have HQ := Lib.hid (HQ.out.trans (hb.mono HQ.out.size))
    have HO := Lib.hid ho.r
    clear hb ho hd
    go_wp2_with (refine wpList_store_mid rfl 34 _ _ rfl w6.heap.size 0 (List.toArray [.int .i64 xp, .int .i64 xs, .bool xst, .bool xsk, .bool xre, .bool xfe, .bool xag, .int .i64 xc, .int .i64 xl, .slice a1 n1 ac1, .slice a2 n2 ac2, .int .i64 0, .slice none 0 0, .slice a4 n1 ac4, .slice a5 n2 ac5, .int .i64 0, .int .i64 rg]) rfl rfl (there17 w6 34) (by kernel_rfl) (gm_one _ _ _ _ _ _ _ _ _ _ _ _ _ _ _ _ _ _ _ _ _ _ _ _ _ _ _) ?_)
    go_meet
    exact ⟨_, rfl, rfl, HQ.out.trans ((below_stored w6 34 _).mono HQ.out.size), _, _, _, _, _, _, _, _, gm_stored xp xs xc xl xst xsk xre xfe xag a1 a2 n1 ac1 n2 ac2 0 none 0 0 a4 a5 n1 ac4 n2 ac5 0 rg w6 34, HO.out.below (below_stored w6 34 _)⟩
  obtain ⟨E, rfl, rfl, hb, e1, e2, e4, e5, ec1, ec2, ec4, ec5, hE, hER⟩ := hcut
  have E0 := Lib.hid hE
  have ER := Lib.hid hER
  have HB := Lib.hid (HB.out.trans (hb.mono HB.out.size))
  have GC := Lib.hid (GC.out.below hb)
  have GO := Lib.hid (GO.out.below hb)
  have GD := Lib.hid (GD.out.below hb.size)
  clear hb hE hER
  go_upto_region 14 with fail
  go_step
  refine wpList_load_mid rfl 34 (.tmp 9) rfl E 0 rfl _ _ (GmAt.range E0.out) Try.underlying34 rfl (by kernel_rfl) ?_
  simp only [Act.put, List.setIfInBounds_toArray, List.set_cons_zero, List.set_cons_succ]
  refine wpList_load_mid rfl 34 (.tmp 3) rfl A 0 rfl _ _ (GmAt.range (A0.out.below HB.out)) Try.underlying34 rfl (by kernel_rfl) ?_
  simp only [Act.put, List.setIfInBounds_toArray, List.set_cons_zero, List.set_cons_succ]
  go_wp2_with fail
  refine (eqG_same xp xs xc xl xst xsk xre xfe xag e1 e2 n1 ec1 n2 ec2 0 none 0 0 e4 e5 n1 ec4 n2 ec5 0 rg a1 a2 ac1 ac2 none 0 a4 a5 ac4 ac5 ps qs [] ps qs _ ER.out (AR.out.below HB.out)).mono ?_
  rintro e w10 ⟨rfl, hb⟩
  have HB := Lib.hid (HB.out.trans (hb.mono HB.out.size))
  have GC := Lib.hid (GC.out.below hb)
  have GO := Lib.hid (GO.out.below hb)
  have GD := Lib.hid (GD.out.below hb.size)
  clear hb E0 ER
  go_upto_region 17 with fail
  go_step
  refine wpList_load_mid rfl 34 (.tmp 5) rfl C 0 rfl _ _ (GmAt.range GC.out) Try.underlying34 rfl (by kernel_rfl) ?_
  simp only [Act.put, List.setIfInBounds_toArray, List.set_cons_zero, List.set_cons_succ]
  go_wp2_with fail
  refine (heldG_any 1 xp xs xc xl xst xsk xre xfe xag b1 b2 n1 bc1 n2 bc2 0 none 0 0 b4 b5 n1 bc4 n2 bc5 0 rg _ GO.out.r (by omega) (by omega)).mono ?_
  rintro e w11 ⟨rfl, hb⟩
  rw [← HM.out]
  have HB := Lib.hid (HB.out.trans (hb.mono HB.out.size))
  have GC := Lib.hid (GC.out.below hb)
  have GO := Lib.hid (GO.out.below hb)
  have GD := Lib.hid (GD.out.below hb.size)
  clear hb
  go_wp2_with fail
  go_ret
  exact ⟨rfl, HR.out.2.trans (HB.out.mono HR.out.2.size)⟩
theorem walk_FnExactNewGame (x : RV) (hx : x.Fit) {w : World} : Calls Try.prog 5 #[x.val] w fun e w' => e = .returned (.bool true) ∧ Below w.heap.size w w' :=
  walk0_FnExactNewGame _ _ _ _ _ _ _ _ _ w
namespace fnExactNewGame
set_option maxHeartbeats 2000000 in
set_option maxRecDepth 100000 in
theorem lifted (os : Os) (started : os.Started) (H : Type) (enc : TypeId × Value → H) :
    ReturnsInHanded {} Try.checked os 5 .any (Rows.fnExactNewGameSpec.pre6 enc Try.prog Try.f5 Rows.fnExactNewGameRow.domain false) (Rows.fnExactNewGameSpec.post enc Try.prog Try.f5 false true false false) := by
  refine returnsInHanded_of_change (C := Try.checked) own started (by kernel_rfl) Try.func5
    (ChangeSpec.witness6 (enc := enc) (C := Try.checked) false ⟨#[], #[.agg #[.int .i64 0, .int .i64 0, .bool false, .bool false, .bool false, .bool false, .bool false, .int .i64 0, .int .i64 0]], []⟩ 8 (by kernel_rfl) (by kernel_rfl) (by kernel_rfl) (by kernel_rfl)) ?_
  intro W base args ds gs before hval0 hW hcnd _
  have hval : ∀ (j : Nat) t v, Try.f5.params[j]? = some t → args[j]? = some v → Value.okWide Try.prog W .any base t v := hval0
  have hW' := hW
  obtain ⟨p, q, hA0, hV, rfl, hfz, hnd⟩ := hW
  have hA : DataW.TrodAll enc Try.prog W 0 (fun _ => true) true Try.f5.params.toList args.toList ds p := hA0
  rw [Try.params5] at hA hval
  obtain ⟨v0, vs0, d0, ds0, p0, q0, hargs, rfl, rfl, h0, r0⟩ := trodAll_cons hA
  obtain ⟨rfl, rfl, rfl⟩ := trodAll_nil r0
  obtain rfl : args = #[v0] := by cases args; simp_all
  obtain ⟨rfl, rfl⟩ := trodVars_none hV
  have k0 := h0
  have lt0 : ∀ x ∈ p0, x.block < W.heap.size := by obtain ⟨m, hm⟩ := k0; exact DataW.trod_lt m _ _ _ hm
  obtain ⟨x0, rfl, w0⟩ := open_rules Try.underlying23 Try.underlying2 Try.underlying4 (by kernel_rfl) (by kernel_rfl) (hval 0 23 v0 rfl rfl) h0
  clear hA0 hval0
  refine (walk_FnExactNewGame x0 w0 (w := W)).mono fun e W' ⟨he, bel⟩ => ?_
  subst he
  exact ⟨_, rfl, _, _, _, [], _, [], hW', trodAll_mk1 (shut_bool Try.underlying4 _), (trodAll_cons_mk (Below.trod laidOut (by kernel_rfl) (of_decide_eq_true (by kernel_rfl)) k0 bel lt0) trodAll_mk0), rfl, bel.frame _, fun h => by cases h⟩

theorem proved : Rows.FnExactNewGameSaid :=
  OpenClaim.holds_of_wide 5 Try.f5 rfl rfl rfl rfl rfl rfl rfl ⟨rfl, rfl, rfl, rfl, rfl⟩ rfl rfl rfl rfl rfl (by kernel_rfl) Try.func5 (by kernel_rfl)
    (of_decide_eq_true (by kernel_rfl)) (by unfold Func.isWrapper; first | (rw [if_pos (by decide +kernel)]; kernel_rfl) | (rw [if_neg (by decide +kernel)]; exact ⟨rfl, rfl⟩))
    (fun os started H enc _ => lifted os started H enc)
end fnExactNewGame

end Go.Proofs.Ythbkdlidpdliaab
