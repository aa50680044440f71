/- AllSeeds of both sides. No conditions. -/
import Derived.Test.YtcgckpnkmmjljaaSs2
import Derived.Test.YtcgckpnkmmjljaaNx2
import Derived.Lib.JoinLaws
namespace Go.Proofs.Ytcgckpnkmmjljaa
open Go.Joins Go.ChangeShapes Go.WideShapes Go.ChangeAt Go.RowKit Go.Deep
set_option linter.unusedVariables false

theorem cell_sng (u : World) (x : Value) (T : TypeId) : ∀ j y, [x][j]? = some y → (u.alloc (.cells #[x] T)).cell? ((⟨u.heap.size, 0, none⟩ : Addr).add j) = some y := by
  intro j y hj
  match j, hj with
  | 0, hj =>
    cases hj
    have e : ((⟨u.heap.size, 0, none⟩ : Addr).add 0) = ⟨u.heap.size, 0, none⟩ := by simp [Addr.add]
    rw [e, World.cell?_alloc_new]
    rfl
/-- All distributions of seeds in pits, and a code. -/
def AlP (cd : Int) (p n : Nat) (L : Nat → List Int) (w : World) (e : Ending) (w' : World) : Prop :=
  ∃ v G C, e = .returned (.tuple #[v, .int .i64 cd]) ∧ Gr w' w.heap.size v p n G C L ∧ Below w.heap.size w w'
theorem alp_nil (cd : Int) (p : Nat) (L : Nat → List Int) (w w' : World) (h : Below w.heap.size w w') : AlP cd p 0 L w (.returned (.tuple #[.slice none 0 0, .int .i64 cd])) w' :=
  ⟨_, id, id, rfl, Gr.nil _ _ _ _ _ _, h⟩
theorem unr_ok {S P i : Nat} (hS : S ≤ 96) (hP : P ≤ 15) (hf : cnt S (P + 1) ≤ 1000000000000000) (hi : i < cnt S (P + 1)) : DisOk (unr P S i) P := by
  obtain ⟨h1, h2, h3⟩ := unr_is P S i hi
  exact ⟨h1, hP, by rw [h2]; exact hS, by rw [h2]; exact hf⟩
theorem nx_more (S P i g c : Nat) (w : World) (hS : S ≤ 96) (hP : P ≤ 15) (hf : cnt S (P + 1) ≤ 1000000000000000) (hi : i + 1 < cnt S (P + 1)) (h : RowN w (some ⟨g, 0, none⟩) (vals (unr P S i))) (hc : P + 1 ≤ c) :
    Calls Try.prog 20 #[.slice (some ⟨g, 0, none⟩) (P + 1) c] w (NxP (vals (unr P S (i + 1))) (P + 1) 0 w) := by
  have hD := unr_ok hS hP hf (show i < _ by omega)
  obtain ⟨h1, h2, h3⟩ := unr_is P S i (by omega)
  generalize unr P S i = ys at *
  rcases next_cases ys (by intro e; have := hD.len; rw [e] at this; cases this) with ⟨a, e⟩ | ⟨A, y, b, m, rfl⟩
  · exfalso
    rw [hD.len, Nat.add_sub_cancel] at e
    subst e
    have h4 := rk_last a P
    have h5 : sm (a :: List.replicate P 0) = a := by show a + sm _ = a; rw [sm_zeros]; rfl
    rw [h5] at h2
    subst h2
    omega
  · have hl : (A ++ (y + 1) :: (List.replicate m 0 ++ [b])).length = P + 1 := by rw [len_next, h1]
    have e := unr_rk P _ hl
    rw [sm_next, h2, rk_next, h3] at e
    rw [e]
    exact implNx_yes2 g 0 c y b m P A w hD h hc
theorem nx_end (S P i g c : Nat) (w : World) (hS : S ≤ 96) (hP : P ≤ 15) (hf : cnt S (P + 1) ≤ 1000000000000000) (hi : i + 1 = cnt S (P + 1)) (h : RowN w (some ⟨g, 0, none⟩) (vals (unr P S i))) :
    Calls Try.prog 20 #[.slice (some ⟨g, 0, none⟩) (P + 1) c] w (RwP [] 0 3 w) := by
  have hD := unr_ok hS hP hf (show i < _ by omega)
  obtain ⟨h1, h2, h3⟩ := unr_is P S i (by omega)
  generalize unr P S i = ys at *
  rcases next_cases ys (by intro e; have := hD.len; rw [e] at this; cases this) with ⟨a, e⟩ | ⟨A, y, b, m, rfl⟩
  · rw [hD.len, Nat.add_sub_cancel] at e
    subst e
    exact implNx_last _ c a P P w hD h
  · exfalso
    have h4 := rk_lt (A ++ (y + 1) :: (List.replicate m 0 ++ [b]))
    rw [sm_next, h2, len_next, h1, rk_next, h3] at h4
    omega
set_option maxHeartbeats 4000000 in
theorem specAll_no (s p : Int) (w : World) (hk : cnK s p = false) (q : Nat) (L : Nat → List Int) : Calls Try.prog 35 #[.int .i64 s, .int .i64 p] w (AlP 2 q 0 L w) := by
  have HC := Lib.hid (specCode_any s p w)
  rw [(cn_no hk).2] at HC
  clear hk
  go_enter Try.func35, Try.ntmps35
  go_wp2_with (go_at_call 51; refine HC.out.mono ?_; rintro e w' ⟨rfl, hb⟩; have HB := Lib.hid hb; clear hb)
  go_ret2
  exact alp_nil _ _ _ _ _ HB.out
set_option maxHeartbeats 4000000 in
theorem specAll_big (S P : Nat) (w : World) (hS : S ≤ 96) (hP : P ≤ 15) (hf : cnt S (P + 1) ≤ 1000000000000000) (hb : 3000 < cnt S (P + 1)) (q : Nat) (L : Nat → List Int) : Calls Try.prog 35 #[.int .i64 S, .int .i64 ((P : Int) + 1)] w (AlP 5 q 0 L w) := by
  have HC := Lib.hid (specCode_any (S : Int) ((P : Int) + 1) w)
  rw [(cn_fit hS hP hf).2] at HC
  have HN := Lib.hid (fun u : World => specN_any S P S ((P : Int) + 1) u rfl rfl hS hP)
  rw [cap_lo hf] at HN
  have q1 : (3000 : Int) < (cnt S (P + 1) : Int) := by omega
  generalize cnt S (P + 1) = N at *
  clear hb
  go_enter Try.func35, Try.ntmps35
  go_wp2_with (first | (go_at_call 51; refine HC.out.mono ?_; rintro e w' ⟨rfl, hb⟩; have HB := Lib.hid hb; clear hb) | (go_at_call 52; refine (HN.out _).mono ?_; rintro e w' ⟨rfl, hb⟩; have HB := Lib.hid (HB.out.trans (hb.mono HB.out.size)); clear hb))
  go_ret2
  exact alp_nil _ _ _ _ _ HB.out
set_option maxHeartbeats 4000000 in
theorem specAll_yes (S P : Nat) (w : World) (hS : S ≤ 96) (hP : P ≤ 15) (hb : cnt S (P + 1) ≤ 3000) : Calls Try.prog 35 #[.int .i64 S, .int .i64 ((P : Int) + 1)] w (AlP 0 (P + 1) (cnt S (P + 1)) (fun i => vals (unr P S i)) w) := by
  have hf : cnt S (P + 1) ≤ 1000000000000000 := by omega
  obtain ⟨i0, hi, hz0, hz1, hz2⟩ := info_parts infoSS
  have HC := Lib.hid (specCode_any (S : Int) ((P : Int) + 1) w)
  rw [(cn_fit hS hP hf).2] at HC
  have HN := Lib.hid (fun u : World => specN_any S P S ((P : Int) + 1) u rfl rfl hS hP)
  rw [cap_lo hf] at HN
  have HAt := Lib.hid (fun (i : Nat) (u : World) (h : i < cnt S (P + 1)) => specAt_any S P i ((P : Int) + 1) u rfl hS hP hf h)
  have HL := Lib.hid (fun (i : Nat) (h : i < cnt S (P + 1)) => show (vals (unr P S i)).length = P + 1 by rw [vals_len, (unr_is P S i h).1])
  have q1 : ¬ ((3000 : Int) < (cnt S (P + 1) : Int)) := by omega
  generalize cnt S (P + 1) = N at *
  go_enter Try.func35, Try.ntmps35
  go_wp2_with (first | (go_at_call 51; refine HC.out.mono ?_; rintro e w' ⟨rfl, hb⟩; have HB := Lib.hid hb; clear hb) | (go_at_call 52; refine (HN.out _).mono ?_; rintro e w1 ⟨rfl, hb⟩; have HB := Lib.hid (HB.out.trans (hb.mono HB.out.size)); clear hb))
  have hown := World.ownsRow_made (e := 24) (size := 1) w1 #[] 0 (Nat.le_refl _) (by decide) rfl
  have HO := Lib.hid (own_lower hown HB.out.size)
  have HB := Lib.hid (HB.out.trans ((alo w1 (.cells #[] 24)).mono HB.out.size))
  clear hown
  go_loopw [8, 9] (fun ov kv wr => ∃ (i : Nat) (G C : Nat → Nat), i ≤ N ∧ kv = .int .i64 (i : Int) ∧ Gr wr w.heap.size ov (P + 1) i G C (fun j => vals (unr P S j)) ∧ Below w.heap.size w wr) (fun _ kv _ => N - (intOf kv).toNat)
  case atStart => exact ⟨0, id, id, Nat.zero_le _, rfl, ⟨HO.out, (fun _ h => absurd h (by omega)), (fun _ h => absurd h (by omega)), (fun _ _ h => absurd h (by omega))⟩, HB.out⟩
  case round =>
    obtain ⟨i, G, C, hiN, rfl, hgr, hbl⟩ := hrel
    have HG := Lib.hid hgr
    have HB := Lib.hid hbl
    clear hgr hbl HO
    by_cases hlt : i < N
    · have q2 : (i : Int) < (N : Int) := by omega
      go_wp2_with fail
      refine (HAt.out i _ hlt).mono ?_
      rintro e w5 ⟨v5, rfl, hown, hb5⟩
      obtain ⟨c5, b5, rfl, ho5, hl5, hc5⟩ := outN_own hown (HL.out i hlt) (by omega) (by intro e; have := HL.out i hlt; rw [e] at this; cases this)
      have HO5 := Lib.hid ho5
      have HB5 := Lib.hid hb5
      clear hown ho5 hb5
      go_wp2_with (at_builtin; refine wpList_append_lies _ rfl _ _ 35 rfl w.heap.size 24 i0 (.slice none 0 0) 1 24 Try.underlying35 hi hz0 hz1 hz2 rfl (by decide) _ i (rws (P + 1) i G C) rfl (own_keep (own_keep HG.out.own HB5.out) (alo _ _)) ⟨_, 0, none⟩ 1 1 [.slice (some ⟨b5, 0, none⟩) (P + 1) c5] rfl rfl (cell_sng _ _ 24) (by intro u hu; cases List.mem_singleton.1 hu; rfl) (by omega) (by unfold maxLen; omega) (by omega) (by have := HB.out.size; have := HB5.out.size; simp; omega) _ rfl ?_; intro gv cv w6 hown1 hgrow1 hat1 hlt1)
      have hsn := HG.out.snoc (HB5.out.trans ((alo _ _).mono HB5.out.size)) hgrow1 hown1 hat1 ((HO5.out.lower HB.out.size).below (alo _ _)) (Nat.lt_of_lt_of_le hl5 (alo _ _).size) (HL.out i hlt)
        (fun q hq => by have h1 := (HG.out.own.lt q hq).2; have h2 := HO5.out.new; omega) (fun j hj => by have h1 := (HG.out.it j hj).2.1; have h2 := HO5.out.new; omega)
      have eL : (fun j => if j = i then vals (unr P S i) else vals (unr P S j)) = fun j => vals (unr P S j) := by
        funext j
        split
        · rename_i e; rw [e]
        · rfl
      rw [eL] at hsn
      have HSn := Lib.hid hsn
      have HB6 := Lib.hid ((HB.out.trans ((HB5.out.trans ((alo _ _).mono HB5.out.size)).mono HB.out.size)).grown hgrow1 (by have := HB.out.size; have := HB5.out.size; simp; omega) (fun q hq => (HG.out.own.lt q hq).1))
      clear hsn eL
      go_roundw
      case rel => exact ⟨i + 1, _, _, by omega, by go_num, HSn.out, HB6.out⟩
      case measure => simp [intOf]; omega
    · obtain rfl : i = N := by omega
      have q2 : ¬ ((i : Int) < (i : Int)) := by omega
      go_wp2_with fail
      go_ret2
      exact ⟨_, G, C, rfl, HG.out, HB.out⟩
set_option maxHeartbeats 4000000 in
theorem implAll_no (s p : Int) (w : World) (hk : cnK s p = false) (q : Nat) (L : Nat → List Int) : Calls Try.prog 25 #[.int .i64 s, .int .i64 p] w (AlP 2 q 0 L w) := by
  have HC := Lib.hid (implCnt_any s p w)
  unfold CnP at HC
  rw [(cn_no hk).1, (cn_no hk).2] at HC
  clear hk
  go_enter Try.func25, Try.ntmps25
  go_wp2_with (go_at_call 16; refine HC.out.mono ?_; rintro e w' ⟨rfl, hb⟩; have HB := Lib.hid hb; clear hb)
  go_ret2
  exact alp_nil _ _ _ _ _ HB.out
set_option maxHeartbeats 4000000 in
theorem implAll_big (S P : Nat) (w : World) (hS : S ≤ 96) (hP : P ≤ 15) (hf : cnt S (P + 1) ≤ 1000000000000000) (hb : 3000 < cnt S (P + 1)) (q : Nat) (L : Nat → List Int) : Calls Try.prog 25 #[.int .i64 S, .int .i64 ((P : Int) + 1)] w (AlP 5 q 0 L w) := by
  have HC := Lib.hid (implCnt_any (S : Int) ((P : Int) + 1) w)
  unfold CnP at HC
  rw [(cn_fit hS hP hf).1, (cn_fit hS hP hf).2] at HC
  have q1 : (3000 : Int) < (cnt S (P + 1) : Int) := by omega
  generalize cnt S (P + 1) = N at *
  clear hb
  go_enter Try.func25, Try.ntmps25
  go_wp2_with (go_at_call 16; refine HC.out.mono ?_; rintro e w' ⟨rfl, hb⟩; have HB := Lib.hid hb; clear hb)
  go_ret2
  exact alp_nil _ _ _ _ _ HB.out
set_option maxHeartbeats 8000000 in
set_option maxRecDepth 100000 in
theorem implAll_yes (S P : Nat) (w : World) (hS : S ≤ 96) (hP : P ≤ 15) (hb : cnt S (P + 1) ≤ 3000) : Calls Try.prog 25 #[.int .i64 S, .int .i64 ((P : Int) + 1)] w (AlP 0 (P + 1) (cnt S (P + 1)) (fun i => vals (unr P S i)) w) := by
  have hf : cnt S (P + 1) ≤ 1000000000000000 := by omega
  have hpos := cnt_pos S P
  obtain ⟨i0, hi, hz0, hz1, hz2⟩ := info_parts infoSS
  have hmk := run_make_room (P := Try.prog) 35 24 (.slice none 0 0) 24 Try.underlying35 infoSS rfl .i64 .i64 (cnt S (P + 1)) (by omega) (by omega)
  have HC := Lib.hid (implCnt_any (S : Int) ((P : Int) + 1) w)
  unfold CnP at HC
  rw [(cn_fit hS hP hf).1, (cn_fit hS hP hf).2] at HC
  have HU := Lib.hid (fun u : World => implUn_yes2 S P 0 u hS hP hf hpos)
  have HM := Lib.hid (fun (i g c : Nat) (u : World) (h : i + 1 < cnt S (P + 1)) hr hc => nx_more S P i g c u hS hP hf h hr hc)
  have HE := Lib.hid (fun (i g c : Nat) (u : World) (h : i + 1 = cnt S (P + 1)) hr => nx_end S P i g c u hS hP hf h hr)
  have HL := Lib.hid (fun (i : Nat) (h : i < cnt S (P + 1)) => show (vals (unr P S i)).length = P + 1 by rw [vals_len, (unr_is P S i h).1])
  have q1 : ¬ ((3000 : Int) < (cnt S (P + 1) : Int)) := by omega
  generalize cnt S (P + 1) = N at *
  go_enter Try.func25, Try.ntmps25
  go_wp2_with (go_at_call 16; refine HC.out.mono ?_; rintro e w1 ⟨rfl, hb⟩; have HB := Lib.hid hb; clear hb)
  have hown := World.ownsRow_made (e := 24) (size := 1) w1 (madeCells #[.slice none 0 0] N) N (Nat.le_refl _) (by unfold maxLen; omega) (by rw [Nat.mul_one]; exact size_madeCells _ _)
  have HO := Lib.hid (own_lower hown HB.out.size)
  have HB := Lib.hid (HB.out.trans ((alo w1 (.cells (madeCells #[.slice none 0 0] N) 24)).mono HB.out.size))
  clear hown hmk
  refine (HU.out _).mono ?_
  rintro e w3 ⟨g, c, rfl, ho, hg, hc, hb3⟩
  have HO3 := Lib.hid (own_keep HO.out hb3)
  have HR := Lib.hid (ho.lower HB.out.size)
  have hgn : w1.heap.size ≠ g := by have := ho.new; simp at this; omega
  have HB := Lib.hid (HB.out.trans (hb3.mono HB.out.size))
  clear ho hb3 HO
  go_wp2_with fail
  go_loopw [7, 8, 9] (fun cv ov nv wr => ∃ (i : Nat) (G C : Nat → Nat), i ≤ N ∧ Gr wr w.heap.size ov (P + 1) i G C (fun j => vals (unr P S j)) ∧ Below w.heap.size w wr ∧ ((i < N ∧ cv = .int .i64 0 ∧ ∃ g c, nv = .slice (some ⟨g, 0, none⟩) (P + 1) c ∧ OutN wr w.heap.size (some ⟨g, 0, none⟩) g (vals (unr P S i)) ∧ g < wr.heap.size ∧ P + 1 ≤ c ∧ (∀ q, ov.ownBlock = some q → q ≠ g) ∧ ∀ j, j < i → G j ≠ g) ∨ (i = N ∧ cv = .int .i64 3))) (fun cv ov _ _ => (match cv, ov with | .int _ 0, .slice _ n _ => N + 1 - n | _, _ => 0))
  case atStart => exact ⟨0, id, id, Nat.zero_le _, ⟨HO3.out, (fun _ h => absurd h (by omega)), (fun _ h => absurd h (by omega)), (fun _ _ h => absurd h (by omega))⟩, HB.out, .inl ⟨hpos, rfl, g, c, rfl, HR.out, hg, hc, fun q hq => by cases hq; exact hgn, fun j hj => absurd hj (by omega)⟩⟩
  case round =>
    obtain ⟨i, G, C, hiN, hgr, hbl, ⟨hlt, rfl, g, c, rfl, hr, hg, hc, hq, hj⟩ | ⟨rfl, rfl⟩⟩ := hrel
    · have HG := Lib.hid hgr
      have HB := Lib.hid hbl
      have HR := Lib.hid hr
      have HQ := Lib.hid (And.intro hq hj)
      obtain ⟨a8, c8, rfl⟩ := hgr.len
      clear hgr hbl hr hq hj HO3
      go_wp2_with (at_builtin; refine wpList_append_lies _ rfl _ _ 35 rfl w.heap.size 24 i0 (.slice none 0 0) 1 24 Try.underlying35 hi hz0 hz1 hz2 rfl (by decide) _ i (rws (P + 1) i G C) rfl (own_keep HG.out.own (alo _ _)) ⟨_, 0, none⟩ 1 1 [.slice (some ⟨g, 0, none⟩) (P + 1) c] rfl rfl (cell_sng _ _ 24) (by intro u hu; cases List.mem_singleton.1 hu; rfl) (by omega) (by unfold maxLen; omega) (by omega) (by have := HB.out.size; simp; omega) _ rfl ?_; intro gv cv w6 hown1 hgrow1 hat1 hlt1)
      have hsn := HG.out.snoc (alo _ _) hgrow1 hown1 hat1 (HR.out.below (alo _ _)) (Nat.lt_of_lt_of_le hg (alo _ _).size) (HL.out i hlt) HQ.out.1 HQ.out.2
      have eL : (fun j => if j = i then vals (unr P S i) else vals (unr P S j)) = fun j => vals (unr P S j) := by
        funext j
        split
        · rename_i e; rw [e]
        · rfl
      rw [eL] at hsn
      have hrow := (hsn.it i (by omega)).1
      rw [upd_at] at hrow
      have HSn := Lib.hid hsn
      have HB6 := Lib.hid ((HB.out.trans ((alo wr _).mono HB.out.size)).grown hgrow1 (by have := HB.out.size; simp; omega) (fun q hq => (HG.out.own.lt q hq).1))
      have HRo := Lib.hid hrow.row
      clear hsn eL hrow hown1 hgrow1 hat1
      by_cases hmore : i + 1 < N
      · refine (HM.out i g c _ hmore HRo.out hc).mono ?_
        rintro e w7 ⟨g7, c7, rfl, ho7, hg7, hc7, hb7⟩
        have HSn := Lib.hid (And.intro (HSn.out.below hb7) (And.intro (HB6.out.trans (hb7.mono HB6.out.size)) (And.intro (ho7.lower HB6.out.size) (And.intro (fun q hq => show q ≠ g7 by have h1 := (HSn.out.own.lt q hq).2; have h2 := ho7.new; omega) (fun (j : Nat) (hj : j < i + 1) => show upd G i g j ≠ g7 by have h1 := (HSn.out.it j hj).2.1; have h2 := ho7.new; omega)))))
        clear ho7 hb7
        go_wp2_with fail
        go_roundw
        case rel => exact ⟨i + 1, _, _, by omega, HSn.out.1, HSn.out.2.1, .inl ⟨hmore, rfl, g7, c7, rfl, HSn.out.2.2.1, hg7, hc7, HSn.out.2.2.2.1, HSn.out.2.2.2.2⟩⟩
        case measure => simp; omega
      · refine (HE.out i g c _ (by omega) HRo.out).mono ?_
        rintro e w7 ⟨a7, c7, b7, rfl, ho7, hl7, hb7⟩
        have HSn := Lib.hid (And.intro (HSn.out.below hb7) (HB6.out.trans (hb7.mono HB6.out.size)))
        clear ho7 hl7 hb7
        go_wp2_with fail
        go_roundw
        case rel => exact ⟨i + 1, _, _, by omega, HSn.out.1, HSn.out.2, .inr ⟨by omega, rfl⟩⟩
        case measure => simp; omega
    · have HG := Lib.hid hgr
      have HB := Lib.hid hbl
      clear hgr hbl
      go_wp2_with fail
      go_ret2
      exact ⟨_, G, C, rfl, HG.out, HB.out⟩
end Go.Proofs.Ytcgckpnkmmjljaa
