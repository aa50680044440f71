/- FnStandard: the games that are given have valid rules and are found by their rules: for every input. No conditions. -/
import Derived.Test.YtkpmocjghpeppaaStandard
namespace Go.Proofs.Ytkpmocjghpeppaa
open Go.Joins Go.ChangeShapes Go.WideShapes Go.ChangeAt Go.RowKit Go.Deep
open Go.ChangeMaps (open_string shut_string)
set_option linter.unusedVariables false

set_option maxHeartbeats 8000000 in
set_option maxRecDepth 100000 in
theorem walk_FnStandard {w : World} (a1 : Option Addr) (l1 c1 : Nat) (hA : Bytes w a1 l1) :
    Calls Try.prog 4 #[.slice a1 l1 c1] w fun e w' => e = .returned (.bool true) ∧ Below w.heap.size w w' := by
  have hl1 := hA.1
  have HA := Lib.hid hA
  clear hA
  rcases hlong : (decide (3000 < l1) || decide (3000 < 0)) with _ | _
  rotate_left
  · have Hl := Lib.hid hlong
    clear hlong
    go_enter Try.func4, Try.ntmps4
    go_wp2_with fail
    refine (long_any _ _ _ _ _ _ true Hl.out hl1 (by omega) _).mono ?_
    rintro e w' ⟨rfl, rfl⟩
    go_wp2_with fail
    go_ret
    exact ⟨rfl, Below.refl _ _⟩
  have Hl := Lib.hid hlong
  clear hlong
  go_enter Try.func4, Try.ntmps4
  go_wp2_with fail
  refine (long_any _ _ _ _ _ _ false Hl.out hl1 (by omega) _).mono ?_
  rintro e w0 ⟨rfl, rfl⟩
  go_wp2_with fail
  refine (names_q _).mono ?_
  rintro e w1 ⟨rfl, hb, hz, hn⟩
  have HN := Lib.hid hn
  have HB := Lib.hid (show OnW w w1 from hb)
  clear hn hb
  go_wp2_with fail
  refine (at_any a1 l1 c1 4 _ (HA.out.below HB.out) (by omega) (by omega)).mono ?_
  rintro e w2 ⟨v, hv, rfl, hb⟩
  obtain ⟨i, rfl⟩ : ∃ i : Nat, v = (i : Int) := ⟨v.toNat, by omega⟩
  have hi : i < 4 := by omega
  obtain ⟨t, ht⟩ : ∃ t, names4[i]? = some t := ⟨names4[i]'hi, List.getElem?_eq_getElem hi⟩
  obtain ⟨P, s, c, l, st, sk, re, fe, ag, k, m, o, r, hstd, hok, hek, hem, heo, her, hname⟩ := std_full (List.mem_of_getElem? ht)
  have hcell := (hb.cell (p := ⟨w.heap.size, i, none⟩) hz).trans (HN.out i t ht)
  have HB := Lib.hid (HB.out.below hb)
  have q0 : (0 : Int) ≤ (i : Int) := by omega
  have q1 : (i : Int) < 4 := by omega
  obtain ⟨hp1, hp2, hs1, hs6, -⟩ := okR_bd hok
  obtain ⟨hok2, htot, htl, hpos⟩ := start_ok (P := P) (s := s) hok (by omega) (by omega : 0 ≤ s) hs6
  have Hstd := Lib.hid hstd
  have Hname := Lib.hid hname
  have Hok := Lib.hid hok
  have Hok2 := Lib.hid hok2
  have Htot := Lib.hid htot
  have Hpos := Lib.hid hpos
  clear hstd hname hok hok2 htot hpos hb HN ht
  go_wp2_with fail
  clear hcell
  refine (impl_std t _).mono ?_
  rintro e w3 ⟨rfl, hb⟩
  rw [Hstd.out]
  have HB := Lib.hid (HB.out.below hb)
  clear hb
  go_wp2_with fail
  have HR := Lib.hid (ru_new (P : Int) s c l st sk re fe ag w3 25)
  have HB := Lib.hid (HB.out.below (al1 _ (.cells #[.int .i64 P, .int .i64 s, .bool st, .bool sk, .bool re, .bool fe, .bool ag, .int .i64 c, .int .i64 l] 25)))
  generalize hD : w3.heap.size = D at *
  generalize hW : w3.alloc (.cells #[.int .i64 P, .int .i64 s, .bool st, .bool sk, .bool re, .bool fe, .bool ag, .int .i64 c, .int .i64 l] 25) = w4 at *
  clear hW hD
  refine (impl_name (P : Int) s c l st sk re fe ag k m o r hek hem heo her _).mono ?_
  rintro e w5 ⟨rfl, hb⟩
  rw [Hname.out]
  (first | have HB := Lib.hid (HB.out.below hb) | have HB := Lib.hid (HB.out.drew.below hb) | have HB := Lib.hid ((HB.out.below (al1 _ _)).below hb) | have HB := Lib.hid ((HB.out.below (al1 _ _)).drew.below hb)); (first | have HR := Lib.hid (HR.out.below hb) | have HR := Lib.hid (HR.out.drew.below hb) | have HR := Lib.hid ((HR.out.below (al1 _ _)).below hb) | have HR := Lib.hid ((HR.out.below (al1 _ _)).drew.below hb))
  clear hb
  obtain ⟨hdl, r0, r1, r2, r3, r4, r5, r6, r7, r8⟩ := HR.out
  go_wp2_with fail
  clear hdl r0 r1 r2 r3 r4 r5 r6 r7 r8
  refine (implStart_yes P s c l st sk re fe ag _ (by omega) (by omega) Hok.out).mono ?_
  rintro e w6 ⟨b1, d1, g1, b2, d2, g2, rfl, ho, -, -, -, -, hb⟩
  (first | have HB := Lib.hid (HB.out.below hb) | have HB := Lib.hid (HB.out.drew.below hb) | have HB := Lib.hid ((HB.out.below (al1 _ _)).below hb) | have HB := Lib.hid ((HB.out.below (al1 _ _)).drew.below hb)); (first | have HR := Lib.hid (HR.out.below hb) | have HR := Lib.hid (HR.out.drew.below hb) | have HR := Lib.hid ((HR.out.below (al1 _ _)).below hb) | have HR := Lib.hid ((HR.out.below (al1 _ _)).drew.below hb))
  have HO := Lib.hid ho.r
  clear ho hb
  obtain ⟨hdl, r0, r1, r2, r3, r4, r5, r6, r7, r8⟩ := HR.out
  go_wp2_with fail
  clear hdl r0 r1 r2 r3 r4 r5 r6 r7 r8
  have HP := Lib.hid (po_new b1 b2 (2 * P) d1 2 d2 0 w6 39)
  have HO := Lib.hid (HO.out.below (al1 _ (.cells #[.slice b1 (2 * P : Nat) d1, .slice b2 2 d2, .int .i64 0] 39)))
  have HR := Lib.hid (HR.out.below (al1 _ (.cells #[.slice b1 (2 * P : Nat) d1, .slice b2 2 d2, .int .i64 0] 39)))
  have HB := Lib.hid (HB.out.below (al1 _ (.cells #[.slice b1 (2 * P : Nat) d1, .slice b2 2 d2, .int .i64 0] 39)))
  generalize hD : w6.heap.size = E at *
  generalize hW : w6.alloc (.cells #[.slice b1 (2 * P : Nat) d1, .slice b2 2 d2, .int .i64 0] 39) = w7 at *
  clear hW hD
  refine (impl_total (P : Int) s c l st sk re fe ag _).mono ?_
  rintro e w8 ⟨rfl, hb⟩
  rw [Hok.out]
  (first | have HB := Lib.hid (HB.out.below hb) | have HB := Lib.hid (HB.out.drew.below hb) | have HB := Lib.hid ((HB.out.below (al1 _ _)).below hb) | have HB := Lib.hid ((HB.out.below (al1 _ _)).drew.below hb)); (first | have HR := Lib.hid (HR.out.below hb) | have HR := Lib.hid (HR.out.drew.below hb) | have HR := Lib.hid ((HR.out.below (al1 _ _)).below hb) | have HR := Lib.hid ((HR.out.below (al1 _ _)).drew.below hb)); (first | have HP := Lib.hid (HP.out.below hb) | have HP := Lib.hid (HP.out.drew.below hb) | have HP := Lib.hid ((HP.out.below (al1 _ _)).below hb) | have HP := Lib.hid ((HP.out.below (al1 _ _)).drew.below hb)); (first | have HO := Lib.hid (HO.out.below hb) | have HO := Lib.hid (HO.out.drew.below hb) | have HO := Lib.hid ((HO.out.below (al1 _ _)).below hb) | have HO := Lib.hid ((HO.out.below (al1 _ _)).drew.below hb))
  clear hb
  have e1 : totV true (2 * (P : Int) * s) = 2 * P * s := rfl
  have e2 : totC true = 0 := rfl
  rw [e1, e2]
  clear e1 e2
  obtain ⟨hdl, r0, r1, r2, r3, r4, r5, r6, r7, r8⟩ := HR.out
  go_wp2_with fail
  clear hdl r0 r1 r2 r3 r4 r5 r6 r7 r8
  refine (valid_spec (P : Int) s c l st sk re fe ag _).mono ?_
  rintro e w9 ⟨rfl, hb⟩
  rw [Hok.out]
  (first | have HB := Lib.hid (HB.out.below hb) | have HB := Lib.hid (HB.out.drew.below hb) | have HB := Lib.hid ((HB.out.below (al1 _ _)).below hb) | have HB := Lib.hid ((HB.out.below (al1 _ _)).drew.below hb)); (first | have HR := Lib.hid (HR.out.below hb) | have HR := Lib.hid (HR.out.drew.below hb) | have HR := Lib.hid ((HR.out.below (al1 _ _)).below hb) | have HR := Lib.hid ((HR.out.below (al1 _ _)).drew.below hb)); (first | have HP := Lib.hid (HP.out.below hb) | have HP := Lib.hid (HP.out.drew.below hb) | have HP := Lib.hid ((HP.out.below (al1 _ _)).below hb) | have HP := Lib.hid ((HP.out.below (al1 _ _)).drew.below hb)); (first | have HO := Lib.hid (HO.out.below hb) | have HO := Lib.hid (HO.out.drew.below hb) | have HO := Lib.hid ((HO.out.below (al1 _ _)).below hb) | have HO := Lib.hid ((HO.out.below (al1 _ _)).drew.below hb))
  clear hb
  obtain ⟨hel, k0, k1, k2⟩ := HP.out
  go_wp2_with fail
  clear hel k0 k1 k2
  refine (a2all_any b1 b2 (2 * P) d1 2 d2 0 _ [0, 0] _ HO.out Hpos.out rfl htl (by simp [tot])).mono ?_
  rintro e w10 ⟨rfl, hb⟩
  rw [Htot.out]
  (first | have HB := Lib.hid (HB.out.below hb) | have HB := Lib.hid (HB.out.drew.below hb) | have HB := Lib.hid ((HB.out.below (al1 _ _)).below hb) | have HB := Lib.hid ((HB.out.below (al1 _ _)).drew.below hb)); (first | have HR := Lib.hid (HR.out.below hb) | have HR := Lib.hid (HR.out.drew.below hb) | have HR := Lib.hid ((HR.out.below (al1 _ _)).below hb) | have HR := Lib.hid ((HR.out.below (al1 _ _)).drew.below hb)); (first | have HP := Lib.hid (HP.out.below hb) | have HP := Lib.hid (HP.out.drew.below hb) | have HP := Lib.hid ((HP.out.below (al1 _ _)).below hb) | have HP := Lib.hid ((HP.out.below (al1 _ _)).drew.below hb)); (first | have HO := Lib.hid (HO.out.below hb) | have HO := Lib.hid (HO.out.drew.below hb) | have HO := Lib.hid ((HO.out.below (al1 _ _)).below hb) | have HO := Lib.hid ((HO.out.below (al1 _ _)).drew.below hb))
  clear hb
  obtain ⟨hel, k0, k1, k2⟩ := HP.out
  obtain ⟨hdl, r0, r1, r2, r3, r4, r5, r6, r7, r8⟩ := HR.out
  go_wp2_with fail
  clear hel k0 k1 k2 hdl r0 r1 r2 r3 r4 r5 r6 r7 r8
  refine (specWhole_any (P : Int) s c l st sk re fe ag b1 b2 (2 * P) d1 2 d2 0 _ [0, 0] _ HO.out true Hok2.out).mono ?_
  rintro e w11 ⟨rfl, hb⟩
  rw [Htot.out]
  have e3 : wholeB true (2 * (P : Int) * s) (2 * (P : Int) * s) = true := by simp [wholeB]
  rw [e3]
  (first | have HB := Lib.hid (HB.out.below hb) | have HB := Lib.hid (HB.out.drew.below hb) | have HB := Lib.hid ((HB.out.below (al1 _ _)).below hb) | have HB := Lib.hid ((HB.out.below (al1 _ _)).drew.below hb))
  clear hb
  go_wp2_with fail
  go_ret
  exact ⟨rfl, HB.out⟩
namespace fnStandard
set_option maxHeartbeats 2000000 in
set_option maxRecDepth 100000 in
theorem lifted (os : Os) (started : os.Started) (H : Type) (enc : TypeId × Value → H) :
    ReturnsInHanded {} Try.checked os 4 .any (Rows.fnStandardSpec.pre6 enc Try.prog Try.f4 Rows.fnStandardRow.domain false) (Rows.fnStandardSpec.post enc Try.prog Try.f4 false true false false) := by
  refine returnsInHanded_of_change (C := Try.checked) own started (by kernel_rfl) Try.func4
    (ChangeSpec.witness6 (enc := enc) (C := Try.checked) false ⟨#[], #[.slice none 0 0], []⟩ 8 (by kernel_rfl) (by kernel_rfl) (by kernel_rfl) (by kernel_rfl)) ?_
  intro W base args ds gs before hval0 hW hcnd _
  have hval : ∀ (j : Nat) t v, Try.f4.params[j]? = some t → args[j]? = some v → Value.okWide Try.prog W .any base t v := hval0
  have hW' := hW
  obtain ⟨p, q, hA0, hV, rfl, hfz, hnd⟩ := hW
  have hA : DataW.TrodAll enc Try.prog W 0 (fun _ => true) true Try.f4.params.toList args.toList ds p := hA0
  rw [Try.params4] at hA hval
  obtain ⟨v0, vs0, d0, ds0, p0, q0, hargs, rfl, rfl, h0, r0⟩ := trodAll_cons hA
  obtain ⟨rfl, rfl, rfl⟩ := trodAll_nil r0
  obtain rfl : args = #[v0] := by cases args; simp_all
  obtain ⟨rfl, rfl⟩ := trodVars_none hV
  have k0 := h0
  have lt0 : ∀ x ∈ p0, x.block < W.heap.size := by obtain ⟨m, hm⟩ := k0; exact DataW.trod_lt m _ _ _ hm
  obtain ⟨a0, len0, cap0, rfl, w0⟩ := open_bytes Try.underlying22 Try.underlying5 (by kernel_rfl) (hval 0 22 v0 rfl rfl) h0
  clear hA0 hval0
  refine (walk_FnStandard a0 len0 cap0 w0 (w := W)).mono fun e W' ⟨he, bel⟩ => ?_
  subst he
  exact ⟨_, rfl, _, _, _, [], _, [], hW', trodAll_mk1 (shut_bool Try.underlying4 _), (trodAll_cons_mk (Below.trod laidOut (by kernel_rfl) (of_decide_eq_true (by kernel_rfl)) k0 bel lt0) trodAll_mk0), rfl, bel.frame _, fun h => by cases h⟩

theorem proved : Rows.FnStandardSaid :=
  OpenClaim.holds_of_wide 4 Try.f4 rfl rfl rfl rfl rfl rfl rfl ⟨rfl, rfl, rfl, rfl, rfl⟩ rfl rfl rfl rfl rfl (by kernel_rfl) Try.func4 (by kernel_rfl)
    (of_decide_eq_true (by kernel_rfl)) (by unfold Func.isWrapper; first | (rw [if_pos (by decide +kernel)]; kernel_rfl) | (rw [if_neg (by decide +kernel)]; exact ⟨rfl, rfl⟩))
    (fun os started H enc _ => lifted os started H enc)
end fnStandard

end Go.Proofs.Ytkpmocjghpeppaa
