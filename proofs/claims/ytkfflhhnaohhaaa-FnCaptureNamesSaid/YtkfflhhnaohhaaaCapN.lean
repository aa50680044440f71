/- FnCaptureNames: each kind of captures has a name of its own, and other names name nothing: for every input. No conditions. -/
import Derived.Test.YtkfflhhnaohhaaaDrawC
import Derived.Test.YtkfflhhnaohhaaaLong
namespace Go.Proofs.Ytkfflhhnaohhaaa
open Go.Joins Go.ChangeShapes Go.WideShapes Go.ChangeAt Go.RowKit Go.Deep
set_option linter.unusedVariables false

set_option maxHeartbeats 4000000 in
theorem walk_FnCaptureNames {w : World} (a1 : Option Addr) (l1 k1 : Nat) (hA : Bytes w a1 l1) :
    Calls Try.prog 3 #[.slice a1 l1 k1] w fun e w' => e = .returned (.bool true) ∧ Below w.heap.size w w' := by
  have hl1 := hA.1
  obtain ⟨f, hf⟩ := hA.told
  obtain ⟨t, ht⟩ := draw_told a1 l1 k1 f
  obtain ⟨x, y, hxy⟩ : ∃ x y : Int, idxV (idxL caps t 0) = .tuple #[.int .i64 x, .int .i64 y] := ⟨_, _, rfl⟩
  have HF := Lib.hid hf
  have HT := Lib.hid ht
  have HX := Lib.hid hxy
  clear hA hf ht hxy
  rcases hlong : (decide (3000 < l1) || decide (3000 < 0)) with _ | _
  · go_enter Try.func3, Try.ntmps3
    go_wp2_with (go_at_call 4; refine (long_any a1 none l1 k1 0 0 _ hlong hl1 (by omega) _).mono ?_; rintro e w' ⟨rfl, rfl⟩)
    go_loopw [3] (fun k wr => ∃ n : Nat, n ≤ 4 ∧ k = .int .i64 n ∧ Below w.heap.size w wr) (fun k _ => 4 - (intOf k).toNat)
    case atStart => exact ⟨0, by omega, rfl, Below.refl _ _⟩
    case round =>
      obtain ⟨n, hn, rfl, hb⟩ := hrel
      have HB := Lib.hid hb
      clear hb
      by_cases hlt : n < 4
      · have HI := Lib.hid (caps_at n hlt)
        have q0 : (0 : Int) ≤ (n : Int) := by omega
        have q1 : (n : Int) ≤ 3 := by omega
        go_wp2_with fail
        refine (caps_name _ _).mono ?_
        rintro e w1 ⟨rfl, b1⟩
        have B1 := Lib.hid (HB.out.trans (b1.mono HB.out.size))
        clear b1
        generalize nameAt caps (n : Int) = nm at *
        go_wp2_with fail
        refine (impl_capd _ _).mono ?_
        rintro e w2 ⟨rfl, b2⟩
        rw [HI.out]
        have B2 := Lib.hid (B1.out.trans (b2.mono B1.out.size))
        clear b2
        go_wp2_with fail
        go_roundw
        case rel => exact ⟨n + 1, by omega, by go_num, B2.out⟩
        case measure => simp [intOf]; omega
      · obtain rfl : n = 4 := by omega
        go_wp2_with fail
        refine (HT.out _ (HF.out.below HB.out)).mono ?_
        rintro e w1 ⟨rfl, b1⟩
        have B1 := Lib.hid (HB.out.trans (b1.mono HB.out.size))
        clear b1
        go_wp2_with fail
        refine (impl_capd _ _).mono ?_
        rintro e w2 ⟨rfl, b2⟩
        rw [HX.out]
        have B2 := Lib.hid (B1.out.trans (b2.mono B1.out.size))
        clear b2
        go_wp2_with fail
        refine (HT.out _ (HF.out.below B2.out)).mono ?_
        rintro e w3 ⟨rfl, b3⟩
        have B3 := Lib.hid (B2.out.trans (b3.mono B2.out.size))
        clear b3
        go_wp2_with fail
        refine (spec_capd _ _).mono ?_
        rintro e w4 ⟨rfl, b4⟩
        rw [HX.out]
        have B4 := Lib.hid (B3.out.trans (b4.mono B3.out.size))
        clear b4
        have HE : Hid (nameAt caps 4 = ⟨#[]⟩) := Lib.hid rfl
        go_wp2_with fail
        refine (caps_name _ _).mono ?_
        rintro e w5 ⟨rfl, b5⟩
        rw [HE.out]
        have B5 := Lib.hid (B4.out.trans (b5.mono B4.out.size))
        clear b5
        go_wp2_with fail
        go_ret
        exact ⟨rfl, B5.out⟩
  · clear HF HT HX
    go_enter Try.func3, Try.ntmps3
    go_wp2_with (go_at_call 4; refine (long_any a1 none l1 k1 0 0 _ hlong hl1 (by omega) _).mono ?_; rintro e w' ⟨rfl, rfl⟩)
    go_ret
    exact ⟨rfl, Below.refl _ _⟩
namespace fnCaptureNames
set_option maxHeartbeats 2000000 in
set_option maxRecDepth 100000 in
theorem lifted (os : Os) (started : os.Started) (H : Type) (enc : TypeId × Value → H) :
    ReturnsInHanded {} Try.checked os 3 .any (Rows.fnCaptureNamesSpec.pre6 enc Try.prog Try.f3 Rows.fnCaptureNamesRow.domain false) (Rows.fnCaptureNamesSpec.post enc Try.prog Try.f3 false true false false) := by
  refine returnsInHanded_of_change (C := Try.checked) own started (by kernel_rfl) Try.func3
    (ChangeSpec.witness6 (enc := enc) (C := Try.checked) false ⟨#[], #[.slice none 0 0], []⟩ 8 (by kernel_rfl) (by kernel_rfl) (by kernel_rfl) (by kernel_rfl)) ?_
  intro W base args ds gs before hval0 hW hcnd _
  have hval : ∀ (j : Nat) t v, Try.f3.params[j]? = some t → args[j]? = some v → Value.okWide Try.prog W .any base t v := hval0
  have hW' := hW
  obtain ⟨p, q, hA0, hV, rfl, hfz, hnd⟩ := hW
  have hA : DataW.TrodAll enc Try.prog W 0 (fun _ => true) true Try.f3.params.toList args.toList ds p := hA0
  rw [Try.params3] at hA hval
  obtain ⟨v0, vs0, d0, ds0, p0, q0, hargs, rfl, rfl, h0, r0⟩ := trodAll_cons hA
  obtain ⟨rfl, rfl, rfl⟩ := trodAll_nil r0
  obtain rfl : args = #[v0] := by cases args; simp_all
  obtain ⟨rfl, rfl⟩ := trodVars_none hV
  have k0 := h0
  have lt0 : ∀ x ∈ p0, x.block < W.heap.size := by obtain ⟨m, hm⟩ := k0; exact DataW.trod_lt m _ _ _ hm
  obtain ⟨a0, len0, cap0, rfl, w0⟩ := open_bytes Try.underlying22 Try.underlying5 (by kernel_rfl) (hval 0 22 v0 rfl rfl) h0
  clear hA0 hval0
  refine (walk_FnCaptureNames a0 len0 cap0 w0 (w := W)).mono fun e W' ⟨he, bel⟩ => ?_
  subst he
  exact ⟨_, rfl, _, _, _, [], _, [], hW', trodAll_mk1 (shut_bool Try.underlying4 _), (trodAll_cons_mk (Below.trod laidOut (by kernel_rfl) (of_decide_eq_true (by kernel_rfl)) k0 bel lt0) trodAll_mk0), rfl, bel.frame _, fun h => by cases h⟩

theorem proved : Rows.FnCaptureNamesSaid :=
  OpenClaim.holds_of_wide 3 Try.f3 rfl rfl rfl rfl rfl rfl rfl ⟨rfl, rfl, rfl, rfl, rfl⟩ rfl rfl rfl rfl rfl (by kernel_rfl) Try.func3 (by kernel_rfl)
    (of_decide_eq_true (by kernel_rfl)) (by unfold Func.isWrapper; first | (rw [if_pos (by decide +kernel)]; kernel_rfl) | (rw [if_neg (by decide +kernel)]; exact ⟨rfl, rfl⟩))
    (fun os started H enc _ => lifted os started H enc)
end fnCaptureNames

end Go.Proofs.Ytkfflhhnaohhaaa
