/- CaptureName and CaptureNamed of the reference and of the program return the same. No conditions. -/
import Derived.Test.YtdppoepffdeehaaSlam
import Derived.Test.YtdppoepffdeehaaBut
namespace Go.Proofs.Ytdppoepffdeehaa
open Go.Joins Go.ChangeShapes Go.WideShapes Go.ChangeAt Go.RowKit Go.Deep
open Go.ChangeMaps (open_string shut_string)
set_option linter.unusedVariables false

theorem spec_cap (k : Int) (w : World) : Calls Try.prog 36 #[.int .i64 k] w fun e w' => e = .returned (.string (nameAt caps k)) ∧ Below w.heap.size w w' := by
  by_cases h : 0 ≤ k ∧ k ≤ 3
  · obtain ⟨h0, h3⟩ := h
    have e : inR k 0 3 = true := by simp [inR, h0, h3]
    obtain ⟨n, rfl⟩ : ∃ n : Nat, k = n := ⟨k.toNat, by omega⟩
    obtain ⟨x, hx⟩ : ∃ x, caps[n]? = some x := ⟨caps[n]'(by simp [caps]; omega), List.getElem?_eq_getElem _⟩
    have hnm : nameAt caps (n : Int) = x := by
      unfold nameAt
      rw [if_pos (by omega), List.getD_eq_getElem?_getD, Int.toNat_natCast, hx]
      rfl
    rw [hnm]
    clear hnm
    have q1 : (n : Int) < 4 := by omega
    have HK := Lib.hid hx
    clear hx
    go_enter Try.func36, Try.ntmps36
    go_wp2_with (go_at_call 60; refine (inS_any _ _ _ _).mono ?_; rintro e1 w1 ⟨rfl, hb1⟩; rw [e])
    go_wp2_with fail
    refine (caps_any _).mono ?_
    rintro e2 w2 ⟨rfl, hb2, hs2, hr2⟩
    have y := hr2.2 n x HK.out
    go_wp2
    go_ret
    exact ⟨rfl, hb1.trans (hb2.mono hb1.size)⟩
  · have e : inR k 0 3 = false := by
      rw [← Bool.not_eq_true]
      simp only [inR, Bool.and_eq_true, decide_eq_true_eq]
      exact h
    have e2 : nameAt caps k = ⟨#[]⟩ := by
      unfold nameAt
      split
      · rw [List.getD_eq_getElem?_getD, List.getElem?_eq_none (by simp [caps]; omega)]
        rfl
      · rfl
    rw [e2]
    go_enter Try.func36, Try.ntmps36
    go_wp2_with (go_at_call 60; refine (inS_any _ _ _ _).mono ?_; rintro e1 w1 ⟨rfl, hb1⟩; rw [e])
    go_ret
    exact ⟨rfl, hb1⟩
set_option maxHeartbeats 1000000 in
theorem spec_capd (s : ByteArray) (w : World) : Calls Try.prog 22 #[.string s] w fun e w' =>
    e = .returned (idxV (idxL caps s 0)) ∧ Below w.heap.size w w' := by
  go_enter Try.func22, Try.ntmps22
  go_wp2_with fail
  refine (caps_any _).mono ?_
  rintro e2 w2 ⟨rfl, hb2, hs2, hr2⟩
  have HR := Lib.hid hr2
  have HB := Lib.hid hb2
  clear hr2 hb2
  go_wp2_with fail
  go_loopw [5] (fun i wr => ∃ k m : Nat, k ≤ 4 ∧ i = .int .i64 k ∧ wr = w2.drewN m ∧ idxL (caps.drop k) s k = idxL caps s 0) (fun i _ => 4 - (intOf i).toNat)
  case atStart => exact ⟨0, 0, Nat.zero_le _, rfl, rfl, rfl⟩
  case round =>
    obtain ⟨k, m, hk, rfl, rfl, hix⟩ := hrel
    have HX := Lib.hid hix
    clear hix
    by_cases hlt : k < 4
    · obtain ⟨x, hx⟩ : ∃ x, caps[k]? = some x := ⟨caps[k]'(by simp [caps]; omega), List.getElem?_eq_getElem _⟩
      have y1 : w2.cell? ⟨w.heap.size, k, none⟩ = some (.string x) := HR.out.2 k x hx
      have q0 : (0 : Int) ≤ (k : Int) := by omega
      have q1 : (k : Int) < 4 := by omega
      have HK := Lib.hid hx
      clear hx
      by_cases he : (x.toList == s.toList) = true
      · go_wp2
        go_ret2
        have ei : idxL caps s 0 = (k : Int) := by rw [← HX.out, idx_found HK.out he]
        exact ⟨by rw [ei, idxV_pos (by omega)]; rfl, below_dn HB.out _⟩
      · have he2 : (x.toList == s.toList) = false := by simpa using he
        clear he
        go_wp2
        go_roundw
        case rel => exact ⟨k + 1, _, by omega, by go_num, rfl, by rw [← HX.out, idx_step HK.out he2]⟩
        case measure => simp [intOf]; omega
    · have q1 : ¬ (k : Int) < 4 := by omega
      go_wp2
      go_ret2
      have ei : idxL caps s 0 = -1 := by rw [← HX.out, idx_none (by simp [caps]; omega)]
      exact ⟨by rw [ei, idxV_neg (by omega)]; rfl, below_dn HB.out _⟩
theorem impl_capd (s : ByteArray) (w : World) : Calls Try.prog 19 #[.string s] w fun e w' =>
    e = .returned (idxV (idxL caps s 0)) ∧ Below w.heap.size w w' := by
  obtain ⟨i, j, hi⟩ : ∃ i j : Int, idxV (idxL caps s 0) = .tuple #[.int .i64 i, .int .i64 j] := ⟨_, _, rfl⟩
  rw [hi]
  have HI := Lib.hid hi
  clear hi
  go_enter Try.func19, Try.ntmps19
  go_wp2_with fail
  refine (caps_named s _).mono ?_
  rintro e3 w3 ⟨rfl, hb3⟩
  rw [HI.out]
  go_wp2_with fail
  go_ret2
  exact ⟨rfl, hb3⟩

theorem walk_FnExactCaptureName (k : Int) (hk : I64 k) (w : World) : Calls Try.prog 9 #[.int .i64 k] w fun e w' => e = .returned (.bool true) ∧ Below w.heap.size w w' := by
  go_enter Try.func9, Try.ntmps9
  go_wp2_with (first | (go_at_call 36; refine (spec_cap _ _).mono ?_; rintro e w1 ⟨rfl, hb1⟩; obtain ⟨hc1, hf1⟩ := bcell hb1; have hs1 := hb1.size; (try simp at hs1); (try have hz1 : w.heap.size < w1.heap.size := by omega); (try have hy1 : w.heap.size + 1 < w1.heap.size := by omega); (try have hx1 := fun o => hc1 w.heap.size o (by first | omega | (simp; done) | (simp; omega))); (try have hv1 := fun o => hc1 (w.heap.size + 1) o (by first | omega | (simp; done) | (simp; omega)))) | (go_at_call 20; refine (caps_name _ _).mono ?_; rintro e w2 ⟨rfl, hb2⟩; obtain ⟨hc2, hf2⟩ := bcell hb2; have hs2 := hb2.size; (try simp at hs2); (try have hz2 : w.heap.size < w2.heap.size := by omega); (try have hy2 : w.heap.size + 1 < w2.heap.size := by omega); (try have hx2 := fun o => hc2 w.heap.size o (by first | omega | (simp; done) | (simp; omega))); (try have hv2 := fun o => hc2 (w.heap.size + 1) o (by first | omega | (simp; done) | (simp; omega))); (try have hq21 : w1.heap.size < w2.heap.size := by omega)))
  go_ret
  exact ⟨rfl, (by repeat (first | exact Below.refl _ _ | assumption | (refine Below.drew ?_) | (refine Below.setCell ?_ (by first | omega | (simp; done) | (simp; omega)) _) | (refine Below.alloc ?_ (by first | omega | (simp; done) | (simp; omega)) _) | (refine Below.trans ?_ (Below.mono (by assumption) (by first | omega | (simp; done) | (simp; omega))))))⟩
namespace fnExactCaptureName
set_option maxHeartbeats 2000000 in
set_option maxRecDepth 100000 in
theorem lifted (os : Os) (started : os.Started) (H : Type) (enc : TypeId × Value → H) :
    ReturnsInHanded {} Try.checked os 9 .any (Rows.fnExactCaptureNameSpec.pre6 enc Try.prog Try.f9 Rows.fnExactCaptureNameRow.domain false) (Rows.fnExactCaptureNameSpec.post enc Try.prog Try.f9 false true false false) := by
  refine returnsInHanded_of_change (C := Try.checked) own started (by kernel_rfl) Try.func9
    (ChangeSpec.witness6 (enc := enc) (C := Try.checked) false ⟨#[], #[.int .i64 0], []⟩ 8 (by kernel_rfl) (by kernel_rfl) (by kernel_rfl) (by kernel_rfl)) ?_
  intro W base args ds gs before hval0 hW hcnd _
  have hval : ∀ (j : Nat) t v, Try.f9.params[j]? = some t → args[j]? = some v → Value.okWide Try.prog W .any base t v := hval0
  have hW' := hW
  obtain ⟨p, q, hA0, hV, rfl, hfz, hnd⟩ := hW
  have hA : DataW.TrodAll enc Try.prog W 0 (fun _ => true) true Try.f9.params.toList args.toList ds p := hA0
  rw [Try.params9] at hA hval
  obtain ⟨v0, vs0, d0, ds0, p0, q0, hargs, rfl, rfl, h0, r0⟩ := trodAll_cons hA
  obtain ⟨rfl, rfl, rfl⟩ := trodAll_nil r0
  obtain rfl : args = #[v0] := by cases args; simp_all
  obtain ⟨rfl, rfl⟩ := trodVars_none hV
  have k0 := h0
  have lt0 : ∀ x ∈ p0, x.block < W.heap.size := by obtain ⟨m, hm⟩ := k0; exact DataW.trod_lt m _ _ _ hm
  obtain ⟨a0, rfl, -, -, w0⟩ := open_int Try.underlying2 (hval 0 2 v0 rfl rfl) h0
  clear hA0 hval0
  refine (walk_FnExactCaptureName a0 (wf_i64 w0) (w := W)).mono fun e W' ⟨he, bel⟩ => ?_
  subst he
  exact ⟨_, rfl, _, _, _, [], _, [], hW', trodAll_mk1 (shut_bool Try.underlying4 _), (trodAll_cons_mk (Below.trod laidOut (by kernel_rfl) (of_decide_eq_true (by kernel_rfl)) k0 bel lt0) trodAll_mk0), rfl, bel.frame _, fun h => by cases h⟩

theorem proved : Rows.FnExactCaptureNameSaid :=
  OpenClaim.holds_of_wide 9 Try.f9 rfl rfl rfl rfl rfl rfl rfl ⟨rfl, rfl, rfl, rfl, rfl⟩ rfl rfl rfl rfl rfl (by kernel_rfl) Try.func9 (by kernel_rfl)
    (of_decide_eq_true (by kernel_rfl)) (by unfold Func.isWrapper; first | (rw [if_pos (by decide +kernel)]; kernel_rfl) | (rw [if_neg (by decide +kernel)]; exact ⟨rfl, rfl⟩))
    (fun os started H enc _ => lifted os started H enc)
end fnExactCaptureName


theorem walk_FnExactCaptureNamed (s : ByteArray) (hs : s.size ≤ maxLen) (w : World) : Calls Try.prog 10 #[.string s] w fun e w' => e = .returned (.bool true) ∧ Below w.heap.size w w' := by
  unfold maxLen at hs
  by_cases hl : 1048576 < s.size
  · go_enter Try.func10, Try.ntmps10
    go_wp2
    go_ret
    exact ⟨rfl, Below.refl _ _⟩
  · obtain ⟨i, j, hi⟩ : ∃ i j : Int, idxV (idxL caps s 0) = .tuple #[.int .i64 i, .int .i64 j] := ⟨_, _, rfl⟩
    have HI := Lib.hid hi
    clear hi
    go_enter Try.func10, Try.ntmps10
    go_wp2_with (first | (go_at_call 22; refine (spec_capd _ _).mono ?_; rintro e w1 ⟨rfl, hb1⟩; obtain ⟨hc1, hf1⟩ := bcell hb1; have hs1 := hb1.size; (try simp at hs1); (try have hz1 : w.heap.size < w1.heap.size := by omega); (try have hy1 : w.heap.size + 1 < w1.heap.size := by omega); (try have hx1 := fun o => hc1 w.heap.size o (by first | omega | (simp; done) | (simp; omega))); (try have hv1 := fun o => hc1 (w.heap.size + 1) o (by first | omega | (simp; done) | (simp; omega))); rw [HI.out]) | (go_at_call 19; refine (impl_capd _ _).mono ?_; rintro e w2 ⟨rfl, hb2⟩; obtain ⟨hc2, hf2⟩ := bcell hb2; have hs2 := hb2.size; (try simp at hs2); (try have hz2 : w.heap.size < w2.heap.size := by omega); (try have hy2 : w.heap.size + 1 < w2.heap.size := by omega); (try have hx2 := fun o => hc2 w.heap.size o (by first | omega | (simp; done) | (simp; omega))); (try have hv2 := fun o => hc2 (w.heap.size + 1) o (by first | omega | (simp; done) | (simp; omega))); (try have hq21 : w1.heap.size < w2.heap.size := by omega); rw [HI.out]))
    go_ret
    exact ⟨rfl, (by repeat (first | exact Below.refl _ _ | assumption | (refine Below.drew ?_) | (refine Below.setCell ?_ (by first | omega | (simp; done) | (simp; omega)) _) | (refine Below.alloc ?_ (by first | omega | (simp; done) | (simp; omega)) _) | (refine Below.trans ?_ (Below.mono (by assumption) (by first | omega | (simp; done) | (simp; omega))))))⟩
namespace fnExactCaptureNamed
set_option maxHeartbeats 2000000 in
set_option maxRecDepth 100000 in
theorem lifted (os : Os) (started : os.Started) (H : Type) (enc : TypeId × Value → H) :
    ReturnsInHanded {} Try.checked os 10 .any (Rows.fnExactCaptureNamedSpec.pre6 enc Try.prog Try.f10 Rows.fnExactCaptureNamedRow.domain false) (Rows.fnExactCaptureNamedSpec.post enc Try.prog Try.f10 false true false false) := by
  refine returnsInHanded_of_change (C := Try.checked) own started (by kernel_rfl) Try.func10
    (ChangeSpec.witness6 (enc := enc) (C := Try.checked) false ⟨#[], #[.string ByteArray.empty], []⟩ 8 (by kernel_rfl) (by kernel_rfl) (by kernel_rfl) (by kernel_rfl)) ?_
  intro W base args ds gs before hval0 hW hcnd _
  have hval : ∀ (j : Nat) t v, Try.f10.params[j]? = some t → args[j]? = some v → Value.okWide Try.prog W .any base t v := hval0
  have hW' := hW
  obtain ⟨p, q, hA0, hV, rfl, hfz, hnd⟩ := hW
  have hA : DataW.TrodAll enc Try.prog W 0 (fun _ => true) true Try.f10.params.toList args.toList ds p := hA0
  rw [Try.params10] at hA hval
  obtain ⟨v0, vs0, d0, ds0, p0, q0, hargs, rfl, rfl, h0, r0⟩ := trodAll_cons hA
  obtain ⟨rfl, rfl, rfl⟩ := trodAll_nil r0
  obtain rfl : args = #[v0] := by cases args; simp_all
  obtain ⟨rfl, rfl⟩ := trodVars_none hV
  have k0 := h0
  have lt0 : ∀ x ∈ p0, x.block < W.heap.size := by obtain ⟨m, hm⟩ := k0; exact DataW.trod_lt m _ _ _ hm
  obtain ⟨a0, rfl, -, -, w0⟩ := open_string Try.underlying9 (hval 0 9 v0 rfl rfl) h0
  clear hA0 hval0
  refine (walk_FnExactCaptureNamed a0 w0 (w := W)).mono fun e W' ⟨he, bel⟩ => ?_
  subst he
  exact ⟨_, rfl, _, _, _, [], _, [], hW', trodAll_mk1 (shut_bool Try.underlying4 _), (trodAll_cons_mk (Below.trod laidOut (by kernel_rfl) (of_decide_eq_true (by kernel_rfl)) k0 bel lt0) trodAll_mk0), rfl, bel.frame _, fun h => by cases h⟩

theorem proved : Rows.FnExactCaptureNamedSaid :=
  OpenClaim.holds_of_wide 10 Try.f10 rfl rfl rfl rfl rfl rfl rfl ⟨rfl, rfl, rfl, rfl, rfl⟩ rfl rfl rfl rfl rfl (by kernel_rfl) Try.func10 (by kernel_rfl)
    (of_decide_eq_true (by kernel_rfl)) (by unfold Func.isWrapper; first | (rw [if_pos (by decide +kernel)]; kernel_rfl) | (rw [if_neg (by decide +kernel)]; exact ⟨rfl, rfl⟩))
    (fun os started H enc _ => lifted os started H enc)
end fnExactCaptureNamed

end Go.Proofs.Ytdppoepffdeehaa
