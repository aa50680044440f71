/- SlamName and SlamNamed of the reference and of the program return the same. No conditions. -/
import Derived.Test.YtihbaehfgjkajaaSlam
namespace Go.Proofs.Ytihbaehfgjkajaa
open Go.Joins Go.ChangeShapes Go.WideShapes Go.ChangeAt Go.RowKit Go.Deep
open Go.ChangeMaps (open_string shut_string)
set_option linter.unusedVariables false

theorem spec_slam (k : Int) (w : World) : Calls Try.prog 5 #[.int .i64 k] w fun e w' => e = .returned (.string (nameAt slams k)) ∧ Below w.heap.size w w' := by
  by_cases h : 0 ≤ k ∧ k ≤ 2
  · obtain ⟨h0, h2⟩ := h
    have e : inR k 0 2 = true := by simp [inR, h0, h2]
    obtain ⟨n, rfl⟩ : ∃ n : Nat, k = n := ⟨k.toNat, by omega⟩
    obtain ⟨x, hx⟩ : ∃ x, slams[n]? = some x := ⟨slams[n]'(by simp [slams]; omega), List.getElem?_eq_getElem _⟩
    have hnm : nameAt slams (n : Int) = x := by
      unfold nameAt
      rw [if_pos (by omega), List.getD_eq_getElem?_getD, Int.toNat_natCast, hx]
      rfl
    rw [hnm]
    clear hnm
    have q1 : (n : Int) < 3 := by omega
    have HK := Lib.hid hx
    clear hx
    go_enter Try.func5, Try.ntmps5
    go_wp2_with (go_at_call 9; refine (in_any _ _ _ _).mono ?_; rintro e1 w1 ⟨rfl, hb1⟩; rw [e])
    go_wp2_with fail
    refine (slams_any _).mono ?_
    rintro e2 w2 ⟨rfl, hb2, hs2, hr2⟩
    have y := hr2.2 n x HK.out
    go_wp2
    go_ret
    exact ⟨rfl, hb1.trans (hb2.mono hb1.size)⟩
  · have e : inR k 0 2 = false := by
      rw [← Bool.not_eq_true]
      simp only [inR, Bool.and_eq_true, decide_eq_true_eq]
      exact h
    have e2 : nameAt slams k = ⟨#[]⟩ := by
      unfold nameAt
      split
      · rw [List.getD_eq_getElem?_getD, List.getElem?_eq_none (by simp [slams]; omega)]
        rfl
      · rfl
    rw [e2]
    go_enter Try.func5, Try.ntmps5
    go_wp2_with (go_at_call 9; refine (in_any _ _ _ _).mono ?_; rintro e1 w1 ⟨rfl, hb1⟩; rw [e])
    go_ret
    exact ⟨rfl, hb1⟩
theorem spec_slamed (s : ByteArray) (w : World) : Calls Try.prog 7 #[.string s] w fun e w' =>
    e = .returned (idxV (idxL slams s 0)) ∧ Below w.heap.size w w' := by
  obtain ⟨i, hi⟩ : ∃ i, idxL slams s 0 = i := ⟨_, rfl⟩
  rw [hi]
  have HI := Lib.hid hi
  clear hi
  by_cases h : i < 0
  · rw [idxV_neg h]
    go_enter Try.func7, Try.ntmps7
    go_wp2_with fail
    refine (slams_any _).mono ?_
    rintro e2 w2 ⟨rfl, hb2, hs2, hr2⟩
    go_wp2_with fail
    refine (index_any slams _ _ _ s _ rfl (by decide) hr2).mono ?_
    rintro e3 w3 ⟨rfl, hb3⟩
    rw [HI.out]
    go_wp2_with fail
    go_ret2
    exact ⟨rfl, hb2.trans (hb3.mono hb2.size)⟩
  · rw [idxV_pos h]
    go_enter Try.func7, Try.ntmps7
    go_wp2_with fail
    refine (slams_any _).mono ?_
    rintro e2 w2 ⟨rfl, hb2, hs2, hr2⟩
    go_wp2_with fail
    refine (index_any slams _ _ _ s _ rfl (by decide) hr2).mono ?_
    rintro e3 w3 ⟨rfl, hb3⟩
    rw [HI.out]
    go_wp2_with fail
    go_ret2
    exact ⟨rfl, hb2.trans (hb3.mono hb2.size)⟩
theorem impl_slamed (s : ByteArray) (w : World) : Calls Try.prog 8 #[.string s] w fun e w' =>
    e = .returned (idxV (idxL slams s 0)) ∧ Below w.heap.size w w' := by
  obtain ⟨i, j, hi⟩ : ∃ i j : Int, idxV (idxL slams s 0) = .tuple #[.int .i64 i, .int .i64 j] := ⟨_, _, rfl⟩
  rw [hi]
  have HI := Lib.hid hi
  clear hi
  go_enter Try.func8, Try.ntmps8
  go_wp2_with fail
  refine (slams_named s _).mono ?_
  rintro e3 w3 ⟨rfl, hb3⟩
  rw [HI.out]
  go_wp2_with fail
  go_ret2
  exact ⟨rfl, hb3⟩

theorem walk_FnExactSlamName (k : Int) (hk : I64 k) (w : World) : Calls Try.prog 3 #[.int .i64 k] w fun e w' => e = .returned (.bool true) ∧ Below w.heap.size w w' := by
  go_enter Try.func3, Try.ntmps3
  go_wp2_with (first | (go_at_call 5; refine (spec_slam _ _).mono ?_; rintro e w1 ⟨rfl, hb1⟩; obtain ⟨hc1, hf1⟩ := bcell hb1; have hs1 := hb1.size; (try simp at hs1); (try have hz1 : w.heap.size < w1.heap.size := by omega); (try have hy1 : w.heap.size + 1 < w1.heap.size := by omega); (try have hx1 := fun o => hc1 w.heap.size o (by first | omega | (simp; done) | (simp; omega))); (try have hv1 := fun o => hc1 (w.heap.size + 1) o (by first | omega | (simp; done) | (simp; omega)))) | (go_at_call 6; refine (slams_name _ _).mono ?_; rintro e w2 ⟨rfl, hb2⟩; obtain ⟨hc2, hf2⟩ := bcell hb2; have hs2 := hb2.size; (try simp at hs2); (try have hz2 : w.heap.size < w2.heap.size := by omega); (try have hy2 : w.heap.size + 1 < w2.heap.size := by omega); (try have hx2 := fun o => hc2 w.heap.size o (by first | omega | (simp; done) | (simp; omega))); (try have hv2 := fun o => hc2 (w.heap.size + 1) o (by first | omega | (simp; done) | (simp; omega))); (try have hq21 : w1.heap.size < w2.heap.size := by omega)))
  go_ret
  exact ⟨rfl, (by repeat (first | exact Below.refl _ _ | assumption | (refine Below.drew ?_) | (refine Below.setCell ?_ (by first | omega | (simp; done) | (simp; omega)) _) | (refine Below.alloc ?_ (by first | omega | (simp; done) | (simp; omega)) _) | (refine Below.trans ?_ (Below.mono (by assumption) (by first | omega | (simp; done) | (simp; omega))))))⟩
namespace fnExactSlamName
set_option maxRecDepth 100000 in
theorem lifted (os : Os) (started : os.Started) (H : Type) (enc : TypeId × Value → H) :
    ReturnsInHanded {} Try.checked os 3 .any (Rows.fnExactSlamNameSpec.pre6 enc Try.prog Try.f3 Rows.fnExactSlamNameRow.domain false) (Rows.fnExactSlamNameSpec.post enc Try.prog Try.f3 false true false false) := by
  refine returnsInHanded_of_change (C := Try.checked) own started (by kernel_rfl) Try.func3
    (ChangeSpec.witness6 (enc := enc) (C := Try.checked) false ⟨#[], #[.int .i64 0], []⟩ 8 (by kernel_rfl) (by kernel_rfl) (by kernel_rfl) (by kernel_rfl)) ?_
  intro W base args ds gs before hval0 hW hcnd _
  have hval : ∀ (j : Nat) t v, Try.f3.params[j]? = some t → args[j]? = some v → Value.okWide Try.prog W .any base t v := hval0
  have hW' := hW
  obtain ⟨p, q, hA0, hV, rfl, hfz, hnd⟩ := hW
  have hA : DataW.TrodAll enc Try.prog W 0 (fun _ => true) true Try.f3.params.toList args.toList ds p := hA0
  rw [Try.params3] at hA hval
  obtain ⟨v0, vs0, d0, ds0, p0, q0, hargs, rfl, rfl, h0, r0⟩ := trodAll_cons hA
  obtain ⟨rfl, rfl, rfl⟩ := trodAll_nil r0
  obtain rfl : args = #[v0] := by cases args; simp_all
  obtain ⟨rfl, rfl⟩ := trodVars_none hV
  have k0 := h0
  have lt0 : ∀ x ∈ p0, x.block < W.heap.size := by obtain ⟨m, hm⟩ := k0; exact DataW.trod_lt m _ _ _ hm
  obtain ⟨a0, rfl, -, -, w0⟩ := open_int Try.underlying2 (hval 0 2 v0 rfl rfl) h0
  clear hA0 hval0
  refine (walk_FnExactSlamName a0 (wf_i64 w0) (w := W)).mono fun e W' ⟨he, bel⟩ => ?_
  subst he
  exact ⟨_, rfl, _, _, _, [], _, [], hW', trodAll_mk1 (shut_bool Try.underlying4 _), (trodAll_cons_mk (Below.trod laidOut (by kernel_rfl) (of_decide_eq_true (by kernel_rfl)) k0 bel lt0) trodAll_mk0), rfl, bel.frame _, fun h => by cases h⟩

theorem proved : Rows.FnExactSlamNameSaid :=
  OpenClaim.holds_of_wide 3 Try.f3 rfl rfl rfl rfl rfl rfl rfl ⟨rfl, rfl, rfl, rfl, rfl⟩ rfl rfl rfl rfl rfl (by kernel_rfl) Try.func3 (by kernel_rfl)
    (of_decide_eq_true (by kernel_rfl)) (by unfold Func.isWrapper; first | (rw [if_pos (by decide +kernel)]; kernel_rfl) | (rw [if_neg (by decide +kernel)]; exact ⟨rfl, rfl⟩))
    (fun os started H enc _ => lifted os started H enc)
end fnExactSlamName


theorem walk_FnExactSlamNamed (s : ByteArray) (hs : s.size ≤ maxLen) (w : World) : Calls Try.prog 4 #[.string s] w fun e w' => e = .returned (.bool true) ∧ Below w.heap.size w w' := by
  unfold maxLen at hs
  by_cases hl : 1048576 < s.size
  · go_enter Try.func4, Try.ntmps4
    go_wp2
    go_ret
    exact ⟨rfl, Below.refl _ _⟩
  · obtain ⟨i, j, hi⟩ : ∃ i j : Int, idxV (idxL slams s 0) = .tuple #[.int .i64 i, .int .i64 j] := ⟨_, _, rfl⟩
    have HI := Lib.hid hi
    clear hi
    go_enter Try.func4, Try.ntmps4
    go_wp2_with (first | (go_at_call 7; refine (spec_slamed _ _).mono ?_; rintro e w1 ⟨rfl, hb1⟩; obtain ⟨hc1, hf1⟩ := bcell hb1; have hs1 := hb1.size; (try simp at hs1); (try have hz1 : w.heap.size < w1.heap.size := by omega); (try have hy1 : w.heap.size + 1 < w1.heap.size := by omega); (try have hx1 := fun o => hc1 w.heap.size o (by first | omega | (simp; done) | (simp; omega))); (try have hv1 := fun o => hc1 (w.heap.size + 1) o (by first | omega | (simp; done) | (simp; omega))); rw [HI.out]) | (go_at_call 8; refine (impl_slamed _ _).mono ?_; rintro e w2 ⟨rfl, hb2⟩; obtain ⟨hc2, hf2⟩ := bcell hb2; have hs2 := hb2.size; (try simp at hs2); (try have hz2 : w.heap.size < w2.heap.size := by omega); (try have hy2 : w.heap.size + 1 < w2.heap.size := by omega); (try have hx2 := fun o => hc2 w.heap.size o (by first | omega | (simp; done) | (simp; omega))); (try have hv2 := fun o => hc2 (w.heap.size + 1) o (by first | omega | (simp; done) | (simp; omega))); (try have hq21 : w1.heap.size < w2.heap.size := by omega); rw [HI.out]))
    go_ret
    exact ⟨rfl, (by repeat (first | exact Below.refl _ _ | assumption | (refine Below.drew ?_) | (refine Below.setCell ?_ (by first | omega | (simp; done) | (simp; omega)) _) | (refine Below.alloc ?_ (by first | omega | (simp; done) | (simp; omega)) _) | (refine Below.trans ?_ (Below.mono (by assumption) (by first | omega | (simp; done) | (simp; omega))))))⟩
namespace fnExactSlamNamed
set_option maxRecDepth 100000 in
theorem lifted (os : Os) (started : os.Started) (H : Type) (enc : TypeId × Value → H) :
    ReturnsInHanded {} Try.checked os 4 .any (Rows.fnExactSlamNamedSpec.pre6 enc Try.prog Try.f4 Rows.fnExactSlamNamedRow.domain false) (Rows.fnExactSlamNamedSpec.post enc Try.prog Try.f4 false true false false) := by
  refine returnsInHanded_of_change (C := Try.checked) own started (by kernel_rfl) Try.func4
    (ChangeSpec.witness6 (enc := enc) (C := Try.checked) false ⟨#[], #[.string ByteArray.empty], []⟩ 8 (by kernel_rfl) (by kernel_rfl) (by kernel_rfl) (by kernel_rfl)) ?_
  intro W base args ds gs before hval0 hW hcnd _
  have hval : ∀ (j : Nat) t v, Try.f4.params[j]? = some t → args[j]? = some v → Value.okWide Try.prog W .any base t v := hval0
  have hW' := hW
  obtain ⟨p, q, hA0, hV, rfl, hfz, hnd⟩ := hW
  have hA : DataW.TrodAll enc Try.prog W 0 (fun _ => true) true Try.f4.params.toList args.toList ds p := hA0
  rw [Try.params4] at hA hval
  obtain ⟨v0, vs0, d0, ds0, p0, q0, hargs, rfl, rfl, h0, r0⟩ := trodAll_cons hA
  obtain ⟨rfl, rfl, rfl⟩ := trodAll_nil r0
  obtain rfl : args = #[v0] := by cases args; simp_all
  obtain ⟨rfl, rfl⟩ := trodVars_none hV
  have k0 := h0
  have lt0 : ∀ x ∈ p0, x.block < W.heap.size := by obtain ⟨m, hm⟩ := k0; exact DataW.trod_lt m _ _ _ hm
  obtain ⟨a0, rfl, -, -, w0⟩ := open_string Try.underlying9 (hval 0 9 v0 rfl rfl) h0
  clear hA0 hval0
  refine (walk_FnExactSlamNamed a0 w0 (w := W)).mono fun e W' ⟨he, bel⟩ => ?_
  subst he
  exact ⟨_, rfl, _, _, _, [], _, [], hW', trodAll_mk1 (shut_bool Try.underlying4 _), (trodAll_cons_mk (Below.trod laidOut (by kernel_rfl) (of_decide_eq_true (by kernel_rfl)) k0 bel lt0) trodAll_mk0), rfl, bel.frame _, fun h => by cases h⟩

theorem proved : Rows.FnExactSlamNamedSaid :=
  OpenClaim.holds_of_wide 4 Try.f4 rfl rfl rfl rfl rfl rfl rfl ⟨rfl, rfl, rfl, rfl, rfl⟩ rfl rfl rfl rfl rfl (by kernel_rfl) Try.func4 (by kernel_rfl)
    (of_decide_eq_true (by kernel_rfl)) (by unfold Func.isWrapper; first | (rw [if_pos (by decide +kernel)]; kernel_rfl) | (rw [if_neg (by decide +kernel)]; exact ⟨rfl, rfl⟩))
    (fun os started H enc _ => lifted os started H enc)
end fnExactSlamNamed

end Go.Proofs.Ytihbaehfgjkajaa
