/- EndName of the reference and of the program return the same. No conditions. -/
import Derived.Test.YtipmhddkdmagnaaSlam
namespace Go.Proofs.Ytipmhddkdmagnaa
open Go.Joins Go.ChangeShapes Go.WideShapes Go.ChangeAt Go.RowKit Go.Deep
open Go.ChangeMaps (open_string shut_string)
set_option linter.unusedVariables false

def ends9 : List ByteArray := [⟨#[110, 111, 110, 101]⟩, ⟨#[114, 101, 115, 105, 103, 110]⟩, ⟨#[109, 97, 106, 111, 114, 105, 116, 121]⟩, ⟨#[98, 108, 111, 99, 107, 101, 100]⟩, ⟨#[114, 101, 112, 101, 97, 116]⟩, ⟨#[108, 101, 110, 103, 116, 104]⟩]
theorem ends9_any (w : World) : Calls Try.prog 39 #[] w (NewRow ends9 6 w) := by
  go_enter Try.func39, Try.ntmps39
  go_wp2
  go_ret
  exact new_row w ends9 6 9
theorem spec_end (k : Int) (w : World) : Calls Try.prog 11 #[.int .i64 k] w fun e w' => e = .returned (.string (nameAt ends9 k)) ∧ Below w.heap.size w w' := by
  by_cases h : 0 ≤ k ∧ k ≤ 5
  · obtain ⟨h0, h2⟩ := h
    have e : inR k 0 5 = true := by simp [inR, h0, h2]
    obtain ⟨n, rfl⟩ : ∃ n : Nat, k = n := ⟨k.toNat, by omega⟩
    obtain ⟨x, hx⟩ : ∃ x, ends9[n]? = some x := ⟨ends9[n]'(by simp [ends9]; omega), List.getElem?_eq_getElem _⟩
    have hnm : nameAt ends9 (n : Int) = x := by
      unfold nameAt
      rw [if_pos (by omega), List.getD_eq_getElem?_getD, Int.toNat_natCast, hx]
      rfl
    rw [hnm]
    clear hnm
    have q1 : (n : Int) < 6 := by omega
    have HK := Lib.hid hx
    clear hx
    go_enter Try.func11, Try.ntmps11
    go_wp2_with (go_at_call 38; refine (inS_any _ _ _ _).mono ?_; rintro e1 w1 ⟨rfl, hb1⟩; rw [e])
    go_wp2_with fail
    refine (ends9_any _).mono ?_
    rintro e2 w2 ⟨rfl, hb2, hs2, hr2⟩
    have y := hr2.2 n x HK.out
    go_wp2
    go_ret
    exact ⟨rfl, hb1.trans (hb2.mono hb1.size)⟩
  · have e : inR k 0 5 = false := by
      rw [← Bool.not_eq_true]
      simp only [inR, Bool.and_eq_true, decide_eq_true_eq]
      exact h
    have e2 : nameAt ends9 k = ⟨#[]⟩ := by
      unfold nameAt
      split
      · rw [List.getD_eq_getElem?_getD, List.getElem?_eq_none (by simp [ends9]; omega)]
        rfl
      · rfl
    rw [e2]
    go_enter Try.func11, Try.ntmps11
    go_wp2_with (go_at_call 38; refine (inS_any _ _ _ _).mono ?_; rintro e1 w1 ⟨rfl, hb1⟩; rw [e])
    go_ret
    exact ⟨rfl, hb1⟩
theorem endStr_any (k : Int) (w : World) : Calls Try.prog 40 #[.int .i64 k] w fun e w' => e = .returned (.string (nameAt ends9 k)) ∧ Below w.heap.size w w' := by
  by_cases h0 : k = 0
  · subst h0
    go_enter Try.func40, Try.ntmps40
    go_wp2
    go_ret
    exact ⟨rfl, Below.refl _ _⟩
  by_cases h1 : k = 1
  · subst h1
    go_enter Try.func40, Try.ntmps40
    go_wp2
    go_ret
    exact ⟨rfl, Below.refl _ _⟩
  by_cases h2 : k = 2
  · subst h2
    go_enter Try.func40, Try.ntmps40
    go_wp2
    go_ret
    exact ⟨rfl, Below.refl _ _⟩
  by_cases h3 : k = 3
  · subst h3
    go_enter Try.func40, Try.ntmps40
    go_wp2
    go_ret
    exact ⟨rfl, Below.refl _ _⟩
  by_cases h4 : k = 4
  · subst h4
    go_enter Try.func40, Try.ntmps40
    go_wp2
    go_ret
    exact ⟨rfl, Below.refl _ _⟩
  by_cases h5 : k = 5
  · subst h5
    go_enter Try.func40, Try.ntmps40
    go_wp2
    go_ret
    exact ⟨rfl, Below.refl _ _⟩
  have d0 : (k == 0) = false := by simpa using h0
  have d1 : (k == 1) = false := by simpa using h1
  have d2 : (k == 2) = false := by simpa using h2
  have d3 : (k == 3) = false := by simpa using h3
  have d4 : (k == 4) = false := by simpa using h4
  have d5 : (k == 5) = false := by simpa using h5
  have e2 : nameAt ends9 k = ⟨#[]⟩ := by
    unfold nameAt
    split
    · rw [List.getD_eq_getElem?_getD, List.getElem?_eq_none (by simp [ends9]; omega)]
      rfl
    · rfl
  rw [e2]
  clear e2 h0 h1 h2 h3 h4 h5
  go_enter Try.func40, Try.ntmps40
  go_wp2
  go_ret
  exact ⟨rfl, Below.refl _ _⟩
theorem impl_end (k : Int) (w : World) : Calls Try.prog 12 #[.int .i64 k] w fun e w' => e = .returned (.string (nameAt ends9 k)) ∧ Below w.heap.size w w' := by
  go_enter Try.func12, Try.ntmps12
  go_wp2_with (go_at_call 40; refine (endStr_any _ _).mono ?_; rintro e w1 ⟨rfl, hb1⟩; obtain ⟨hc1, hf1⟩ := bcell hb1; have hs1 := hb1.size; (try simp at hs1); (try have hz1 : w.heap.size < w1.heap.size := by omega); (try have hy1 : w.heap.size + 1 < w1.heap.size := by omega); (try have hx1 := fun o => hc1 w.heap.size o (by first | omega | (simp; done) | (simp; omega))); (try have hv1 := fun o => hc1 (w.heap.size + 1) o (by first | omega | (simp; done) | (simp; omega))))
  go_ret
  exact ⟨rfl, by assumption⟩
theorem walk_FnExactEndName (k : Int) (hk : I64 k) (w : World) : Calls Try.prog 3 #[.int .i64 k] w fun e w' => e = .returned (.bool true) ∧ Below w.heap.size w w' := by
  go_enter Try.func3, Try.ntmps3
  go_wp2_with (first | (go_at_call 11; refine (spec_end _ _).mono ?_; rintro e w1 ⟨rfl, hb1⟩; obtain ⟨hc1, hf1⟩ := bcell hb1; have hs1 := hb1.size; (try simp at hs1); (try have hz1 : w.heap.size < w1.heap.size := by omega); (try have hy1 : w.heap.size + 1 < w1.heap.size := by omega); (try have hx1 := fun o => hc1 w.heap.size o (by first | omega | (simp; done) | (simp; omega))); (try have hv1 := fun o => hc1 (w.heap.size + 1) o (by first | omega | (simp; done) | (simp; omega)))) | (go_at_call 12; refine (impl_end _ _).mono ?_; rintro e w2 ⟨rfl, hb2⟩; obtain ⟨hc2, hf2⟩ := bcell hb2; have hs2 := hb2.size; (try simp at hs2); (try have hz2 : w.heap.size < w2.heap.size := by omega); (try have hy2 : w.heap.size + 1 < w2.heap.size := by omega); (try have hx2 := fun o => hc2 w.heap.size o (by first | omega | (simp; done) | (simp; omega))); (try have hv2 := fun o => hc2 (w.heap.size + 1) o (by first | omega | (simp; done) | (simp; omega))); (try have hq21 : w1.heap.size < w2.heap.size := by omega)))
  go_ret
  exact ⟨rfl, (by repeat (first | exact Below.refl _ _ | assumption | (refine Below.drew ?_) | (refine Below.setCell ?_ (by first | omega | (simp; done) | (simp; omega)) _) | (refine Below.alloc ?_ (by first | omega | (simp; done) | (simp; omega)) _) | (refine Below.trans ?_ (Below.mono (by assumption) (by first | omega | (simp; done) | (simp; omega))))))⟩
namespace fnExactEndName
set_option maxHeartbeats 2000000 in
set_option maxRecDepth 100000 in
theorem lifted (os : Os) (started : os.Started) (H : Type) (enc : TypeId × Value → H) :
    ReturnsInHanded {} Try.checked os 3 .any (Rows.fnExactEndNameSpec.pre6 enc Try.prog Try.f3 Rows.fnExactEndNameRow.domain false) (Rows.fnExactEndNameSpec.post enc Try.prog Try.f3 false true false false) := by
  refine returnsInHanded_of_change (C := Try.checked) own started (by kernel_rfl) Try.func3
    (ChangeSpec.witness6 (enc := enc) (C := Try.checked) false ⟨#[], #[.int .i64 0], []⟩ 8 (by kernel_rfl) (by kernel_rfl) (by kernel_rfl) (by kernel_rfl)) ?_
  intro W base args ds gs before hval0 hW hcnd _
  have hval : ∀ (j : Nat) t v, Try.f3.params[j]? = some t → args[j]? = some v → Value.okWide Try.prog W .any base t v := hval0
  have hW' := hW
  obtain ⟨p, q, hA0, hV, rfl, hfz, hnd⟩ := hW
  have hA : DataW.TrodAll enc Try.prog W 0 (fun _ => true) true Try.f3.params.toList args.toList ds p := hA0
  rw [Try.params3] at hA hval
  obtain ⟨v0, vs0, d0, ds0, p0, q0, hargs, rfl, rfl, h0, r0⟩ := trodAll_cons hA
  obtain ⟨rfl, rfl, rfl⟩ := trodAll_nil r0
  obtain rfl : args = #[v0] := by cases args; simp_all
  obtain ⟨rfl, rfl⟩ := trodVars_none hV
  have k0 := h0
  have lt0 : ∀ x ∈ p0, x.block < W.heap.size := by obtain ⟨m, hm⟩ := k0; exact DataW.trod_lt m _ _ _ hm
  obtain ⟨a0, rfl, -, -, w0⟩ := open_int Try.underlying2 (hval 0 2 v0 rfl rfl) h0
  clear hA0 hval0
  refine (walk_FnExactEndName a0 (wf_i64 w0) (w := W)).mono fun e W' ⟨he, bel⟩ => ?_
  subst he
  exact ⟨_, rfl, _, _, _, [], _, [], hW', trodAll_mk1 (shut_bool Try.underlying4 _), (trodAll_cons_mk (Below.trod laidOut (by kernel_rfl) (of_decide_eq_true (by kernel_rfl)) k0 bel lt0) trodAll_mk0), rfl, bel.frame _, fun h => by cases h⟩

theorem proved : Rows.FnExactEndNameSaid :=
  OpenClaim.holds_of_wide 3 Try.f3 rfl rfl rfl rfl rfl rfl rfl ⟨rfl, rfl, rfl, rfl, rfl⟩ rfl rfl rfl rfl rfl (by kernel_rfl) Try.func3 (by kernel_rfl)
    (of_decide_eq_true (by kernel_rfl)) (by unfold Func.isWrapper; first | (rw [if_pos (by decide +kernel)]; kernel_rfl) | (rw [if_neg (by decide +kernel)]; exact ⟨rfl, rfl⟩))
    (fun os started H enc _ => lifted os started H enc)
end fnExactEndName

end Go.Proofs.Ytipmhddkdmagnaa
