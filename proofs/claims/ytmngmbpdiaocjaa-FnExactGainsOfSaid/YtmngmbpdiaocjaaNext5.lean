/- The place behind a place, as the reference finds it. No conditions. -/
import Derived.Test.YtmngmbpdiaocjaaSow
import Derived.Test.YtmngmbpdiaocjaaCh2
namespace Go.Proofs.Ytmngmbpdiaocjaa
open Go.Joins Go.ChangeShapes Go.WideShapes Go.ChangeAt Go.RowKit Go.Deep
set_option linter.unusedVariables false

theorem en_0' (p : Int) : en p 0 = p - 1 := by simp [en]
theorem en_1' (p : Int) : en p 1 = 2 * p - 1 := by simp [en]
theorem nextQ_any (p pit : Int) (b : Nat) (w : World) (c0 : w.cell? ⟨b, 0, none⟩ = some (.int .i64 p)) (h0 : 2 ≤ p) (h1 : p ≤ 8) (h2 : 0 ≤ pit) (h3 : pit < 2 * p) :
    Calls Try.prog 116 #[.pointer (some ⟨b, 0, none⟩), .int .i64 pit] w fun e w' => e = .returned (.int .i64 (nxp p pit)) ∧ w = w' :=
  (nextP_any p pit b w c0 h0 h1 h2 h3).mono fun _ _ ⟨he, hw⟩ => ⟨by rw [he, nxp_mod h2 h3], hw⟩
set_option maxHeartbeats 1000000 in
theorem specNext0 (p x : Int) (st : Bool) (b : Nat) (w : World) (c0 : w.cell? ⟨b, 0, none⟩ = some (.int .i64 p)) (c2 : w.cell? ⟨b, 2, none⟩ = some (.bool st)) (h0 : 2 ≤ p) (h1 : p ≤ 8) (h2 : -1 ≤ x) (h3 : x < 2 * p) :
    Calls Try.prog 112 #[.pointer (some ⟨b, 0, none⟩), .int .i64 0, .int .i64 x] w fun e w' => e = .returned (.int .i64 (nx p 0 st x)) ∧ w = w' := by
  by_cases hx : x = -1
  · subst hx
    have he : nx p 0 st (-1) = nxp p (p - 1) := by rw [nx_store, en_0']
    have He := Lib.hid he
    clear he
    go_enter Try.func112, Try.ntmps112
    go_wp2_with (go_at_call 116; refine (nextQ_any p _ b _ c0 h0 h1 (by omega) (by omega)).mono ?_; rintro e w' ⟨rfl, rfl⟩)
    go_ret
    exact ⟨by rw [He.out]; rfl, rfl⟩
  · by_cases hE : st = true ∧ x = p - 1
    · obtain ⟨rfl, hxe⟩ := hE
      have he : nx p 0 true x = -1 := nx_end hx (by rw [en_0']; simp [hxe])
      have hd : (x == p - 1) = true := by simp [hxe]
      have hd1 : (x == -1) = false := by simpa using hx
      have He := Lib.hid he
      clear he hxe hx
      go_enter Try.func112, Try.ntmps112
      go_wp2
      go_ret
      exact ⟨by rw [He.out]; rfl, rfl⟩
    · have hs : (st && decide (x = en p 0)) = false := by
        rw [en_0']
        cases st
        · rfl
        · simpa using hE
      have he : nx p 0 st x = nxp p x := nx_pit hx hs
      have He := Lib.hid he
      have hd1 : (x == -1) = false := by simpa using hx
      have hst : st = false ∨ (st = true ∧ (x == p - 1) = false) := by
        cases st
        · exact .inl rfl
        · exact .inr ⟨rfl, by rw [en_0'] at hs; simpa using hs⟩
      have q0 : 0 ≤ x := by omega
      clear he hs hE hx
      rcases hst with rfl | ⟨rfl, hd⟩
      all_goals
        go_enter Try.func112, Try.ntmps112
        go_wp2_with (go_at_call 116; refine (nextQ_any p _ b _ c0 h0 h1 q0 h3).mono ?_; rintro e w' ⟨rfl, rfl⟩)
        go_ret
        exact ⟨by rw [He.out]; rfl, rfl⟩
set_option maxHeartbeats 1000000 in
theorem specNext1 (p x : Int) (st : Bool) (b : Nat) (w : World) (c0 : w.cell? ⟨b, 0, none⟩ = some (.int .i64 p)) (c2 : w.cell? ⟨b, 2, none⟩ = some (.bool st)) (h0 : 2 ≤ p) (h1 : p ≤ 8) (h2 : -1 ≤ x) (h3 : x < 2 * p) :
    Calls Try.prog 112 #[.pointer (some ⟨b, 0, none⟩), .int .i64 1, .int .i64 x] w fun e w' => e = .returned (.int .i64 (nx p 1 st x)) ∧ w = w' := by
  by_cases hx : x = -1
  · subst hx
    have he : nx p 1 st (-1) = nxp p (2 * p - 1) := by rw [nx_store, en_1']
    have He := Lib.hid he
    clear he
    go_enter Try.func112, Try.ntmps112
    go_wp2_with (go_at_call 116; refine (nextQ_any p _ b _ c0 h0 h1 (by omega) (by omega)).mono ?_; rintro e w' ⟨rfl, rfl⟩)
    go_ret
    exact ⟨by rw [He.out]; rfl, rfl⟩
  · by_cases hE : st = true ∧ x = 2 * p - 1
    · obtain ⟨rfl, hxe⟩ := hE
      have he : nx p 1 true x = -1 := nx_end hx (by rw [en_1']; simp [hxe])
      have hd : (x == 2 * p - 1) = true := by simp [hxe]
      have hd1 : (x == -1) = false := by simpa using hx
      have He := Lib.hid he
      clear he hxe hx
      go_enter Try.func112, Try.ntmps112
      go_wp2
      go_ret
      exact ⟨by rw [He.out]; rfl, rfl⟩
    · have hs : (st && decide (x = en p 1)) = false := by
        rw [en_1']
        cases st
        · rfl
        · simpa using hE
      have he : nx p 1 st x = nxp p x := nx_pit hx hs
      have He := Lib.hid he
      have hd1 : (x == -1) = false := by simpa using hx
      have hst : st = false ∨ (st = true ∧ (x == 2 * p - 1) = false) := by
        cases st
        · exact .inl rfl
        · exact .inr ⟨rfl, by rw [en_1'] at hs; simpa using hs⟩
      have q0 : 0 ≤ x := by omega
      clear he hs hE hx
      rcases hst with rfl | ⟨rfl, hd⟩
      all_goals
        go_enter Try.func112, Try.ntmps112
        go_wp2_with (go_at_call 116; refine (nextQ_any p _ b _ c0 h0 h1 q0 h3).mono ?_; rintro e w' ⟨rfl, rfl⟩)
        go_ret
        exact ⟨by rw [He.out]; rfl, rfl⟩
end Go.Proofs.Ytmngmbpdiaocjaa
