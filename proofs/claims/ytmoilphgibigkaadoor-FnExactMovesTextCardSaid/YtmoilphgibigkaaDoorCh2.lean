/- What the functions of chapter 2 (of the program and of the reference) return, function by function. No conditions. -/
import Derived.Test.YtmoilphgibigkaaDoorOpen
namespace Go.Proofs.YtmoilphgibigkaaDoor
open Go.Joins Go.ChangeShapes Go.WideShapes Go.ChangeAt Go.RowKit Go.Deep
set_option linter.unusedVariables false

/-- Rules are valid. -/
def okR (p s c l : Int) (st ag : Bool) : Bool :=
  decide (2 ≤ p) && decide (p ≤ 8) && decide (1 ≤ s) && decide (s ≤ 6) && decide (0 ≤ c) && decide (c ≤ 3) && decide (0 ≤ l) && decide (l ≤ 2) && (st || !ag)
theorem okR_bd {p s c l : Int} {st ag : Bool} (h : okR p s c l st ag = true) : 2 ≤ p ∧ p ≤ 8 ∧ 1 ≤ s ∧ s ≤ 6 ∧ 0 ≤ c ∧ c ≤ 3 ∧ 0 ≤ l ∧ l ≤ 2 := by
  unfold okR at h
  simp only [Bool.and_eq_true, decide_eq_true_eq] at h
  omega

theorem in_any (n lo hi : Int) (w : World) :
    Calls Tryd.prog 21 #[.int .i64 n, .int .i64 lo, .int .i64 hi] w fun e w' => e = .returned (.bool (decide (lo ≤ n) && decide (n ≤ hi))) ∧ w = w' := by
  go_enter Tryd.func21, Tryd.ntmps21
  go_wp2
  all_goals
    go_ret
    exact ⟨by simp [*]; try omega, rfl⟩

theorem in_b (n lo hi : Int) (r : Bool) (h : (decide (lo ≤ n) && decide (n ≤ hi)) = r) (w : World) :
    Calls Tryd.prog 21 #[.int .i64 n, .int .i64 lo, .int .i64 hi] w fun e w' => e = .returned (.bool r) ∧ w = w' :=
  (in_any n lo hi w).mono fun e w' ⟨he, hw⟩ => ⟨by rw [he, h], hw⟩

/-- The code of a pit. -/
def pitC (ok : Bool) (p pit : Int) : Int := if ok then (if 0 ≤ pit ∧ pit < 2 * p then 0 else 2) else 1
theorem pitC_bad (p pit : Int) : pitC false p pit = 1 := rfl
theorem pitC_out {p pit : Int} (h : ¬ (0 ≤ pit ∧ pit < 2 * p)) : pitC true p pit = 2 := by simp [pitC, h]
theorem pitC_in {p pit : Int} (h0 : 0 ≤ pit) (h1 : pit < 2 * p) : pitC true p pit = 0 := by simp [pitC, h0, h1]
/-- The code of a player and a move. -/
def moveC (ok : Bool) (p player move : Int) : Int := if ok then (if (0 ≤ player ∧ player ≤ 1) ∧ (0 ≤ move ∧ move < p) then 0 else 2) else 1

theorem pit_cases (ok : Bool) (p pit : Int) : (ok = false ∧ pitC ok p pit = 1) ∨ (ok = true ∧ ¬ (0 ≤ pit ∧ pit < 2 * p) ∧ pitC ok p pit = 2) ∨ (ok = true ∧ 0 ≤ pit ∧ pit < 2 * p ∧ pitC ok p pit = 0) := by
  cases ok
  · exact .inl ⟨rfl, rfl⟩
  · by_cases h : 0 ≤ pit ∧ pit < 2 * p
    · exact .inr (.inr ⟨rfl, h.1, h.2, pitC_in h.1 h.2⟩)
    · exact .inr (.inl ⟨rfl, h, pitC_out h⟩)

end Go.Proofs.YtmoilphgibigkaaDoor
