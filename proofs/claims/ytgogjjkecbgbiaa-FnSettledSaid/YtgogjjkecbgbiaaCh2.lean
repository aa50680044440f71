/- What the functions of chapter 2 (of the program and of the reference) return, function by function. No conditions. -/
import Derived.Test.YtgogjjkecbgbiaaOpen
namespace Go.Proofs.Ytgogjjkecbgbiaa
open Go.Joins Go.ChangeShapes Go.WideShapes Go.ChangeAt Go.RowKit Go.Deep
set_option linter.unusedVariables false

/-- Rules are valid. -/
def okR (p s c l : Int) (st ag : Bool) : Bool :=
  decide (2 ≤ p) && decide (p ≤ 8) && decide (1 ≤ s) && decide (s ≤ 6) && decide (0 ≤ c) && decide (c ≤ 3) && decide (0 ≤ l) && decide (l ≤ 2) && (st || !ag)
theorem okR_bd {p s c l : Int} {st ag : Bool} (h : okR p s c l st ag = true) : 2 ≤ p ∧ p ≤ 8 ∧ 1 ≤ s ∧ s ≤ 6 ∧ 0 ≤ c ∧ c ≤ 3 ∧ 0 ≤ l ∧ l ≤ 2 := by
  unfold okR at h
  simp only [Bool.and_eq_true, decide_eq_true_eq] at h
  omega

theorem in_any (n lo hi : Int) (w : World) :
    Calls Try.prog 23 #[.int .i64 n, .int .i64 lo, .int .i64 hi] w fun e w' => e = .returned (.bool (decide (lo ≤ n) && decide (n ≤ hi))) ∧ w = w' := by
  go_enter Try.func23, Try.ntmps23
  go_wp2
  all_goals
    go_ret
    exact ⟨by simp [*]; try omega, rfl⟩

theorem in_b (n lo hi : Int) (r : Bool) (h : (decide (lo ≤ n) && decide (n ≤ hi)) = r) (w : World) :
    Calls Try.prog 23 #[.int .i64 n, .int .i64 lo, .int .i64 hi] w fun e w' => e = .returned (.bool r) ∧ w = w' :=
  (in_any n lo hi w).mono fun e w' ⟨he, hw⟩ => ⟨by rw [he, h], hw⟩

theorem l02Ok_any (p s c l : Int) (st sk re fe ag : Bool) (b : Nat) (w : World) (c0 : w.cell? ⟨b, 0, none⟩ = some (.int .i64 p)) (c1 : w.cell? ⟨b, 1, none⟩ = some (.int .i64 s)) (c2 : w.cell? ⟨b, 2, none⟩ = some (.bool st)) (c3 : w.cell? ⟨b, 3, none⟩ = some (.bool sk)) (c4 : w.cell? ⟨b, 4, none⟩ = some (.bool re)) (c5 : w.cell? ⟨b, 5, none⟩ = some (.bool fe)) (c6 : w.cell? ⟨b, 6, none⟩ = some (.bool ag)) (c7 : w.cell? ⟨b, 7, none⟩ = some (.int .i64 c)) (c8 : w.cell? ⟨b, 8, none⟩ = some (.int .i64 l)) :
    Calls Try.prog 42 #[.pointer (some ⟨b, 0, none⟩)] w fun e w' => e = .returned (.bool (okR p s c l st ag)) ∧ w = w' := by
  go_enter Try.func42, Try.ntmps42
  go_wp2_with (go_at_call 23; refine (in_any _ _ _ _).mono ?_; rintro e w' ⟨rfl, rfl⟩)
  all_goals
    go_ret
    exact ⟨by simp [okR, *]; try omega, rfl⟩

theorem l02Ok_b (p s c l : Int) (st sk re fe ag : Bool) (r : Bool) (h : okR p s c l st ag = r) (b : Nat) (w : World) (c0 : w.cell? ⟨b, 0, none⟩ = some (.int .i64 p)) (c1 : w.cell? ⟨b, 1, none⟩ = some (.int .i64 s)) (c2 : w.cell? ⟨b, 2, none⟩ = some (.bool st)) (c3 : w.cell? ⟨b, 3, none⟩ = some (.bool sk)) (c4 : w.cell? ⟨b, 4, none⟩ = some (.bool re)) (c5 : w.cell? ⟨b, 5, none⟩ = some (.bool fe)) (c6 : w.cell? ⟨b, 6, none⟩ = some (.bool ag)) (c7 : w.cell? ⟨b, 7, none⟩ = some (.int .i64 c)) (c8 : w.cell? ⟨b, 8, none⟩ = some (.int .i64 l)) :
    Calls Try.prog 42 #[.pointer (some ⟨b, 0, none⟩)] w fun e w' => e = .returned (.bool r) ∧ w = w' :=
  (l02Ok_any p s c l st sk re fe ag b w c0 c1 c2 c3 c4 c5 c6 c7 c8).mono fun e w' ⟨he, hw⟩ => ⟨by rw [he, h], hw⟩

theorem valid_any (p s c l : Int) (st sk re fe ag : Bool) (w : World) :
    Calls Try.prog 37 #[.agg #[.int .i64 p, .int .i64 s, .bool st, .bool sk, .bool re, .bool fe, .bool ag, .int .i64 c, .int .i64 l]] w fun e w' => e = .returned (.bool (okR p s c l st ag)) ∧ Below w.heap.size w w' := by
  go_enter Try.func37, Try.ntmps37
  go_wp2
  all_goals
    go_ret
    exact ⟨by simp [okR, *]; try omega, (Below.refl _ _).alloc (Nat.le_refl _) _⟩

theorem valid_b (p s c l : Int) (st sk re fe ag : Bool) (r : Bool) (h : okR p s c l st ag = r) (w : World) :
    Calls Try.prog 37 #[.agg #[.int .i64 p, .int .i64 s, .bool st, .bool sk, .bool re, .bool fe, .bool ag, .int .i64 c, .int .i64 l]] w fun e w' => e = .returned (.bool r) ∧ Below w.heap.size w w' :=
  (valid_any p s c l st sk re fe ag w).mono fun e w' ⟨he, hw⟩ => ⟨by rw [he, h], hw⟩

theorem board_any (p s c l : Int) (st sk re fe ag : Bool) (hp : I64 (2 * p)) (w : World) :
    Calls Try.prog 38 #[.agg #[.int .i64 p, .int .i64 s, .bool st, .bool sk, .bool re, .bool fe, .bool ag, .int .i64 c, .int .i64 l]] w fun e w' => e = .returned (.int .i64 (2 * p)) ∧ Below w.heap.size w w' := by
  unfold I64 at hp
  go_enter Try.func38, Try.ntmps38
  go_wp2
  go_ret
  exact ⟨rfl, (Below.refl _ _).alloc (Nat.le_refl _) _⟩

/-- The code of a pit. -/
def pitC (ok : Bool) (p pit : Int) : Int := if ok then (if 0 ≤ pit ∧ pit < 2 * p then 0 else 2) else 1
theorem pitC_bad (p pit : Int) : pitC false p pit = 1 := rfl
theorem pitC_out {p pit : Int} (h : ¬ (0 ≤ pit ∧ pit < 2 * p)) : pitC true p pit = 2 := by simp [pitC, h]
theorem pitC_in {p pit : Int} (h0 : 0 ≤ pit) (h1 : pit < 2 * p) : pitC true p pit = 0 := by simp [pitC, h0, h1]
/-- The code of a player and a move. -/
def moveC (ok : Bool) (p player move : Int) : Int := if ok then (if (0 ≤ player ∧ player ≤ 1) ∧ (0 ≤ move ∧ move < p) then 0 else 2) else 1

theorem pit_cases (ok : Bool) (p pit : Int) : (ok = false ∧ pitC ok p pit = 1) ∨ (ok = true ∧ ¬ (0 ≤ pit ∧ pit < 2 * p) ∧ pitC ok p pit = 2) ∨ (ok = true ∧ 0 ≤ pit ∧ pit < 2 * p ∧ pitC ok p pit = 0) := by
  cases ok
  · exact .inl ⟨rfl, rfl⟩
  · by_cases h : 0 ≤ pit ∧ pit < 2 * p
    · exact .inr (.inr ⟨rfl, h.1, h.2, pitC_in h.1 h.2⟩)
    · exact .inr (.inl ⟨rfl, h, pitC_out h⟩)

end Go.Proofs.Ytgogjjkecbgbiaa
