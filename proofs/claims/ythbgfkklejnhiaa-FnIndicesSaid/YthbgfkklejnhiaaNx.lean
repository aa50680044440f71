/- NextSeeds and LastSeeds of both sides. No conditions. -/
import Derived.Test.YthbgfkklejnhiaaWe
import Derived.Deep.RegionHeld3
import Derived.IntWalk
namespace Go.Proofs.Ythbgfkklejnhiaa
open Go.Joins Go.ChangeShapes Go.WideShapes Go.ChangeAt Go.RowKit Go.Deep
set_option linter.unusedVariables false

/-- The distribution whose rank differs. -/
def byK (xs : List Int) (by_ : Int) : Bool := decide (0 ≤ rkV xs + by_) && decide (rkV xs + by_ ≤ (cnt (tot xs).toNat xs.length : Int) - 1)
def byL (xs : List Int) (by_ : Int) : List Int := if okD xs then (if byK xs by_ then vals (unr (xs.length - 1) (tot xs).toNat (rkV xs + by_).toNat) else []) else []
def byC (xs : List Int) (by_ : Int) : Int := if okD xs then (if byK xs by_ then 0 else 3) else 1
theorem by_no {xs : List Int} {d : Int} (h : okD xs = false) : byL xs d = [] ∧ byC xs d = 1 := by
  unfold byL byC
  rw [h]
  exact ⟨rfl, rfl⟩
theorem by_out {xs : List Int} {d : Int} (h : okD xs = true) (h2 : byK xs d = false) : byL xs d = [] ∧ byC xs d = 3 := by
  unfold byL byC
  rw [h, h2]
  exact ⟨rfl, rfl⟩
theorem by_in {xs : List Int} {d : Int} (h : okD xs = true) (h2 : byK xs d = true) : byL xs d = vals (unr (xs.length - 1) (tot xs).toNat (rkV xs + d).toNat) ∧ byC xs d = 0 := by
  unfold byL byC
  rw [h, h2]
  exact ⟨rfl, rfl⟩
theorem byK_eq {ys : List Nat} {P : Nat} (h : DisOk ys P) (d : Int) : byK (vals ys) d = (decide (0 ≤ (rk ys : Int) + d) && decide ((rk ys : Int) + d ≤ (cnt (sm ys) (P + 1) : Int) - 1)) := by
  unfold byK
  rw [(rk_yes h).1, vals_tot, vals_len, h.len, Int.toNat_natCast]
/-- What has the rank is the answer. -/
theorem by_is {ys zs : List Nat} {P : Nat} {d : Int} (h : DisOk ys P) (hl : zs.length = P + 1) (hs : sm zs = sm ys) (hr : (rk zs : Int) = (rk ys : Int) + d) : byL (vals ys) d = vals zs ∧ byC (vals ys) d = 0 := by
  have hz := rk_lt zs
  rw [hl, hs] at hz
  have hk : byK (vals ys) d = true := by
    rw [byK_eq h, decide_eq_true (by omega), decide_eq_true (by omega)]
    rfl
  have e := by_in (ok_of_dis h) hk
  rw [e.1, e.2, (rk_yes h).1, vals_tot, vals_len, h.len, Int.toNat_natCast, ← hr, Int.toNat_natCast, ← hs]
  have := unr_rk P zs hl
  rw [show P + 1 - 1 = P by omega, this]
  exact ⟨rfl, rfl⟩
/-- The last number that is not zero. -/
theorem lz_cases : ∀ ys : List Nat, (ys = List.replicate ys.length 0) ∨ ∃ A b m, ys = A ++ (b + 1) :: List.replicate m 0
  | [] => .inl rfl
  | y :: ys => by
    rcases lz_cases ys with h | ⟨A, b, m, h⟩
    · rcases y with _ | y
      · exact .inl (by rw [List.length_cons, List.replicate_succ, ← h])
      · exact .inr ⟨[], y, ys.length, by rw [← h]; rfl⟩
    · exact .inr ⟨y :: A, b, m, by rw [h]; rfl⟩
theorem next_cases (ys : List Nat) (hne : ys ≠ []) : (∃ a, ys = a :: List.replicate (ys.length - 1) 0) ∨ ∃ A a b m, ys = A ++ a :: (b + 1) :: List.replicate m 0 := by
  match ys, hne with
  | y :: ys, _ =>
    rcases lz_cases ys with h | ⟨A, b, m, h⟩
    · exact .inl ⟨y, by rw [List.length_cons, Nat.add_sub_cancel, ← h]⟩
    · rcases List.eq_nil_or_concat A with rfl | ⟨B, a, rfl⟩
      · exact .inr ⟨[], y, b, m, by rw [h]; rfl⟩
      · exact .inr ⟨y :: B, a, b, m, by rw [h]; simp⟩
theorem next_last {a n : Nat} {P : Nat} (h : DisOk (a :: List.replicate n 0) P) : byL (vals (a :: List.replicate n 0)) 1 = [] ∧ byC (vals (a :: List.replicate n 0)) 1 = 3 := by
  have hl : n = P := by have := h.len; simpa using this
  have hr := rk_last a n
  have hs : sm (a :: List.replicate n 0) = a := by show a + sm _ = a; rw [sm_zeros]; rfl
  refine by_out (ok_of_dis h) ?_
  rw [byK_eq h, hs, decide_eq_false (p := _ ≤ _ - (1 : Int)) (by rw [← hl]; omega)]
  simp
theorem last_first {e n : Nat} {P : Nat} (h : DisOk (List.replicate n 0 ++ [e]) P) : byL (vals (List.replicate n 0 ++ [e])) (-1) = [] ∧ byC (vals (List.replicate n 0 ++ [e])) (-1) = 3 := by
  refine by_out (ok_of_dis h) ?_
  rw [byK_eq h, rk_end, decide_eq_false (by omega)]
  rfl
theorem sm_next (A : List Nat) (a b m : Nat) : sm (A ++ (a + 1) :: (List.replicate m 0 ++ [b])) = sm (A ++ a :: (b + 1) :: List.replicate m 0) := by
  rw [sm_app, sm_app]
  show sm A + (a + 1 + sm (List.replicate m 0 ++ [b])) = sm A + (a + (b + 1 + sm (List.replicate m 0)))
  rw [sm_app, sm_zeros]
  show sm A + (a + 1 + (0 + (b + 0))) = _
  omega
theorem len_next (A : List Nat) (a b m : Nat) : (A ++ (a + 1) :: (List.replicate m 0 ++ [b])).length = (A ++ a :: (b + 1) :: List.replicate m 0).length := by simp
theorem next_is {A : List Nat} {a b m P : Nat} (h : DisOk (A ++ a :: (b + 1) :: List.replicate m 0) P) : byL (vals (A ++ a :: (b + 1) :: List.replicate m 0)) 1 = vals (A ++ (a + 1) :: (List.replicate m 0 ++ [b])) ∧ byC (vals (A ++ a :: (b + 1) :: List.replicate m 0)) 1 = 0 :=
  by_is h (by rw [len_next, h.len]) (sm_next A a b m) (by rw [rk_next]; omega)
theorem last_is {A : List Nat} {a b m P : Nat} (h : DisOk (A ++ (a + 1) :: (List.replicate m 0 ++ [b])) P) : byL (vals (A ++ (a + 1) :: (List.replicate m 0 ++ [b]))) (-1) = vals (A ++ a :: (b + 1) :: List.replicate m 0) ∧ byC (vals (A ++ (a + 1) :: (List.replicate m 0 ++ [b]))) (-1) = 0 :=
  by_is h (by rw [← len_next, h.len]) (sm_next A a b m).symm (by rw [rk_next]; omega)

theorem rep_at {n q : Nat} (h : q < n) : (vals (List.replicate n 0))[q]? = some 0 := by simp [vals, h]
end Go.Proofs.Ythbgfkklejnhiaa
