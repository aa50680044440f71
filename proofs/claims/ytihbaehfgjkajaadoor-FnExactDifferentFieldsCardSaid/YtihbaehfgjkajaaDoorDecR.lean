/- The digits of a number, one by one: plain facts. No conditions. -/
import Derived.Test.YtihbaehfgjkajaaDoorOpen
import Derived.Lib.ItoaNum
namespace Go.Proofs.YtihbaehfgjkajaaDoor
open Go.Joins Go.ChangeShapes Go.WideShapes Go.ChangeAt Go.RowKit Go.Deep

/-- What the loop over the digits of n has done: K is left, ds are the digits behind. -/
def DecR (n K : Int) (ds : List UInt8) : Prop :=
  K.natAbs * 10 ^ ds.length ≤ n.natAbs ∧ (0 < K → 0 < n) ∧ (K < 0 → n < 0) ∧
  ((K = 0 ∧ ((n = 0 ∧ ds = []) ∨ (n ≠ 0 ∧ ds = Lib.decDigits n.natAbs))) ∨ (K ≠ 0 ∧ Lib.decDigits n.natAbs = Lib.decDigits K.natAbs ++ ds))
theorem dec_start (n : Int) : DecR n n [] := by
  refine ⟨by simp, id, id, ?_⟩
  by_cases h : n = 0
  · exact .inl ⟨h, .inl ⟨h, rfl⟩⟩
  · exact .inr ⟨h, by simp⟩
theorem dec_len {n K : Int} {ds : List UInt8} (h : DecR n K ds) (hK : K ≠ 0) (hn : n.natAbs ≤ 9223372036854775808) : ds.length ≤ 19 := by
  have h1 : 1 * 10 ^ ds.length ≤ n.natAbs := Nat.le_trans (Nat.mul_le_mul_right _ (by omega)) h.1
  by_cases hl : ds.length ≤ 19
  · exact hl
  · have h2 : 10 ^ 20 ≤ 10 ^ ds.length := Nat.pow_le_pow_right (by decide) (by omega)
    have h3 : (10 : Nat) ^ 20 = 100000000000000000000 := by decide
    omega
theorem dec_bound {n K : Int} {ds : List UInt8} (h : DecR n K ds) : K.natAbs ≤ n.natAbs :=
  Nat.le_trans (Nat.le_mul_of_pos_right _ (Nat.pow_pos (by decide))) h.1
theorem dec_step {n K K' : Int} {ds : List UInt8} (h : DecR n K ds) (hK : K ≠ 0) (hk : K'.natAbs = K.natAbs / 10) (hp : 0 < K' → 0 < K) (hm : K' < 0 → K < 0) :
    DecR n K' (UInt8.ofNat (48 + K.natAbs % 10) :: ds) := by
  obtain ⟨h1, h2, h3, h4⟩ := h
  have h4 := h4.resolve_left (fun x => hK x.1)
  refine ⟨?_, fun x => h2 (hp x), fun x => h3 (hm x), ?_⟩
  · refine Nat.le_trans ?_ h1
    rw [List.length_cons, Nat.pow_succ, Nat.mul_comm _ 10, ← Nat.mul_assoc, hk]
    exact Nat.mul_le_mul_right _ (Nat.div_mul_le_self _ _)
  · have hn0 : n ≠ 0 := by
      intro hn
      have := dec_bound ⟨h1, h2, h3, .inr h4⟩
      omega
    by_cases h0 : K' = 0
    · have hlt : K.natAbs < 10 := by omega
      refine .inl ⟨h0, .inr ⟨hn0, ?_⟩⟩
      rw [h4.2, Lib.decDigits, dif_pos hlt, Nat.mod_eq_of_lt hlt]
      rfl
    · have hlt : ¬ K.natAbs < 10 := by omega
      refine .inr ⟨h0, ?_⟩
      rw [h4.2, Lib.decDigits, dif_neg hlt, hk]
      simp
theorem dec_end {n : Int} {ds : List UInt8} (h : DecR n 0 ds) : (n = 0 ∧ ds = []) ∨ (0 < n ∧ ds = Lib.itoa n ∧ ds ≠ []) ∨ (n < 0 ∧ 45 :: ds = Lib.itoa n ∧ ds ≠ []) := by
  obtain ⟨_, _, _, h | h⟩ := h
  · rcases h.2 with h | ⟨h0, rfl⟩
    · exact .inl h
    · have hne : Lib.decDigits n.natAbs ≠ [] := by
        rw [Lib.decDigits]
        split <;> simp
      by_cases hp : 0 < n
      · refine .inr (.inl ⟨hp, ?_, hne⟩)
        unfold Lib.itoa
        rw [if_neg (by omega), show n.natAbs = n.toNat by omega]
      · refine .inr (.inr ⟨by omega, ?_, hne⟩)
        unfold Lib.itoa
        rw [if_pos (by omega)]
  · exact absurd rfl h.1

theorem ofNat_digit (r : Nat) : ((UInt8.ofNat (48 + r % 10)).toNat : Int) = 48 + ((r % 10 : Nat) : Int) := by
  rw [UInt8.toNat_ofNat']
  omega
end Go.Proofs.YtihbaehfgjkajaaDoor
