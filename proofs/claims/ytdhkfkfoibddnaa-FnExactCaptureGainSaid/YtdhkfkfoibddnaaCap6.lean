/- Captures as functions of numbers. No conditions. -/
import Derived.Test.YtdhkfkfoibddnaaSide4
namespace Go.Proofs.Ytdhkfkfoibddnaa
open Go.Joins Go.ChangeShapes Go.WideShapes Go.ChangeAt Go.RowKit Go.Deep
set_option linter.unusedVariables false

/-- Whether a place is a pit of a player. -/
def ownB (p pl k : Int) : Bool := decide (pl * p ≤ k) && decide (k < (pl + 1) * p)
theorem own_div {p pl k : Int} (hp : 2 ≤ p) (h0 : 0 ≤ k) (h1 : k < 2 * p) (hpl : pl = 0 ∨ pl = 1) : (k / p = pl) ↔ ownB p pl k = true := by
  have e : k / p = if k < p then 0 else 1 := by
    by_cases h : k < p
    · rw [if_pos h, Int.ediv_eq_zero_of_lt h0 h]
    · rw [if_neg h]
      have e2 : k = (k - p) + p * 1 := by omega
      rw [e2, Int.add_mul_ediv_left _ _ (by omega), Int.ediv_eq_zero_of_lt (by omega) (by omega)]
      rfl
  rw [e]
  unfold ownB
  rcases hpl with rfl | rfl <;> split <;> simp <;> omega
theorem own_other {p pl k : Int} (hp : 2 ≤ p) (h0 : 0 ≤ k) (h1 : k < 2 * p) (hpl : pl = 0 ∨ pl = 1) : ownB p (1 - pl) k = !(ownB p pl k) := by
  unfold ownB
  rcases hpl with rfl | rfl
  · by_cases h : k < p
    · have e1 : decide ((1 - 0) * p ≤ k) = false := by simp; omega
      have e2 : decide (0 * p ≤ k) = true := by simp; omega
      have e3 : decide (k < (0 + 1) * p) = true := by simp; omega
      rw [e1, e2, e3]; rfl
    · have e1 : decide ((1 - 0) * p ≤ k) = true := by simp; omega
      have e2 : decide (k < (1 - 0 + 1) * p) = true := by simp; omega
      have e3 : decide (k < (0 + 1) * p) = false := by simp; omega
      rw [e1, e2, e3]; simp
  · by_cases h : k < p
    · have e1 : decide ((1 - 1) * p ≤ k) = true := by simp; omega
      have e2 : decide (k < (1 - 1 + 1) * p) = true := by simp; omega
      have e3 : decide (1 * p ≤ k) = false := by simp; omega
      rw [e1, e2, e3]; simp
    · have e1 : decide (k < (1 - 1 + 1) * p) = false := by simp; omega
      have e2 : decide (1 * p ≤ k) = true := by simp; omega
      have e3 : decide (k < (1 + 1) * p) = true := by simp; omega
      rw [e1, e2, e3]; simp
/-- The seeds in a pit. -/
def vAt (xs : List Int) (k : Int) : Int := xs.getD k.toNat 0
theorem vAt_cell {xs : List Int} {k : Int} (h0 : 0 ≤ k) (h1 : k < xs.length) : xs[k.toNat]? = some (vAt xs k) := by
  unfold vAt
  rw [List.getD_eq_getElem?_getD, List.getElem?_eq_getElem (by omega)]
  rfl
theorem vAt_bd {xs : List Int} (h : posB xs = true) (ht : tot xs ≤ 96) (k : Int) : 0 ≤ vAt xs k ∧ vAt xs k ≤ 96 := by
  unfold vAt
  rw [List.getD_eq_getElem?_getD]
  cases e : xs[k.toNat]? with
  | none => simp
  | some x =>
    have h1 := posB_mem h e
    have h2 := posB_le h x (List.mem_of_getElem? e)
    simp
    omega
/-- The pits of the other player with 2 or 3 seeds, from pit n - 1 back. -/
def twF (p pl : Int) (xs : List Int) : Nat → List Int
  | 0 => []
  | k + 1 => if ownB p (1 - pl) k && (decide (vAt xs k = 2) || decide (vAt xs k = 3)) then (k : Int) :: twF p pl xs k else []
theorem tw_no {p pl : Int} {xs : List Int} {k : Nat} (h : (ownB p (1 - pl) k && (decide (vAt xs k = 2) || decide (vAt xs k = 3))) = false) : twF p pl xs (k + 1) = [] := by
  unfold twF
  rw [h]
  rfl
theorem tw_yes {p pl : Int} {xs : List Int} {k : Nat} (h : (ownB p (1 - pl) k && (decide (vAt xs k = 2) || decide (vAt xs k = 3))) = true) : twF p pl xs (k + 1) = (k : Int) :: twF p pl xs k := by
  rw [twF, h]
  rfl
theorem tw_in (p pl : Int) (xs : List Int) : ∀ n k, k ∈ twF p pl xs n → 0 ≤ k ∧ k < (n : Int)
  | 0, k, h => by cases h
  | n + 1, k, h => by
    unfold twF at h
    split at h
    · rcases List.mem_cons.1 h with rfl | h
      · omega
      · have := tw_in p pl xs n k h
        omega
    · cases h
theorem tw_nodup (p pl : Int) (xs : List Int) : ∀ n, (twF p pl xs n).Nodup
  | 0 => List.nodup_nil
  | n + 1 => by
    unfold twF
    split
    · refine List.nodup_cons.2 ⟨fun h => ?_, tw_nodup p pl xs n⟩
      have := tw_in p pl xs n _ h
      omega
    · exact List.nodup_nil
theorem tw_len (p pl : Int) (xs : List Int) : ∀ n, (twF p pl xs n).length ≤ n
  | 0 => Nat.le_refl _
  | n + 1 => by
    unfold twF
    split
    · have := tw_len p pl xs n
      simp only [List.length_cons]
      omega
    · exact Nat.zero_le _
/-- The pits of the kind of captures, also if taking them is a slam. -/
def rawF (cp p pl la : Int) (xs : List Int) : List Int :=
  if la < 0 then [] else
  if cp = 1 then twF p pl xs (la.toNat + 1) else
  if cp = 2 then (if ownB p pl la && decide (vAt xs la = 1) && decide (0 < vAt xs (2 * p - 1 - la)) then [la, 2 * p - 1 - la] else []) else
  if cp = 3 then (if ownB p (1 - pl) la && decide (vAt xs la % 2 = 0) then [la] else []) else []
theorem raw_in {cp p pl la : Int} {xs : List Int} (h : la < 2 * p) : ∀ k ∈ rawF cp p pl la xs, 0 ≤ k ∧ k < 2 * p := by
  unfold rawF
  intro k hk
  split at hk
  · cases hk
  · split at hk
    · have := tw_in _ _ _ _ _ hk
      omega
    · split at hk
      · split at hk
        · rcases List.mem_cons.1 hk with rfl | hk
          · omega
          · rcases List.mem_cons.1 hk with rfl | hk
            · omega
            · cases hk
        · cases hk
      · split at hk
        · split at hk
          · rcases List.mem_cons.1 hk with rfl | hk
            · omega
            · cases hk
          · cases hk
        · cases hk
theorem raw_nodup (cp p pl la : Int) (xs : List Int) : (rawF cp p pl la xs).Nodup := by
  unfold rawF
  split
  · exact List.nodup_nil
  · split
    · exact tw_nodup _ _ _ _
    · split
      · split
        · refine List.nodup_cons.2 ⟨fun h => ?_, List.nodup_cons.2 ⟨(fun h => by cases h), List.nodup_nil⟩⟩
          rcases List.mem_cons.1 h with h | h
          · omega
          · cases h
        · exact List.nodup_nil
      · split
        · split
          · exact List.nodup_cons.2 ⟨(fun h => by cases h), List.nodup_nil⟩
          · exact List.nodup_nil
        · exact List.nodup_nil
theorem raw_len {cp p pl la : Int} {xs : List Int} (hp : p ≤ 8) (hp2 : 2 ≤ p) (h : la < 2 * p) : (rawF cp p pl la xs).length ≤ 16 := by
  unfold rawF
  split
  · simp
  · split
    · have := tw_len p pl xs (la.toNat + 1)
      omega
    · split
      · split <;> simp
      · split
        · split <;> simp
        · simp
/-- The seeds in some pits. -/
def sumAt (xs L : List Int) : Int := tot (L.map (vAt xs))
theorem sumAt_snoc (xs L : List Int) (k : Int) : sumAt xs (L ++ [k]) = sumAt xs L + vAt xs k := by
  unfold sumAt
  rw [List.map_append, tot_app]
  simp [tot]
theorem sumAt_bd {xs : List Int} (h : posB xs = true) (ht : tot xs ≤ 96) (L : List Int) : 0 ≤ sumAt xs L ∧ sumAt xs L ≤ 96 * L.length := by
  unfold sumAt
  induction L with
  | nil => simp [tot]
  | cons k r ih =>
    have := vAt_bd h ht k
    simp only [List.map_cons, tot, List.length_cons]
    omega
/-- The seeds of the other player in some pits. -/
def takenF (p pl : Int) (xs L : List Int) : Int := sumAt xs (L.filter (ownB p (1 - pl)))
theorem taken_snoc (p pl : Int) (xs L : List Int) (k : Int) : takenF p pl xs (L ++ [k]) = takenF p pl xs L + (if ownB p (1 - pl) k then vAt xs k else 0) := by
  unfold takenF
  rw [List.filter_append]
  by_cases h : ownB p (1 - pl) k = true
  · rw [if_pos h]
    have e : List.filter (ownB p (1 - pl)) [k] = [k] := by simp [h]
    rw [e, sumAt_snoc]
  · rw [if_neg h]
    have e : List.filter (ownB p (1 - pl)) [k] = [] := by simp [h]
    rw [e, List.append_nil]
    omega
theorem taken_bd {xs : List Int} (h : posB xs = true) (ht : tot xs ≤ 96) (p pl : Int) (L : List Int) : 0 ≤ takenF p pl xs L ∧ takenF p pl xs L ≤ 96 * L.length := by
  have h1 := sumAt_bd h ht (L.filter (ownB p (1 - pl)))
  have h2 := List.length_filter_le (ownB p (1 - pl)) L
  unfold takenF
  omega
/-- Whether some pits have all seeds of the other player, and some. -/
def slamB (p pl : Int) (xs L : List Int) : Bool := decide (0 < takenF p pl xs L) && decide (takenF p pl xs L = tot (halfL xs p.toNat (1 - pl)))
def slamF (cp p pl la : Int) (xs : List Int) : Bool := slamB p pl xs (rawF cp p pl la xs)
/-- The pits that are captured. -/
def pitsF (cp sl p pl la : Int) (xs : List Int) : List Int := if decide (sl = 2) && slamF cp p pl la xs then [] else rawF cp p pl la xs
theorem pits_sub (cp sl p pl la : Int) (xs : List Int) : pitsF cp sl p pl la xs = [] ∨ pitsF cp sl p pl la xs = rawF cp p pl la xs := by
  unfold pitsF
  split
  · exact .inl rfl
  · exact .inr rfl
theorem pits_in {cp sl p pl la : Int} {xs : List Int} (h : la < 2 * p) : ∀ k ∈ pitsF cp sl p pl la xs, 0 ≤ k ∧ k < 2 * p := by
  rcases pits_sub cp sl p pl la xs with e | e
  · rw [e]; intro k hk; cases hk
  · rw [e]; exact raw_in h
theorem pits_nodup (cp sl p pl la : Int) (xs : List Int) : (pitsF cp sl p pl la xs).Nodup := by
  rcases pits_sub cp sl p pl la xs with e | e
  · rw [e]; exact List.nodup_nil
  · rw [e]; exact raw_nodup _ _ _ _ _
theorem pits_len {cp sl p pl la : Int} {xs : List Int} (hp : p ≤ 8) (hp2 : 2 ≤ p) (h : la < 2 * p) : (pitsF cp sl p pl la xs).length ≤ 16 := by
  rcases pits_sub cp sl p pl la xs with e | e
  · rw [e]; simp
  · rw [e]; exact raw_len hp hp2 h
/-- These pits are empty. -/
def zeroAt (xs : List Int) : List Int → List Int
  | [] => xs
  | k :: r => zeroAt (xs.set k.toNat 0) r
theorem zero_snoc (L : List Int) (k : Int) : ∀ xs, zeroAt xs (L ++ [k]) = (zeroAt xs L).set k.toNat 0 := by
  induction L with
  | nil => intro xs; rfl
  | cons j r ih => intro xs; exact ih _
theorem zero_len (L : List Int) : ∀ xs, (zeroAt xs L).length = xs.length := by
  induction L with
  | nil => intro xs; rfl
  | cons j r ih => intro xs; rw [zeroAt, ih, List.length_set]
theorem zero_else {j : Int} (hj : 0 ≤ j) : ∀ (L xs : List Int), (∀ k ∈ L, 0 ≤ k) → j ∉ L → vAt (zeroAt xs L) j = vAt xs j
  | [], xs, _, _ => rfl
  | k :: r, xs, h0, h => by
    have h1 : j ≠ k := fun e => h (e ▸ List.mem_cons_self)
    have h2 := h0 k List.mem_cons_self
    rw [zeroAt, zero_else hj r _ (fun x hx => h0 x (List.mem_cons_of_mem _ hx)) (fun hm => h (List.mem_cons_of_mem _ hm))]
    unfold vAt
    rw [List.getD_eq_getElem?_getD, List.getD_eq_getElem?_getD, List.getElem?_set_ne (by omega)]
/-- Sown seeds are valid for rules and a player. -/
def lastB (st : Bool) (p pl la : Int) (xs ys : List Int) : Bool :=
  if la = -1 then st && decide (0 < vAt ys pl) else (decide (0 ≤ la) && decide (la ≤ 2 * p - 1)) && decide (0 < vAt xs la)
def okS (k : Bool) (p : Int) (st : Bool) (n1 n2 : Nat) (la lp pl : Int) (xs ys : List Int) : Bool :=
  okP k p n1 n2 pl xs ys && (decide (1 ≤ lp) && decide (lp ≤ 100)) && lastB st p pl la xs ys
theorem okS_parts {k : Bool} {p : Int} {st : Bool} {n1 n2 : Nat} {la lp pl : Int} {xs ys : List Int} (h : okS k p st n1 n2 la lp pl xs ys = true) :
    okP k p n1 n2 pl xs ys = true ∧ (1 ≤ lp ∧ lp ≤ 100) ∧ lastB st p pl la xs ys = true := by
  unfold okS at h
  simp only [Bool.and_eq_true, decide_eq_true_eq] at h
  exact ⟨h.1.1, h.1.2, h.2⟩
theorem last_bd {st : Bool} {p pl la : Int} {xs ys : List Int} (hp : 2 ≤ p) (h : lastB st p pl la xs ys = true) : -1 ≤ la ∧ la < 2 * p := by
  unfold lastB at h
  split at h
  · omega
  · simp only [Bool.and_eq_true, decide_eq_true_eq] at h
    omega
end Go.Proofs.Ytdhkfkfoibddnaa
