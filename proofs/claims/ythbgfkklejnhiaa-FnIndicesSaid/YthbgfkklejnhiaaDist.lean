/- Numbers of choices, of distributions and their ranks, as numbers alone. No conditions. -/
import Derived.Test.YthbgfkklejnhiaaOpen
namespace Go.Proofs.Ythbgfkklejnhiaa

/-- Pascal's triangle. -/
def ch : Nat → Nat → Nat
  | _, 0 => 1
  | 0, _ + 1 => 0
  | n + 1, k + 1 => ch n k + ch n (k + 1)
theorem ch_zero (n : Nat) : ch n 0 = 1 := by cases n <;> rfl
theorem ch_succ (n k : Nat) : ch (n + 1) (k + 1) = ch n k + ch n (k + 1) := rfl
theorem ch_big : ∀ (n k : Nat), n < k → ch n k = 0
  | n, 0, h => by omega
  | 0, k + 1, _ => rfl
  | n + 1, k + 1, h => by rw [ch_succ, ch_big n k (by omega), ch_big n (k + 1) (by omega)]
theorem ch_self : ∀ n : Nat, ch n n = 1
  | 0 => rfl
  | n + 1 => by rw [ch_succ, ch_self n, ch_big n (n + 1) (by omega)]
theorem ch_mul : ∀ n k : Nat, (k + 1) * ch n (k + 1) = (n - k) * ch n k
  | 0, k => by simp [show ch 0 (k + 1) = 0 from rfl]
  | n + 1, 0 => by
    have h := ch_mul n 0
    rw [ch_succ, ch_zero, ch_zero]
    rw [ch_zero] at h
    omega
  | n + 1, j + 1 => by
    have h1 := ch_mul n (j + 1)
    have h2 := ch_mul n j
    rw [ch_succ, ch_succ]
    by_cases hj : j < n
    · have e1 : n - (j + 1) = n - j - 1 := by omega
      have e2 : n + 1 - (j + 1) = n - j := by omega
      obtain ⟨d, hd⟩ : ∃ d, n - j = d + 1 := ⟨n - j - 1, by omega⟩
      rw [e1, hd] at h1
      rw [hd] at h2
      rw [e2, hd, Nat.mul_add, Nat.mul_add, ← h2, h1]
      simp only [Nat.add_mul, Nat.one_mul, Nat.add_sub_cancel]
      omega
    · have z : ch n (j + 1) = 0 := ch_big _ _ (by omega)
      rw [z] at h1 h2 ⊢
      have : ch n (j + 1 + 1) = 0 := ch_big _ _ (by omega)
      rw [this]
      have e2 : n + 1 - (j + 1) = n - j := by omega
      rw [e2, Nat.add_zero (ch n j), ← h2, Nat.mul_zero, Nat.mul_zero]
theorem ch_sym : ∀ a b : Nat, ch (a + b) a = ch (a + b) b
  | 0, b => by rw [ch_zero, Nat.zero_add, ch_self]
  | a + 1, 0 => by rw [ch_zero, Nat.add_zero, ch_self]
  | a + 1, b + 1 => by
    have h1 := ch_sym a (b + 1)
    have h2 := ch_sym (a + 1) b
    rw [show a + 1 + (b + 1) = (a + b + 1) + 1 by omega, ch_succ (a + b + 1) a, ch_succ (a + b + 1) b]
    rw [show a + (b + 1) = a + b + 1 by omega] at h1
    rw [show a + 1 + b = a + b + 1 by omega] at h2
    omega
theorem ch_flip {n k : Nat} (h : k ≤ n) : ch n (n - k) = ch n k := by
  have := ch_sym (n - k) k
  rwa [show n - k + k = n by omega] at this
theorem ch_up {n k : Nat} (h : 2 * k + 1 ≤ n) : ch n k ≤ ch n (k + 1) := by
  have hm := ch_mul n k
  have : (k + 1) * ch n k ≤ (n - k) * ch n k := Nat.mul_le_mul_right _ (by omega)
  rw [← hm] at this
  exact Nat.le_of_mul_le_mul_left this (by omega)
theorem ch_ups {n m : Nat} (h : 2 * m ≤ n) : ∀ {k : Nat}, k ≤ m → ch n k ≤ ch n m := by
  intro k hk
  induction m with
  | zero => rw [show k = 0 by omega]; exact Nat.le_refl _
  | succ m ih =>
    rcases Nat.lt_or_ge k (m + 1) with h1 | h1
    · exact Nat.le_trans (ih (by omega) (by omega)) (ch_up (by omega))
    · rw [show k = m + 1 by omega]; exact Nat.le_refl _
theorem ch_div (n k : Nat) : ch n k * (n - k) / (k + 1) = ch n (k + 1) := by
  rw [Nat.mul_comm, ← ch_mul n k, Nat.mul_div_cancel_left _ (by omega)]
theorem ch_pos : ∀ {n k : Nat}, k ≤ n → 0 < ch n k
  | n, 0, _ => by rw [ch_zero]; omega
  | n + 1, k + 1, h => by rw [ch_succ]; have := ch_pos (n := n) (k := k) (by omega); omega

/-- How many distributions of s seeds in p pits there are. -/
def cnt (s : Nat) : Nat → Nat
  | 0 => if s = 0 then 1 else 0
  | q + 1 => ch (s + q) q
theorem cnt_one (s : Nat) : cnt s 1 = 1 := ch_zero _
theorem cnt_zero : ∀ p : Nat, cnt 0 p = 1
  | 0 => rfl
  | q + 1 => by show ch (0 + q) q = 1; rw [Nat.zero_add, ch_self]
theorem cnt_succ : ∀ s p : Nat, cnt (s + 1) (p + 1) = cnt s (p + 1) + cnt (s + 1) p
  | s, 0 => by rw [cnt_one, cnt_one]; rfl
  | s, q + 1 => by
    show ch (s + 1 + (q + 1)) (q + 1) = ch (s + (q + 1)) (q + 1) + ch (s + 1 + q) q
    rw [show s + 1 + (q + 1) = (s + q + 1) + 1 by omega, ch_succ, show s + (q + 1) = s + q + 1 by omega, show s + 1 + q = s + q + 1 by omega]
    omega
theorem cnt_pos (s p : Nat) : 0 < cnt s (p + 1) := ch_pos (by omega)
theorem cnt_le (p : Nat) : ∀ {s t : Nat}, s ≤ t → cnt s (p + 1) ≤ cnt t (p + 1) := by
  intro s t h
  induction h with
  | refl => exact Nat.le_refl _
  | step _ ih => rw [cnt_succ]; omega
theorem cnt_pit (s p : Nat) : cnt s p ≤ cnt s (p + 1) := by
  cases s with
  | zero => rw [cnt_zero, cnt_zero]; exact Nat.le_refl _
  | succ s => rw [cnt_succ]; omega
theorem cnt_pits (s : Nat) {p q : Nat} (h : p ≤ q) : cnt s p ≤ cnt s q := by
  induction h with
  | refl => exact Nat.le_refl _
  | step _ ih => exact Nat.le_trans ih (cnt_pit _ _)
theorem cnt_both {s t p q : Nat} (hs : s ≤ t) (hp : p + 1 ≤ q) : cnt s (p + 1) ≤ cnt t q :=
  Nat.le_trans (cnt_le p hs) (cnt_pits t hp)

def sm : List Nat → Nat
  | [] => 0
  | x :: xs => x + sm xs
theorem sm_app : ∀ (a b : List Nat), sm (a ++ b) = sm a + sm b
  | [], b => by simp [sm]
  | x :: a, b => by show x + sm (a ++ b) = x + sm a + sm b; rw [sm_app a b]; omega
theorem sm_zeros : ∀ m : Nat, sm (List.replicate m 0) = 0
  | 0 => rfl
  | m + 1 => by rw [List.replicate_succ]; show 0 + sm _ = 0; rw [sm_zeros m]

/-- The rank of a distribution. -/
def rk : List Nat → Nat
  | [] => 0
  | x :: xs => cnt (x + sm xs) (xs.length + 1) - cnt (sm xs) (xs.length + 1) + rk xs
theorem rk_lt : ∀ xs : List Nat, rk xs < cnt (sm xs) xs.length
  | [] => by decide
  | x :: xs => by
    have h1 := rk_lt xs
    have h2 := cnt_pit (sm xs) xs.length
    have h3 := cnt_le xs.length (show sm xs ≤ x + sm xs by omega)
    show cnt (x + sm xs) (xs.length + 1) - cnt (sm xs) (xs.length + 1) + rk xs < cnt (x + sm xs) (xs.length + 1)
    omega
theorem rk_zeros : ∀ m : Nat, rk (List.replicate m 0) = 0
  | 0 => rfl
  | m + 1 => by
    rw [List.replicate_succ]
    show cnt (0 + sm _) _ - cnt (sm _) _ + rk _ = 0
    rw [rk_zeros m, Nat.zero_add, Nat.sub_self]
theorem rk_end (b : Nat) : ∀ m : Nat, rk (List.replicate m 0 ++ [b]) = 0
  | 0 => by show cnt (b + 0) 1 - cnt 0 1 + 0 = 0; rw [cnt_one, cnt_one]
  | m + 1 => by
    rw [List.replicate_succ]
    show cnt (0 + sm _) _ - cnt (sm _) _ + rk (List.replicate m 0 ++ [b]) = 0
    rw [rk_end b m, Nat.zero_add, Nat.sub_self]
theorem rk_app : ∀ (a x y : List Nat), sm x = sm y → x.length = y.length → ∀ d, rk y = rk x + d → rk (a ++ y) = rk (a ++ x) + d
  | [], x, y, _, _, d, h => h
  | c :: a, x, y, hs, hl, d, h => by
    show cnt (c + sm (a ++ y)) ((a ++ y).length + 1) - cnt (sm (a ++ y)) ((a ++ y).length + 1) + rk (a ++ y) = cnt (c + sm (a ++ x)) ((a ++ x).length + 1) - cnt (sm (a ++ x)) ((a ++ x).length + 1) + rk (a ++ x) + d
    rw [rk_app a x y hs hl d h, sm_app, sm_app, List.length_append, List.length_append, hs, hl]
    omega
/-- The next distribution. -/
theorem rk_next (A : List Nat) (a b m : Nat) : rk (A ++ (a + 1) :: (List.replicate m 0 ++ [b])) = rk (A ++ a :: (b + 1) :: List.replicate m 0) + 1 := by
  apply rk_app
  · show a + (b + 1 + sm _) = a + 1 + sm (_ ++ _); rw [sm_app, sm_zeros]; show _ = a + 1 + (0 + (b + 0)); omega
  · simp
  · show cnt (a + 1 + sm _) (List.length _ + 1) - cnt (sm _) (List.length _ + 1) + rk _ = (cnt (a + (b + 1 + sm _)) (_ + 1 + 1) - cnt (b + 1 + sm _) (_ + 1 + 1) + (cnt (b + 1 + sm _) (_ + 1) - cnt (sm _) (_ + 1) + rk _)) + 1
    rw [rk_end, sm_app, sm_zeros, rk_zeros]
    show cnt (a + 1 + (0 + (b + 0))) _ - cnt (0 + (b + 0)) _ + 0 = _
    rw [List.length_append, List.length_replicate]
    simp only [Nat.add_zero, Nat.zero_add, List.length_cons, List.length_nil]
    rw [show a + 1 + b = a + (b + 1) by omega]
    have h1 := cnt_succ b (m + 1)
    have h2 := cnt_le (m + 1) (show b + 1 ≤ a + (b + 1) by omega)
    have h3 := cnt_zero (m + 1)
    have h4 := cnt_pos (b + 1) m
    omega
/-- The last distribution has all seeds in the first pit. -/
theorem rk_last (a m : Nat) : rk (a :: List.replicate m 0) + 1 = cnt a (m + 1) := by
  show cnt (a + sm _) (_ + 1) - cnt (sm _) (_ + 1) + rk _ + 1 = _
  rw [sm_zeros, rk_zeros, List.length_replicate, cnt_zero]
  have := cnt_pos a m
  show cnt a (m + 1) - 1 + 0 + 1 = _
  omega

/-- How many seeds the first of p + 1 pits has, and what is left of the rank. -/
def uk (p : Nat) : Nat → Nat → Nat × Nat
  | 0, r => (0, r)
  | s + 1, r => if r < cnt (s + 1) p then (0, r) else ((uk p s (r - cnt (s + 1) p)).1 + 1, (uk p s (r - cnt (s + 1) p)).2)
theorem uk_stop {p s r : Nat} (h : r < cnt s p) : uk p s r = (0, r) := by
  cases s with
  | zero => rfl
  | succ s => show (if _ then _ else _) = _; rw [if_pos h]
theorem uk_go {p s r : Nat} (h : cnt (s + 1) p ≤ r) : uk p (s + 1) r = ((uk p s (r - cnt (s + 1) p)).1 + 1, (uk p s (r - cnt (s + 1) p)).2) := by
  show (if _ then _ else _) = _; rw [if_neg (by omega)]
theorem uk_rk (p S r : Nat) (h : r < cnt S p) : ∀ x : Nat, uk p (x + S) (cnt (x + S) (p + 1) - cnt S (p + 1) + r) = (x, r)
  | 0 => by rw [Nat.zero_add, Nat.sub_self, Nat.zero_add]; exact uk_stop h
  | x + 1 => by
    have e : x + 1 + S = (x + S) + 1 := by omega
    have h1 := cnt_succ (x + S) p
    have h2 := cnt_le p (show S ≤ x + S by omega)
    rw [e, uk_go (by omega)]
    rw [show cnt (x + S + 1) (p + 1) - cnt S (p + 1) + r - cnt (x + S + 1) p = cnt (x + S) (p + 1) - cnt S (p + 1) + r by omega, uk_rk p S r h x]
/-- What it is: no more seeds than there are, and the rest of the rank fits. -/
theorem uk_fit (p : Nat) : ∀ (s r : Nat), r < cnt s (p + 1) → (uk p s r).1 ≤ s ∧ (uk p s r).2 < cnt (s - (uk p s r).1) p ∧ r = cnt s (p + 1) - cnt (s - (uk p s r).1) (p + 1) + (uk p s r).2
  | 0, r, h => by
    rw [cnt_zero] at h
    show 0 ≤ 0 ∧ r < cnt (0 - 0) p ∧ _
    rw [Nat.sub_zero, cnt_zero, cnt_zero]
    exact ⟨by omega, by omega, by show r = 1 - cnt (0 - 0) (p+1) + r; rw [Nat.sub_zero, cnt_zero]; omega⟩
  | s + 1, r, h => by
    have h1 := cnt_succ s p
    rcases Nat.lt_or_ge r (cnt (s + 1) p) with h2 | h2
    · rw [uk_stop h2]
      exact ⟨by omega, h2, by show r = _ - cnt (s + 1 - 0) (p + 1) + r; rw [Nat.sub_zero]; omega⟩
    · obtain ⟨i1, i2, i3⟩ := uk_fit p s (r - cnt (s + 1) p) (by omega)
      rw [uk_go h2]
      generalize uk p s (r - cnt (s + 1) p) = z at i1 i2 i3
      obtain ⟨k, q⟩ := z
      show k + 1 ≤ s + 1 ∧ q < cnt (s + 1 - (k + 1)) p ∧ r = cnt (s + 1) (p + 1) - cnt (s + 1 - (k + 1)) (p + 1) + q
      rw [show s + 1 - (k + 1) = s - k by omega]
      have h3 := cnt_le p (show s - k ≤ s by omega)
      have h4 : k ≤ s := i1
      have h5 : q < cnt (s - k) p := i2
      have h6 : r - cnt (s + 1) p = cnt s (p + 1) - cnt (s - k) (p + 1) + q := i3
      exact ⟨by omega, h5, by omega⟩
/-- The distribution of s seeds in p + 1 pits with a rank. -/
def unr : Nat → Nat → Nat → List Nat
  | 0, s, _ => [s]
  | p + 1, s, r => (uk (p + 1) s r).1 :: unr p (s - (uk (p + 1) s r).1) (uk (p + 1) s r).2
theorem unr_rk : ∀ (p : Nat) (xs : List Nat), xs.length = p + 1 → unr p (sm xs) (rk xs) = xs
  | 0, xs, h => by
    match xs, h with
    | [x], _ => show [x + 0] = [x]; rw [Nat.add_zero]
  | p + 1, xs, h => by
    match xs, h with
    | x :: ys, h =>
      have hl : ys.length = p + 1 := by simpa using h
      have hr := rk_lt ys
      have hu := uk_rk (p + 1) (sm ys) (rk ys) (by rw [← hl]; exact hr) x
      show (uk (p + 1) (x + sm ys) (cnt (x + sm ys) (ys.length + 1) - cnt (sm ys) (ys.length + 1) + rk ys)).1 :: unr p (x + sm ys - (uk (p + 1) (x + sm ys) (cnt (x + sm ys) (ys.length + 1) - cnt (sm ys) (ys.length + 1) + rk ys)).1) (uk (p + 1) (x + sm ys) (cnt (x + sm ys) (ys.length + 1) - cnt (sm ys) (ys.length + 1) + rk ys)).2 = _
      rw [hl, hu]
      show x :: unr p (x + sm ys - x) (rk ys) = x :: ys
      rw [show x + sm ys - x = sm ys by omega, unr_rk p ys hl]
theorem unr_is : ∀ (p s r : Nat), r < cnt s (p + 1) → (unr p s r).length = p + 1 ∧ sm (unr p s r) = s ∧ rk (unr p s r) = r
  | 0, s, r, h => by
    rw [cnt_one] at h
    refine ⟨rfl, by show s + 0 = s; omega, ?_⟩
    show cnt (s + 0) 1 - cnt 0 1 + 0 = r
    rw [cnt_one, cnt_one]; omega
  | p + 1, s, r, h => by
    obtain ⟨h1, h2, h3⟩ := uk_fit (p + 1) s r h
    obtain ⟨i1, i2, i3⟩ := unr_is p (s - (uk (p + 1) s r).1) (uk (p + 1) s r).2 h2
    refine ⟨by show List.length (unr p _ _) + 1 = _; rw [i1], by show _ + sm (unr p _ _) = s; rw [i2]; omega, ?_⟩
    show cnt (_ + sm (unr p _ _)) (List.length (unr p _ _) + 1) - cnt (sm (unr p _ _)) (List.length (unr p _ _) + 1) + rk (unr p _ _) = r
    rw [i1, i2, i3]
    rw [show (uk (p + 1) s r).1 + (s - (uk (p + 1) s r).1) = s by omega]
    exact h3.symm
end Go.Proofs.Ythbgfkklejnhiaa
