/- The places of a player in the order of sowing. No conditions. -/
import Derived.Test.YtgogjjkecbgbiaaTot
namespace Go.Proofs.Ytgogjjkecbgbiaa
open Go.Joins Go.ChangeShapes Go.WideShapes Go.ChangeAt Go.RowKit Go.Deep
set_option linter.unusedVariables false

/-- The last pit of a player. -/
def en (p pl : Int) : Int := if pl = 0 then p - 1 else 2 * p - 1
/-- The pit behind a pit. -/
def nxp (p x : Int) : Int := if x + 1 = 2 * p then 0 else x + 1
/-- The place behind a place. -/
def nx (p pl : Int) (st : Bool) (x : Int) : Int := if x = -1 then nxp p (en p pl) else if (st && decide (x = en p pl)) = true then -1 else nxp p x
/-- The same in a lap from pit f. -/
def nxF (p pl : Int) (st sk : Bool) (f x : Int) : Int := if (sk && decide (nx p pl st x = f)) = true then nx p pl st f else nx p pl st x
/-- The place of a lap's k-th seed. -/
def plc (p pl : Int) (st sk : Bool) (f : Int) : Nat → Int
  | 0 => nxF p pl st sk f f
  | k + 1 => nxF p pl st sk f (plc p pl st sk f k)

section
variable {p pl f x : Int} {st sk : Bool}
theorem en_bd (h1 : 2 ≤ p) : 0 ≤ en p pl ∧ en p pl < 2 * p := by unfold en; split <;> omega
theorem en_mul (h : pl = 0 ∨ pl = 1) : (pl + 1) * p - 1 = en p pl := by
  rcases h with rfl | rfl
  · unfold en
    rw [if_pos rfl]
    omega
  · unfold en
    rw [if_neg (by omega)]
    omega
theorem nxp_bd (h0 : 0 ≤ x) (h1 : x < 2 * p) : 0 ≤ nxp p x ∧ nxp p x < 2 * p := by unfold nxp; split <;> omega
theorem nxp_mod (h0 : 0 ≤ x) (h1 : x < 2 * p) : (x + 1) % (2 * p) = nxp p x := by
  unfold nxp
  split
  · rename_i h
    rw [h, Int.emod_self]
  · exact Int.emod_eq_of_lt (by omega) (by omega)
theorem nxp_ne (h1 : 2 ≤ p) (h0 : 0 ≤ x) : nxp p x ≠ x := by unfold nxp; split <;> omega
theorem nx_store : nx p pl st (-1) = nxp p (en p pl) := by simp [nx]
theorem nx_end (hx : x ≠ -1) (hs : (st && decide (x = en p pl)) = true) : nx p pl st x = -1 := by unfold nx; rw [if_neg hx, if_pos hs]
theorem nx_pit (hx : x ≠ -1) (hs : (st && decide (x = en p pl)) = false) : nx p pl st x = nxp p x := by unfold nx; rw [if_neg hx, if_neg (by rw [hs]; exact Bool.false_ne_true)]
theorem nx_bd (h1 : 2 ≤ p) (h0 : -1 ≤ x) (h2 : x < 2 * p) : -1 ≤ nx p pl st x ∧ nx p pl st x < 2 * p := by
  have he := en_bd (pl := pl) h1
  unfold nx
  split
  · have := nxp_bd he.1 he.2
    omega
  · split
    · omega
    · have := nxp_bd (p := p) (x := x) (by omega) h2
      omega
theorem nx_st (h1 : 2 ≤ p) (h0 : -1 ≤ x) (h2 : x < 2 * p) (h : nx p pl st x = -1) : st = true := by
  cases st
  · have he := en_bd (pl := pl) h1
    unfold nx at h
    split at h
    · have := nxp_bd he.1 he.2
      omega
    · simp at h
      have := nxp_bd (p := p) (x := x) (by omega) h2
      omega
  · rfl
theorem nx_ne (h1 : 2 ≤ p) (h0 : 0 ≤ f) : nx p pl st f ≠ f := by
  unfold nx
  rw [if_neg (by omega)]
  split
  · omega
  · exact nxp_ne h1 h0
theorem nxF_yes (h : (sk && decide (nx p pl st x = f)) = true) : nxF p pl st sk f x = nx p pl st f := if_pos h
theorem nxF_no (h : (sk && decide (nx p pl st x = f)) = false) : nxF p pl st sk f x = nx p pl st x := if_neg (by rw [h]; exact Bool.false_ne_true)
theorem nxF_self (h1 : 2 ≤ p) (h0 : 0 ≤ f) : nxF p pl st sk f f = nx p pl st f := nxF_no (by rw [decide_eq_false (nx_ne h1 h0)]; simp)
theorem nxF_bd (h1 : 2 ≤ p) (hf0 : 0 ≤ f) (hf1 : f < 2 * p) (h0 : -1 ≤ x) (h2 : x < 2 * p) : -1 ≤ nxF p pl st sk f x ∧ nxF p pl st sk f x < 2 * p := by
  unfold nxF
  split
  · exact nx_bd h1 (by omega) hf1
  · exact nx_bd h1 h0 h2
theorem nxF_st (h1 : 2 ≤ p) (hf0 : 0 ≤ f) (hf1 : f < 2 * p) (h0 : -1 ≤ x) (h2 : x < 2 * p) (h : nxF p pl st sk f x = -1) : st = true := by
  unfold nxF at h
  split at h
  · exact nx_st h1 (by omega) hf1 h
  · exact nx_st h1 h0 h2 h
theorem plc_bd (h1 : 2 ≤ p) (hf0 : 0 ≤ f) (hf1 : f < 2 * p) (k : Nat) : -1 ≤ plc p pl st sk f k ∧ plc p pl st sk f k < 2 * p := by
  induction k with
  | zero => exact nxF_bd h1 hf0 hf1 (by omega) hf1
  | succ k ih => exact nxF_bd h1 hf0 hf1 ih.1 ih.2
theorem plc_st (h1 : 2 ≤ p) (hf0 : 0 ≤ f) (hf1 : f < 2 * p) (k : Nat) (h : plc p pl st sk f k = -1) : st = true := by
  cases k with
  | zero => exact nxF_st h1 hf0 hf1 (by omega) hf1 h
  | succ k => exact nxF_st h1 hf0 hf1 (plc_bd h1 hf0 hf1 k).1 (plc_bd h1 hf0 hf1 k).2 h

/-- The pit y at which the way stands, k places having been passed: the next place is the k-th. -/
def AtK (p pl : Int) (st sk : Bool) (f : Int) (k : Nat) (y : Int) : Prop := 0 ≤ y ∧ y < 2 * p ∧ nxF p pl st sk f y = plc p pl st sk f k
theorem atK_start (hf0 : 0 ≤ f) (hf1 : f < 2 * p) : AtK p pl st sk f 0 f := ⟨hf0, hf1, rfl⟩
/-- Behind the last pit lies the store. -/
theorem atK_end {k : Nat} {y : Int} (h : AtK p pl st sk f k y) (hf0 : 0 ≤ f) (hs : (st && decide (y = en p pl)) = true) : plc p pl st sk f k = -1 := by
  obtain ⟨h0, h2, h3⟩ := h
  have e := nx_end (p := p) (pl := pl) (st := st) (x := y) (by omega) hs
  rw [← h3, nxF_no (by rw [e, decide_eq_false (by omega)]; simp), e]
/-- From the store the way goes on to the next pit, or past it. -/
theorem atK_store {k : Nat} (h1 : 2 ≤ p) (hf0 : 0 ≤ f) (h : plc p pl st sk f k = -1) (hs : (sk && decide (nxp p (en p pl) = f)) = false) : plc p pl st sk f (k + 1) = nxp p (en p pl) := by
  show nxF p pl st sk f (plc p pl st sk f k) = _
  rw [h, nxF_no (by rw [nx_store]; exact hs), nx_store]
theorem atK_store_skip {k : Nat} (h1 : 2 ≤ p) (hf0 : 0 ≤ f) (hf1 : f < 2 * p) (h : plc p pl st sk f k = -1) (hs : (sk && decide (nxp p (en p pl) = f)) = true) : AtK p pl st sk f (k + 1) f := by
  refine ⟨hf0, hf1, ?_⟩
  show _ = nxF p pl st sk f (plc p pl st sk f k)
  rw [h, nxF_self h1 hf0, nxF_yes (by rw [nx_store]; exact hs)]
theorem atK_pit {k : Nat} {y : Int} (h : AtK p pl st sk f k y) (hs : (st && decide (y = en p pl)) = false) (hn : (sk && decide (nxp p y = f)) = false) : plc p pl st sk f k = nxp p y := by
  obtain ⟨h0, h2, h3⟩ := h
  have e := nx_pit (p := p) (pl := pl) (st := st) (x := y) (by omega) hs
  rw [← h3, nxF_no (by rw [e]; exact hn), e]
theorem atK_skip {k : Nat} {y : Int} (h1 : 2 ≤ p) (hf0 : 0 ≤ f) (hf1 : f < 2 * p) (h : AtK p pl st sk f k y) (hs : (st && decide (y = en p pl)) = false) (hn : (sk && decide (nxp p y = f)) = true) : AtK p pl st sk f k f := by
  obtain ⟨h0, h2, h3⟩ := h
  have e := nx_pit (p := p) (pl := pl) (st := st) (x := y) (by omega) hs
  refine ⟨hf0, hf1, ?_⟩
  rw [← h3, nxF_self h1 hf0, nxF_yes (by rw [e]; exact hn)]
theorem atK_next {k : Nat} {y : Int} (h0 : 0 ≤ y) (h2 : y < 2 * p) (h : plc p pl st sk f k = y) : AtK p pl st sk f (k + 1) y := ⟨h0, h2, by show _ = nxF p pl st sk f (plc p pl st sk f k); rw [h]⟩
end
end Go.Proofs.Ytgogjjkecbgbiaa
