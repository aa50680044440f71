/- After a lap around the board a way comes again to its first place. No conditions. -/
import Derived.Test.YthlfkdjkihiiaaaSow
namespace Go.Proofs.Ythlfkdjkihiiaaa
open Go.Joins Go.ChangeShapes Go.WideShapes Go.ChangeAt Go.RowKit Go.Deep
set_option linter.unusedVariables false

/-- How many seeds a lap around the board needs. -/
def lapN (p : Int) (st sk : Bool) : Int := 2 * p + (if st then 1 else 0) - (if sk then 1 else 0)
theorem lapN_bd {p : Int} (st sk : Bool) (h0 : 2 ≤ p) (h1 : p ≤ 8) : 3 ≤ lapN p st sk ∧ lapN p st sk ≤ 17 := by
  unfold lapN
  cases st <;> cases sk <;> simp <;> omega
/-- What is to be shown of one pit. -/
def perB (p pl f : Int) (st sk : Bool) : Bool :=
  decide (plc p pl st sk f (lapN p st sk).toNat = plc p pl st sk f 0) && (sk || (decide (plc p pl st sk f ((lapN p st sk).toNat - 1) = f) && decide (plc p pl st sk f 0 ≠ f)))
theorem per_all : ((List.range 7).all fun a => [(0 : Int), 1].all fun pl => [true, false].all fun st => [true, false].all fun sk => (List.range (2 * (a + 2))).all fun f => perB ((a : Int) + 2) pl (f : Int) st sk) = true := by decide +kernel
theorem per_at {p pl f : Int} (st sk : Bool) (h0 : 2 ≤ p) (h1 : p ≤ 8) (hpl : pl = 0 ∨ pl = 1) (hf0 : 0 ≤ f) (hf1 : f < 2 * p) : perB p pl f st sk = true := by
  have h := List.all_eq_true.1 per_all (p - 2).toNat (List.mem_range.2 (by omega))
  have h := List.all_eq_true.1 h pl (by rcases hpl with rfl | rfl <;> simp)
  have h := List.all_eq_true.1 h st (by cases st <;> simp)
  have h := List.all_eq_true.1 h sk (by cases sk <;> simp)
  have h := List.all_eq_true.1 h f.toNat (List.mem_range.2 (by omega))
  rwa [show (((p - 2).toNat : Nat) : Int) + 2 = p by omega, show ((f.toNat : Nat) : Int) = f by omega] at h
section
variable {p pl f : Int} {st sk : Bool}
theorem plc_period (h0 : 2 ≤ p) (h1 : p ≤ 8) (hpl : pl = 0 ∨ pl = 1) (hf0 : 0 ≤ f) (hf1 : f < 2 * p) (k : Nat) : plc p pl st sk f (k + (lapN p st sk).toNat) = plc p pl st sk f k := by
  induction k with
  | zero =>
    have h := per_at st sk h0 h1 hpl hf0 hf1
    unfold perB at h
    simp only [Bool.and_eq_true, decide_eq_true_eq] at h
    rw [Nat.zero_add]
    exact h.1
  | succ k ih =>
    rw [show k + 1 + (lapN p st sk).toNat = (k + (lapN p st sk).toNat) + 1 by omega]
    show nxF p pl st sk f (plc p pl st sk f (k + (lapN p st sk).toNat)) = nxF p pl st sk f (plc p pl st sk f k)
    rw [ih]
theorem plc_round (h0 : 2 ≤ p) (h1 : p ≤ 8) (hpl : pl = 0 ∨ pl = 1) (hf0 : 0 ≤ f) (hf1 : f < 2 * p) (hs : sk = false) : plc p pl st sk f ((lapN p st sk).toNat - 1) = f ∧ plc p pl st sk f 0 ≠ f := by
  have h := per_at st sk h0 h1 hpl hf0 hf1
  subst hs
  unfold perB at h
  simp only [Bool.and_eq_true, decide_eq_true_eq, Bool.false_or] at h
  exact h.2
end
end Go.Proofs.Ythlfkdjkihiiaaa
