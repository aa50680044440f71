/- CountSeeds of both sides. No conditions. -/
import Derived.Test.YthbgfkklejnhiaaChoS
namespace Go.Proofs.Ythbgfkklejnhiaa
open Go.Joins Go.ChangeShapes Go.WideShapes Go.ChangeAt Go.RowKit Go.Deep
set_option linter.unusedVariables false

/-- Seeds and pits that can be numbered. -/
def cnK (s p : Int) : Bool := decide (0 ≤ s) && decide (s ≤ 96) && decide (1 ≤ p) && decide (p ≤ 16) && decide (cnt s.toNat p.toNat ≤ 1000000000000000)
def cnV (s p : Int) : Int := if cnK s p then (cnt s.toNat p.toNat : Int) else 0
def cnC (s p : Int) : Int := if cnK s p then 0 else 2
def CnP (s p : Int) (w : World) (e : Ending) (w' : World) : Prop := e = .returned (.tuple #[.int .i64 (cnV s p), .int .i64 (cnC s p)]) ∧ Below w.heap.size w w'
theorem cn_bad {s p : Int} (h : ¬ (0 ≤ s ∧ s ≤ 96 ∧ 1 ≤ p ∧ p ≤ 16)) : cnK s p = false := by
  unfold cnK
  by_cases h1 : 0 ≤ s
  · by_cases h2 : s ≤ 96
    · by_cases h3 : 1 ≤ p
      · rw [decide_eq_false (by omega : ¬ p ≤ 16)]; simp
      · rw [decide_eq_false h3]; simp
    · rw [decide_eq_false h2]; simp
  · rw [decide_eq_false h1]; simp
theorem cn_in {S P : Nat} (h : S ≤ 96) (h2 : P ≤ 15) : cnK (S : Int) ((P : Int) + 1) = decide (cnt S (P + 1) ≤ 1000000000000000) := by
  unfold cnK
  rw [decide_eq_true (by omega : (0 : Int) ≤ S), decide_eq_true (by omega : (S : Int) ≤ 96), decide_eq_true (by omega : (1 : Int) ≤ (P : Int) + 1), decide_eq_true (by omega : (P : Int) + 1 ≤ 16), Int.toNat_natCast, show ((P : Int) + 1).toNat = P + 1 by omega]
  rfl
theorem cn_val {S P : Nat} (h : cnK (S : Int) ((P : Int) + 1) = true) : cnV (S : Int) ((P : Int) + 1) = (cnt S (P + 1) : Int) ∧ cnC (S : Int) ((P : Int) + 1) = 0 := by
  unfold cnV cnC
  rw [h, Int.toNat_natCast, show ((P : Int) + 1).toNat = P + 1 by omega]
  exact ⟨rfl, rfl⟩
theorem cn_no {s p : Int} (h : cnK s p = false) : cnV s p = 0 ∧ cnC s p = 2 := by
  unfold cnV cnC
  rw [h]
  exact ⟨rfl, rfl⟩
theorem cn_parts {s p : Int} (h : cnK s p = true) : ∃ S P : Nat, s = (S : Int) ∧ p = (P : Int) + 1 ∧ S ≤ 96 ∧ P ≤ 15 ∧ cnt S (P + 1) ≤ 1000000000000000 := by
  have h0 := h
  unfold cnK at h
  simp only [Bool.and_eq_true, decide_eq_true_eq] at h
  obtain ⟨⟨⟨⟨h1, h2⟩, h3⟩, h4⟩, h5⟩ := h
  refine ⟨s.toNat, (p - 1).toNat, by omega, by omega, by omega, by omega, ?_⟩
  rwa [show (p - 1).toNat + 1 = p.toNat by omega]
/-- The answer of Choose is that of CountSeeds. -/
theorem cho_cnt {S P : Nat} (h : S ≤ 96) (h2 : P ≤ 15) : chV ((S + P : Nat) : Int) (P : Int) = cnV (S : Int) ((P : Int) + 1) ∧ chC ((S + P : Nat) : Int) (P : Int) = cnC (S : Int) ((P : Int) + 1) := by
  have hk : chK ((S + P : Nat) : Int) (P : Int) = cnK (S : Int) ((P : Int) + 1) := by
    rw [cho_in (by omega), cn_in h h2]
    rfl
  unfold chV chC cnV cnC
  rw [hk, Int.toNat_natCast, Int.toNat_natCast, Int.toNat_natCast, show ((P : Int) + 1).toNat = P + 1 by omega]
  exact ⟨rfl, rfl⟩

set_option maxHeartbeats 2000000 in
theorem implCnt_any (s p : Int) (w : World) : Calls Try.prog 49 #[.int .i64 s, .int .i64 p] w (CnP s p w) := by
  by_cases h : 0 ≤ s ∧ s ≤ 96 ∧ 1 ≤ p ∧ p ≤ 16
  · obtain ⟨S, rfl⟩ : ∃ S : Nat, s = (S : Int) := ⟨s.toNat, by omega⟩
    obtain ⟨P, rfl⟩ : ∃ P : Nat, p = (P : Int) + 1 := ⟨(p - 1).toNat, by omega⟩
    have hv := cho_cnt (S := S) (P := P) (by omega) (by omega)
    have HV := Lib.hid hv
    have hc : ∀ n k : Int, n = ((S + P : Nat) : Int) → k = (P : Int) → Calls Try.prog 77 #[.int .i64 n, .int .i64 k] w (CnP (S : Int) ((P : Int) + 1) w) := by
      rintro n k rfl rfl
      unfold CnP
      rw [← hv.1, ← hv.2]
      exact implCho_any _ _ w
    have HC := Lib.hid hc
    obtain ⟨h1, h2, h3, h4⟩ := h
    clear hv hc
    generalize hV : cnV (S : Int) ((P : Int) + 1) = V at *
    generalize hK : cnC (S : Int) ((P : Int) + 1) = K at *
    have Hv := Lib.hid hV
    have Hk := Lib.hid hK
    clear hV hK
    go_enter Try.func49, Try.ntmps49
    go_wp2_with (go_at_call 77; refine (HC.out _ _ (by omega) (by omega)).mono ?_; rintro e w' ⟨rfl, hb⟩; rw [Hv.out, Hk.out]; have HB := Lib.hid hb; clear hb)
    go_ret2
    exact ⟨by rw [Hv.out, Hk.out]; rfl, HB.out⟩
  · have H := Lib.hid (cn_no (cn_bad h))
    by_cases h1 : s < 0
    · clear h
      go_enter Try.func49, Try.ntmps49
      go_wp2
      go_ret2
      exact ⟨by rw [H.out.1, H.out.2]; rfl, Below.refl _ _⟩
    · by_cases h2 : 96 < s
      · clear h
        go_enter Try.func49, Try.ntmps49
        go_wp2
        go_ret2
        exact ⟨by rw [H.out.1, H.out.2]; rfl, Below.refl _ _⟩
      · by_cases h3 : p < 1
        · clear h
          go_enter Try.func49, Try.ntmps49
          go_wp2
          go_ret2
          exact ⟨by rw [H.out.1, H.out.2]; rfl, Below.refl _ _⟩
        · have h4 : 16 < p := by omega
          clear h
          go_enter Try.func49, Try.ntmps49
          go_wp2
          go_ret2
          exact ⟨by rw [H.out.1, H.out.2]; rfl, Below.refl _ _⟩
theorem specN_any (S P : Nat) (s p : Int) (w : World) (hs : s = (S : Int)) (hp : p = (P : Int) + 1) (h : S ≤ 96) (h2 : P ≤ 15) :
    Calls Try.prog 59 #[.int .i64 s, .int .i64 p] w fun e w' => e = .returned (.int .i64 (cap (cnt S (P + 1)))) ∧ Below w.heap.size w w' := by
  subst hs hp
  have HC : Hid (∀ n k : Int, n = ((S + P : Nat) : Int) → k = (P : Int) → Calls Try.prog 85 #[.int .i64 n, .int .i64 k] w fun e w' => e = .returned (.int .i64 (cap (cnt S (P + 1)))) ∧ Below w.heap.size w w') := Lib.hid (by
    rintro n k rfl rfl
    exact specCh_any (S + P) P w (by omega))
  go_enter Try.func59, Try.ntmps59
  go_wp2_with (go_at_call 85; refine (HC.out _ _ (by omega) (by omega)).mono ?_; rintro e w' ⟨rfl, hb⟩; have HB := Lib.hid hb; clear hb)
  go_ret
  exact ⟨rfl, HB.out⟩
end Go.Proofs.Ythbgfkklejnhiaa
