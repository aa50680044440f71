/- Numbers of positions: what the functions of chapter 13 answer, in numbers alone; the program's and the reference's codes, counts and first indices. No conditions. -/
import Derived.Test.YthbgfkklejnhiaaUn
import Derived.Test.YthbgfkklejnhiaaBox4
namespace Go.Proofs.Ythbgfkklejnhiaa
open Go.Joins Go.ChangeShapes Go.WideShapes Go.ChangeAt Go.RowKit Go.Deep
set_option linter.unusedVariables false

/-- How many distributions in twice P pits have fewer seeds. -/
def bf (P s : Nat) : Nat := ch (s + 2 * P - 1) (2 * P)
theorem bf_zero {P : Nat} (h : 1 ≤ P) : bf P 0 = 0 := ch_big _ _ (by omega)
theorem bf_succ {P : Nat} (h : 1 ≤ P) (s : Nat) : bf P (s + 1) = bf P s + cnt s (2 * P) := by
  obtain ⟨q, hq⟩ : ∃ q, 2 * P = q + 1 := ⟨2 * P - 1, by omega⟩
  unfold bf
  rw [hq, show s + 1 + (q + 1) - 1 = (s + q) + 1 by omega, ch_succ, show s + (q + 1) - 1 = s + q by omega]
  show ch (s + q) q + ch (s + q) (q + 1) = ch (s + q) (q + 1) + ch (s + q) q
  omega
theorem bf_le {P : Nat} (h : 1 ≤ P) {s t : Nat} (k : s ≤ t) : bf P s ≤ bf P t := by
  induction k with
  | refl => exact Nat.le_refl _
  | step _ ih => rw [bf_succ h]; omega
/-- A number, cut behind the greatest one. -/
def cut9 (x : Nat) : Int := if x ≤ 1000000000 then (x : Int) else 1000000001
theorem cut9_lo {x : Nat} (h : x ≤ 1000000000) : cut9 x = (x : Int) := if_pos h
theorem cut9_hi {x : Nat} (h : 1000000000 < x) : cut9 x = 1000000001 := if_neg (by omega)
theorem cut9_bd (x : Nat) : 0 ≤ cut9 x ∧ cut9 x ≤ 1000000001 := by unfold cut9; split <;> omega
theorem cut9_cap (x : Nat) : lo2 1000000001 (cap x) = cut9 x := by
  unfold lo2 cap cut9
  split <;> split <;> split <;> omega
/-- Seeds whose positions are numbered. -/
def n13K (p s : Int) : Bool := decide (0 ≤ s) && decide (s ≤ 96) && decide (bf p.toNat (s.toNat + 1) ≤ 1000000000)
def n13C (k : Bool) (p s : Int) : Int := if k then (if n13K p s then 0 else 2) else 1
theorem n13_no (p s : Int) : n13C false p s = 1 := rfl
theorem n13_in {P S : Nat} (h : S ≤ 96) : n13K (P : Int) (S : Int) = decide (bf P (S + 1) ≤ 1000000000) := by
  unfold n13K
  rw [decide_eq_true (by omega : (0 : Int) ≤ S), decide_eq_true (by omega : (S : Int) ≤ 96), Int.toNat_natCast, Int.toNat_natCast]
  rfl
theorem n13_out {p s : Int} (h : ¬ (0 ≤ s ∧ s ≤ 96)) : n13C true p s = 2 := by
  unfold n13C n13K
  by_cases h0 : 0 ≤ s
  · rw [decide_eq_false (by omega : ¬ s ≤ 96)]; simp
  · rw [decide_eq_false h0]; simp
theorem n13_yes {P S : Nat} (h : S ≤ 96) (h2 : bf P (S + 1) ≤ 1000000000) : n13C true (P : Int) (S : Int) = 0 := by
  unfold n13C
  rw [n13_in h, decide_eq_true h2]
  rfl
theorem n13_far {P S : Nat} (h : S ≤ 96) (h2 : 1000000000 < bf P (S + 1)) : n13C true (P : Int) (S : Int) = 2 := by
  unfold n13C
  rw [n13_in h, decide_eq_false (by omega)]
  rfl
/-- The code is that all is well: then all is within bounds. -/
theorem n13_parts {k : Bool} {p s : Int} (h : n13C k p s = 0) : k = true ∧ ∃ S : Nat, s = (S : Int) ∧ S ≤ 96 ∧ bf p.toNat (S + 1) ≤ 1000000000 := by
  cases k
  · rw [n13_no] at h; exact absurd h (by decide)
  · unfold n13C at h
    rcases hk : n13K p s with _ | _
    · rw [hk] at h; exact absurd h (by decide)
    · unfold n13K at hk
      simp only [Bool.and_eq_true, decide_eq_true_eq] at hk
      obtain ⟨⟨h1, h2⟩, h3⟩ := hk
      exact ⟨rfl, s.toNat, by omega, by omega, h3⟩
theorem n13_cases (k : Bool) (p s : Int) : n13C k p s = 0 ∨ n13C k p s = 1 ∨ n13C k p s = 2 := by
  unfold n13C
  split
  · split
    · exact .inl rfl
    · exact .inr (.inr rfl)
  · exact .inr (.inl rfl)
/-- What the program's fewerThan answers. -/
def fwV (P s : Nat) : Int := if bf P s ≤ 1000000000000000 then (bf P s : Int) else 0
def fwC (P s : Nat) : Int := if bf P s ≤ 1000000000000000 then 0 else 2

theorem few_any (P S : Nat) (s c l : Int) (st sk re fe ag : Bool) (n : Int) (w : World) (hn : n = (S : Int)) (hP : 2 ≤ P) (hP2 : P ≤ 8) (hS : S ≤ 97) :
    Calls Try.prog 48 #[.agg #[.int .i64 P, .int .i64 s, .bool st, .bool sk, .bool re, .bool fe, .bool ag, .int .i64 c, .int .i64 l], .int .i64 n] w fun e w' => e = .returned (.tuple #[.int .i64 (fwV P S), .int .i64 (fwC P S)]) ∧ Below w.heap.size w w' := by
  subst hn
  have HC : Hid (∀ (n k : Int) (u : World), n = ((S + 2 * P - 1 : Nat) : Int) → k = ((2 * P : Nat) : Int) → Calls Try.prog 77 #[.int .i64 n, .int .i64 k] u fun e w' => e = .returned (.tuple #[.int .i64 (fwV P S), .int .i64 (fwC P S)]) ∧ Below u.heap.size u w') := Lib.hid (by
    rintro n k u rfl rfl
    have h := implCho_any ((S + 2 * P - 1 : Nat) : Int) ((2 * P : Nat) : Int) u
    unfold ChP at h
    unfold fwV fwC bf
    by_cases hb : ch (S + 2 * P - 1) (2 * P) ≤ 1000000000000000
    · obtain ⟨e1, e2⟩ := cho_yes (N := S + 2 * P - 1) (K := 2 * P) (by omega) hb
      rw [e1, e2] at h
      rw [if_pos hb, if_pos hb]
      exact h
    · obtain ⟨e1, e2⟩ := cho_big (N := S + 2 * P - 1) (K := 2 * P) (by omega) (by omega)
      rw [e1, e2] at h
      rw [if_neg hb, if_neg hb]
      exact h)
  generalize fwV P S = V at *
  generalize fwC P S = C at *
  go_enter Try.func48, Try.ntmps48
  go_wp2_with (first | (go_at_call 50; refine (board_any (P : Int) s c l st sk re fe ag (by unfold I64; omega) _).mono ?_; rintro e w1 ⟨rfl, hb⟩; have HB := Lib.hid (((Below.refl _ _).alloc (Nat.le_refl _) _).trans (hb.mono (by simp)) : Below w.heap.size w w1); clear hb) | (go_at_call 77; refine (HC.out _ _ _ (by omega) (by omega)).mono ?_; rintro e w2 ⟨rfl, hb⟩; have HB := Lib.hid (HB.out.trans (hb.mono HB.out.size)); clear hb))
  go_ret2
  exact ⟨rfl, HB.out⟩
set_option maxHeartbeats 2000000 in
theorem chk_any (p s c l : Int) (st sk re fe ag : Bool) (n : Int) (w : World) :
    Calls Try.prog 47 #[.agg #[.int .i64 p, .int .i64 s, .bool st, .bool sk, .bool re, .bool fe, .bool ag, .int .i64 c, .int .i64 l], .int .i64 n] w fun e w' => e = .returned (.int .i64 (n13C (okR p s c l st ag) p n)) ∧ Below w.heap.size w w' := by
  rcases hok : okR p s c l st ag with _ | _
  · have Hok := Lib.hid hok
    have Hc := Lib.hid (n13_no p n)
    clear hok
    go_enter Try.func47, Try.ntmps47
    go_wp2_with (go_at_call 53; refine (valid_any p s c l st sk re fe ag _).mono ?_; rintro e w1 ⟨rfl, hb⟩; rw [Hok.out]; have HB := Lib.hid (((Below.refl _ _).alloc (Nat.le_refl _) _).trans (hb.mono (by simp)) : Below w.heap.size w w1); clear hb)
    go_ret
    exact ⟨by rw [Hc.out]; rfl, HB.out⟩
  · obtain ⟨hp1, hp2, -⟩ := okR_bd hok
    by_cases hin : 0 ≤ n ∧ n ≤ 96
    · obtain ⟨P, rfl⟩ : ∃ P : Nat, p = (P : Int) := ⟨p.toNat, by omega⟩
      obtain ⟨S, rfl⟩ : ∃ S : Nat, n = (S : Int) := ⟨n.toNat, by omega⟩
      have Hok := Lib.hid hok
      have HF := Lib.hid (fun (n : Int) (u : World) (h : n = ((S + 1 : Nat) : Int)) => few_any P (S + 1) s c l st sk re fe ag n u h (by omega) (by omega) (by omega))
      obtain ⟨h0, h1⟩ := hin
      clear hok
      by_cases hb : bf P (S + 1) ≤ 1000000000
      · have Hc := Lib.hid (n13_yes (P := P) (S := S) (by omega) hb)
        have e1 : fwV P (S + 1) = (bf P (S + 1) : Int) := if_pos (by omega)
        have e2 : fwC P (S + 1) = 0 := if_pos (by omega)
        rw [e1, e2] at HF
        clear e1 e2
        generalize bf P (S + 1) = X at *
        have q1 : ¬ ((1000000000 : Int) < (X : Int)) := by omega
        clear hb
        go_enter Try.func47, Try.ntmps47
        go_wp2_with (first | (go_at_call 53; refine (valid_any (P : Int) s c l st sk re fe ag _).mono ?_; rintro e w1 ⟨rfl, hb⟩; rw [Hok.out]; have HB := Lib.hid (((Below.refl _ _).alloc (Nat.le_refl _) _).trans (hb.mono (by simp)) : Below w.heap.size w w1); have hz1 : w.heap.size < w1.heap.size := (by have := hb.size; simp at this; omega); have hx1 := fun o => hb.cell (p := ⟨w.heap.size, o, none⟩) (by simp); clear hb) | (go_at_call 48; refine (HF.out _ _ (by omega)).mono ?_; rintro e w2 ⟨rfl, hb⟩; have HB := Lib.hid (HB.out.trans (hb.mono HB.out.size)); clear hb))
        go_ret
        exact ⟨by rw [Hc.out]; rfl, HB.out⟩
      · have Hc := Lib.hid (n13_far (P := P) (S := S) (by omega) (by omega))
        have hq : fwC P (S + 1) = 2 ∨ (fwC P (S + 1) = 0 ∧ 1000000000 < fwV P (S + 1)) := by
          unfold fwV fwC
          split
          · exact .inr ⟨rfl, by omega⟩
          · exact .inl rfl
        generalize fwV P (S + 1) = V at *
        generalize fwC P (S + 1) = C at *
        clear hb
        rcases hq with rfl | ⟨rfl, q1⟩
        all_goals
          go_enter Try.func47, Try.ntmps47
          go_wp2_with (first | (go_at_call 53; refine (valid_any (P : Int) s c l st sk re fe ag _).mono ?_; rintro e w1 ⟨rfl, hb⟩; rw [Hok.out]; have HB := Lib.hid (((Below.refl _ _).alloc (Nat.le_refl _) _).trans (hb.mono (by simp)) : Below w.heap.size w w1); have hz1 : w.heap.size < w1.heap.size := (by have := hb.size; simp at this; omega); have hx1 := fun o => hb.cell (p := ⟨w.heap.size, o, none⟩) (by simp); clear hb) | (go_at_call 48; refine (HF.out _ _ (by omega)).mono ?_; rintro e w2 ⟨rfl, hb⟩; have HB := Lib.hid (HB.out.trans (hb.mono HB.out.size)); clear hb))
          go_ret
          exact ⟨by rw [Hc.out]; rfl, HB.out⟩
    · have Hok := Lib.hid hok
      have Hc := Lib.hid (n13_out (p := p) hin)
      clear hok
      by_cases h0 : n < 0
      all_goals
        try have h1 : 96 < n := by omega
        clear hin
        go_enter Try.func47, Try.ntmps47
        go_wp2_with (go_at_call 53; refine (valid_any p s c l st sk re fe ag _).mono ?_; rintro e w1 ⟨rfl, hb⟩; rw [Hok.out]; have HB := Lib.hid (((Below.refl _ _).alloc (Nat.le_refl _) _).trans (hb.mono (by simp)) : Below w.heap.size w w1); clear hb)
        go_ret
        exact ⟨by rw [Hc.out]; rfl, HB.out⟩
end Go.Proofs.Ythbgfkklejnhiaa
