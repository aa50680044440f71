/- Choose of both sides. No conditions. -/
import Derived.Test.YthbgfkklejnhiaaDist
import Derived.Test.YthbgfkklejnhiaaRowN
import Derived.Test.YthbgfkklejnhiaaOwn4
import Derived.Test.YthbgfkklejnhiaaCh2
namespace Go.Proofs.Ythbgfkklejnhiaa
open Go.Joins Go.ChangeShapes Go.WideShapes Go.ChangeAt Go.RowKit Go.Deep
set_option linter.unusedVariables false

/-- What Choose answers. -/
def chK (n k : Int) : Bool := decide (0 ≤ n) && decide (0 ≤ k) && decide (n ≤ 200) && decide (ch n.toNat k.toNat ≤ 1000000000000000)
def chV (n k : Int) : Int := if chK n k then (ch n.toNat k.toNat : Int) else 0
def chC (n k : Int) : Int := if chK n k then 0 else 2
def ChP (n k : Int) (w : World) (e : Ending) (w' : World) : Prop := e = .returned (.tuple #[.int .i64 (chV n k), .int .i64 (chC n k)]) ∧ Below w.heap.size w w'

theorem cho_bad {n k : Int} (h : n < 0 ∨ k < 0 ∨ 200 < n) : chV n k = 0 ∧ chC n k = 2 := by
  have : chK n k = false := by
    unfold chK
    rcases h with h | h | h
    · rw [decide_eq_false (by omega : ¬ 0 ≤ n)]; rfl
    · rw [decide_eq_false (by omega : ¬ 0 ≤ k)]; simp
    · rw [decide_eq_false (by omega : ¬ n ≤ 200)]; simp
  unfold chV chC
  rw [this]
  exact ⟨rfl, rfl⟩
theorem cho_in {N K : Nat} (h : N ≤ 200) : chK (N : Int) (K : Int) = decide (ch N K ≤ 1000000000000000) := by
  unfold chK
  rw [decide_eq_true (by omega : (0 : Int) ≤ N), decide_eq_true (by omega : (0 : Int) ≤ K), decide_eq_true (by omega : (N : Int) ≤ 200), Int.toNat_natCast, Int.toNat_natCast]
  rfl
theorem cho_yes {N K : Nat} (h : N ≤ 200) (h2 : ch N K ≤ 1000000000000000) : chV (N : Int) (K : Int) = (ch N K : Int) ∧ chC (N : Int) (K : Int) = 0 := by
  unfold chV chC
  rw [cho_in h, decide_eq_true h2, Int.toNat_natCast, Int.toNat_natCast]
  exact ⟨rfl, rfl⟩
theorem cho_big {N K : Nat} (h : N ≤ 200) (h2 : 1000000000000000 < ch N K) : chV (N : Int) (K : Int) = 0 ∧ chC (N : Int) (K : Int) = 2 := by
  unfold chV chC
  rw [cho_in h, decide_eq_false (by omega)]
  exact ⟨rfl, rfl⟩

set_option maxHeartbeats 2000000 in
theorem implCho_bad (n k : Int) (w : World) (h : n < 0 ∨ k < 0 ∨ 200 < n) :
    Calls Try.prog 77 #[.int .i64 n, .int .i64 k] w (ChP n k w) := by
  have H := Lib.hid (cho_bad h)
  by_cases h1 : n < 0
  · clear h
    go_enter Try.func77, Try.ntmps77
    go_wp2
    go_ret2
    exact ⟨by rw [H.out.1, H.out.2]; rfl, Below.refl _ _⟩
  · by_cases h2 : k < 0
    · clear h
      go_enter Try.func77, Try.ntmps77
      go_wp2
      go_ret2
      exact ⟨by rw [H.out.1, H.out.2]; rfl, Below.refl _ _⟩
    · have h3 : 200 < n := by omega
      clear h
      go_enter Try.func77, Try.ntmps77
      go_wp2
      go_ret2
      exact ⟨by rw [H.out.1, H.out.2]; rfl, Below.refl _ _⟩
set_option maxHeartbeats 2000000 in
theorem implCho_far (N K : Nat) (w : World) (h : N ≤ 200) (h2 : N < K) :
    Calls Try.prog 77 #[.int .i64 N, .int .i64 K] w (ChP N K w) := by
  have hz := ch_big N K h2
  have H := Lib.hid (cho_yes (K := K) h (by omega))
  have HZ := Lib.hid hz
  have h1 : ¬ ((N : Int) < 0) := by omega
  have h3 : ¬ ((K : Int) < 0) := by omega
  have h4 : ¬ (200 < (N : Int)) := by omega
  have h5 : (N : Int) < (K : Int) := by omega
  clear h h2 hz
  go_enter Try.func77, Try.ntmps77
  go_wp2
  go_ret2
  exact ⟨by rw [H.out.1, H.out.2, HZ.out]; rfl, Below.refl _ _⟩
set_option maxHeartbeats 2000000 in
theorem implCho_in (N K : Nat) (w : World) (h : N ≤ 200) (h2 : K ≤ N) :
    Calls Try.prog 77 #[.int .i64 N, .int .i64 K] w (ChP N K w) := by
  obtain ⟨m, hm⟩ : ∃ m, m = min K (N - K) := ⟨_, rfl⟩
  have hm1 : 2 * m ≤ N := by omega
  have hm2 : ch N m = ch N K := by
    rcases Nat.le_total K (N - K) with e | e
    · rw [hm, Nat.min_eq_left e]
    · rw [hm, Nat.min_eq_right e, ch_flip h2]
  have HN := Lib.hid h
  have HM := Lib.hid hm2
  have HU := Lib.hid hm1
  have h1 : ¬ ((N : Int) < 0) := by omega
  have h3 : ¬ ((K : Int) < 0) := by omega
  have h4 : ¬ (200 < (N : Int)) := by omega
  have h5 : ¬ ((N : Int) < (K : Int)) := by omega
  clear hm2 hm1 h
  have HK := Lib.hid h2
  clear h2
  have Hm := Lib.hid hm
  have bm : m = K ∧ (K : Int) ≤ (N : Int) - K ∨ m = N - K ∧ ¬ ((K : Int) ≤ (N : Int) - K) := by have := HK.out; omega
  have HB := Lib.hid bm
  have hKN := HK.out
  clear hm
  rcases bm with ⟨-, b1⟩ | ⟨-, b1⟩
  all_goals
    go_enter Try.func77, Try.ntmps77
    go_wp2
    go_loopw [6, 26] (fun s0 i wr => ∃ j : Nat, j ≤ m ∧ i = .int .i64 j ∧ s0 = .int .i64 (ch N j : Int) ∧ ch N j ≤ 1000000000000000 ∧ wr = w) (fun _ i _ => m - (intOf i).toNat)
    case atStart => exact ⟨0, Nat.zero_le _, rfl, by rw [ch_zero]; rfl, by rw [ch_zero]; omega, rfl⟩
    case round =>
      obtain ⟨j, hj, rfl, rfl, hc, rfl⟩ := hrel
      have hN := HN.out
      by_cases hlt : j < m
      · have q1 : (j : Int) < (K : Int) := by have := HB.out; omega
        have q2 : (j : Int) < (N : Int) - (K : Int) := by have := HB.out; omega
        have hd := ch_div N j
        have hu : ch N j ≤ ch N (j + 1) := ch_up (by have := HU.out; omega)
        have hp : ch N j * (N - j) ≤ 1000000000000000 * 200 := Nat.mul_le_mul hc (by omega)
        have e1 : ((ch N j : Int)) * ((N : Int) - (j : Int)) = ((ch N j * (N - j) : Nat) : Int) := by
          rw [show (N : Int) - (j : Int) = ((N - j : Nat) : Int) by omega]
          exact (Int.natCast_mul _ _).symm
        have e2 : ((ch N j * (N - j) : Nat) : Int) / ((j : Int) + 1) = (ch N (j + 1) : Int) := by
          rw [← hd, Int.natCast_ediv]
          rfl
        have hw : ch N (j + 1) ≤ 200000000000000000 := by
          rw [← hd]
          exact Nat.le_trans (Nat.div_le_self _ _) hp
        have e3 : wrap64 ((ch N (j + 1) : Nat) : Int) = ((ch N (j + 1) : Nat) : Int) := by unfold wrap64; omega
        have HU2 := Lib.hid hu
        generalize ch N j * (N - j) = P at *
        clear hu hd
        by_cases hbig : 1000000000000000 < ch N (j + 1)
        · have q3 : (1000000000000000 : Int) < ((ch N (j + 1) : Nat) : Int) := by omega
          have HX := Lib.hid (show chV (N : Int) (K : Int) = 0 ∧ chC (N : Int) (K : Int) = 2 from cho_big HN.out (by
            rw [← HM.out]
            exact Nat.lt_of_lt_of_le hbig (ch_ups HU.out (by omega))))
          clear hbig
          go_wp2
          all_goals
            go_ret2
            exact ⟨by rw [HX.out.1, HX.out.2]; rfl, Below.refl _ _⟩
        · have q3 : ¬ ((1000000000000000 : Int) < ((ch N (j + 1) : Nat) : Int)) := by omega
          have q4 : ch N (j + 1) ≤ 1000000000000000 := by omega
          clear hbig
          go_wp2
          go_roundw
          case rel => exact ⟨j + 1, by omega, by go_num, rfl, q4, trivial⟩
          case measure => simp [intOf]; omega
      · obtain rfl : j = m := by omega
        have HX := Lib.hid (show chV (N : Int) (K : Int) = (ch N K : Int) ∧ chC (N : Int) (K : Int) = 0 from cho_yes HN.out (by rw [← HM.out]; exact hc))
        first
        | (have q1 : ¬ ((j : Int) < (N : Int) - (K : Int)) := by have := HB.out; omega
           go_wp2
           go_ret2
           exact ⟨by rw [HX.out.1, HX.out.2, ← HM.out]; rfl, Below.refl _ _⟩)
        | (have q1 : ¬ ((j : Int) < (K : Int)) := by have := HB.out; omega
           go_wp2
           go_ret2
           exact ⟨by rw [HX.out.1, HX.out.2, ← HM.out]; rfl, Below.refl _ _⟩)
theorem implCho_any (n k : Int) (w : World) : Calls Try.prog 77 #[.int .i64 n, .int .i64 k] w (ChP n k w) := by
  by_cases h : n < 0 ∨ k < 0 ∨ 200 < n
  · exact implCho_bad n k w h
  · obtain ⟨N, rfl⟩ : ∃ N : Nat, n = (N : Int) := ⟨n.toNat, by omega⟩
    obtain ⟨K, rfl⟩ : ∃ K : Nat, k = (K : Int) := ⟨k.toNat, by omega⟩
    rcases Nat.lt_or_ge N K with h2 | h2
    · exact implCho_far N K w (by omega) h2
    · exact implCho_in N K w (by omega) h2
end Go.Proofs.Ythbgfkklejnhiaa
