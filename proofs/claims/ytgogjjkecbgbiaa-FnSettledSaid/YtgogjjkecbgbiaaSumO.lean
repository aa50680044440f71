/- Sums of numbers that are not negative, as the program takes them. No conditions. -/
import Derived.Test.YtgogjjkecbgbiaaSeeds
namespace Go.Proofs.Ytgogjjkecbgbiaa
open Go.Joins Go.ChangeShapes Go.WideShapes Go.ChangeAt Go.RowKit Go.Deep
set_option linter.unusedVariables false

theorem posB_take {l : List Int} (h : posB l = true) (k : Nat) : posB (l.take k) = true := by
  unfold posB at h ⊢
  rw [List.all_eq_true] at h ⊢
  exact fun x hx => h x (List.mem_of_mem_take hx)
theorem tot_take_le {l : List Int} (h : posB l = true) (k : Nat) : 0 ≤ tot (l.take k) ∧ tot (l.take k) ≤ tot l := by
  have h1 := posB_tot (posB_take h k)
  have h2 := posB_tot (posB_drop h k)
  have h3 : tot (l.take k ++ l.drop k) = tot l := congrArg tot (List.take_append_drop _ _)
  rw [tot_app] at h3
  omega
set_option maxHeartbeats 1000000 in
theorem sumOf_any (a : Option Addr) (c n : Nat) (xs : List Int) (w : World) (hn : xs.length = n) (h : RowN w a xs) (hp : posB xs = true) (ht : tot xs ≤ 96) :
    Calls Try.prog 32 #[.slice a n c] w fun e w' => e = .returned (.int .i64 (tot xs)) ∧ w = w' := by
  have hl : n ≤ 1000000000000 := by rw [← hn]; exact h.1
  have Hn := Lib.hid hn
  have H := Lib.hid h
  have HP := Lib.hid hp
  have HT := Lib.hid ht
  clear hn h hp ht
  go_enter Try.func32, Try.ntmps32
  go_wp2
  go_loop [3, 8] (fun s i => ∃ (k : Nat) (t : Int), k ≤ n ∧ i = .int .i64 k ∧ s = .int .i64 t ∧ t = tot (xs.take k)) (fun _ i => n - (intOf i).toNat)
  case atStart => exact ⟨0, 0, Nat.zero_le _, rfl, rfl, rfl⟩
  case round =>
    obtain ⟨k, t, hk, rfl, rfl, ht⟩ := hrel
    have hb := tot_take_le HP.out k
    rw [← ht] at hb
    obtain ⟨b0, b1⟩ := hb
    have b2 := HT.out
    have b3 : t ≤ 96 := by omega
    have Ht := Lib.hid ht
    clear ht b1 b2
    by_cases hlt : k < n
    · obtain ⟨x, hx⟩ : ∃ x, xs[k]? = some x := ⟨xs[k]'(by rw [Hn.out]; exact hlt), List.getElem?_eq_getElem _⟩
      have hne : xs ≠ [] := by intro h; subst h; cases hx
      obtain ⟨g, o, rfl, l1, x1⟩ := H.out.2.resolve_left hne
      have y1 := x1 k x hx
      have x0 := posB_mem HP.out hx
      have x96 : x ≤ 96 := by
        have := posB_le HP.out x (List.mem_of_getElem? hx)
        have := HT.out
        omega
      have Hx := Lib.hid hx
      have q0 : (0 : Int) ≤ (k : Int) := by omega
      have q1 : (k : Int) < (n : Int) := by omega
      clear x1 hx hne
      go_wp2
      go_round
      case rel => exact ⟨k + 1, t + x, by omega, by go_num, by go_num, by rw [take_next Hx.out, tot_snoc, Ht.out]⟩
      case measure => simp [intOf]; omega
    · obtain rfl : k = n := by omega
      have e1 : xs.take k = xs := List.take_of_length_le (by rw [Hn.out]; exact Nat.le_refl _)
      have e2 : t = tot xs := by rw [Ht.out, e1]
      have E2 := Lib.hid e2
      clear e1 e2
      go_wp2
      go_ret
      exact ⟨by rw [E2.out]; rfl, rfl⟩
end Go.Proofs.Ytgogjjkecbgbiaa
