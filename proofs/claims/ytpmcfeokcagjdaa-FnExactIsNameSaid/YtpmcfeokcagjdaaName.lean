/- IsName of the reference and of the program return the same, and so the law on it holds. No conditions. -/
import Derived.Test.YtpmcfeokcagjdaaOpen
import Derived.Laws.RangeString
import Derived.Laws.RangeAny
namespace Go.Proofs.Ytpmcfeokcagjdaa
open Go.Joins Go.ChangeShapes Go.WideShapes Go.ChangeAt Go.RowKit Go.Deep
open Go.ChangeMaps (open_string shut_string)
set_option linter.unusedVariables false

def SmallC (c : Nat) : Prop := 97 ≤ c ∧ c ≤ 122
def DigitC (c : Nat) : Prop := 48 ≤ c ∧ c ≤ 57
def OkC (c : Nat) : Prop := SmallC c ∨ DigitC c ∨ c = 45
/-- s is a name. -/
def NameP (s : ByteArray) : Prop := 1 ≤ s.size ∧ s.size ≤ 12 ∧ (∀ h : 0 < s.size, SmallC (s[0]'h).toNat) ∧ ∀ i, (h : i < s.size) → OkC (s[i]'h).toNat

theorem small_any (c : Int) (w : World) (b : Bool) (h : (decide (97 ≤ c) && decide (c ≤ 122)) = b) :
    Calls Try.prog 45 #[.int .u8 c] w fun e w' => e = .returned (.bool b) ∧ w = w' := by
  subst h
  go_enter Try.func45, Try.ntmps45
  go_wp2
  all_goals
    go_ret
    exact ⟨by simp [*]; try omega, rfl⟩
theorem digit_any (c : Int) (w : World) (b : Bool) (h : (decide (48 ≤ c) && decide (c ≤ 57)) = b) :
    Calls Try.prog 46 #[.int .u8 c] w fun e w' => e = .returned (.bool b) ∧ w = w' := by
  subst h
  go_enter Try.func46, Try.ntmps46
  go_wp2
  all_goals
    go_ret
    exact ⟨by simp [*]; try omega, rfl⟩
theorem letter_any (c : Int) (w : World) (b : Bool) (h : (decide (97 ≤ c) && decide (c ≤ 122)) = b) :
    Calls Try.prog 48 #[.int .i32 c] w fun e w' => e = .returned (.bool b) ∧ w = w' := by
  subst h
  go_enter Try.func48, Try.ntmps48
  go_wp2
  all_goals
    go_ret
    exact ⟨by simp [*]; try omega, rfl⟩
theorem rune_any (c : Int) (w : World) (b : Bool) (h : ((decide (97 ≤ c) && decide (c ≤ 122)) || (decide (48 ≤ c) && decide (c ≤ 57)) || (c == 45)) = b) :
    Calls Try.prog 47 #[.int .i32 c] w fun e w' => e = .returned (.bool b) ∧ w = w' := by
  have Hb := Lib.hid h
  clear h
  by_cases h1 : 97 ≤ c ∧ c ≤ 122
  · go_enter Try.func47, Try.ntmps47
    go_wp2_with (go_at_call 48; refine (letter_any _ _ true (by simp; omega)).mono ?_; rintro e w' ⟨rfl, rfl⟩)
    go_ret
    exact ⟨by rw [← Hb.out]; simp [h1], rfl⟩
  · by_cases h2 : 48 ≤ c
    · by_cases h3 : c ≤ 57
      · go_enter Try.func47, Try.ntmps47
        go_wp2_with (go_at_call 48; refine (letter_any _ _ false (by simp; omega)).mono ?_; rintro e w' ⟨rfl, rfl⟩)
        go_ret
        exact ⟨by rw [← Hb.out]; simp [h2, h3], rfl⟩
      · have h4 : (c == 45) = false := by simp; omega
        go_enter Try.func47, Try.ntmps47
        go_wp2_with (go_at_call 48; refine (letter_any _ _ false (by simp; omega)).mono ?_; rintro e w' ⟨rfl, rfl⟩)
        go_ret
        have e1 : (decide (97 ≤ c) && decide (c ≤ 122)) = false := by simp; omega
        have e2 : (decide (48 ≤ c) && decide (c ≤ 57)) = false := by simp; omega
        have d3 : decide (c ≤ 57) = false := by simp; omega
        exact ⟨by rw [← Hb.out, e1, e2, h4]; show Ending.returned (.bool (decide (c ≤ 57))) = _; rw [d3]; rfl, rfl⟩
    · by_cases h5 : c = 45
      · subst h5
        go_enter Try.func47, Try.ntmps47
        go_wp2_with (go_at_call 48; refine (letter_any _ _ false (by decide)).mono ?_; rintro e w' ⟨rfl, rfl⟩)
        go_ret
        exact ⟨by rw [← Hb.out]; rfl, rfl⟩
      · have h4 : (c == 45) = false := by simp [h5]
        go_enter Try.func47, Try.ntmps47
        go_wp2_with (go_at_call 48; refine (letter_any _ _ false (by simp; omega)).mono ?_; rintro e w' ⟨rfl, rfl⟩)
        go_ret
        exact ⟨by rw [← Hb.out]; simp; omega, rfl⟩

/-- The first k bytes are those of a name. -/
def Good (s : ByteArray) (k : Nat) : Prop := ∀ i, (h : i < s.size) → i < k → OkC (s[i]'h).toNat
theorem good_0 (s : ByteArray) : Good s 0 := fun _ _ h => absurd h (by omega)
theorem good_succ {s : ByteArray} {k : Nat} (h : k < s.size) (hg : Good s k) (hc : OkC (s[k]'h).toNat) : Good s (k + 1) := by
  intro i hi hk
  by_cases e : i = k
  · subst e; exact hc
  · exact hg i hi (by omega)

/-- If a byte was read, the first one is a small letter. -/
def First (s : ByteArray) (pos : Nat) : Prop := 0 < pos → ∀ h : 0 < s.size, SmallC (s[0]'h).toNat

set_option maxHeartbeats 4000000 in
theorem spec_isname (s : ByteArray) (hs : s.size ≤ maxLen) (b : Bool) (hb : b = true ↔ NameP s) (w : World) :
    Calls Try.prog 20 #[.string s] w fun e w' => e = .returned (.bool b) ∧ Below w.heap.size w w' := by
  unfold maxLen at hs
  have Hb := Lib.hid hb
  clear hb
  by_cases h0 : s.size = 0
  · obtain rfl : s = ⟨#[]⟩ := by
      obtain ⟨d⟩ := s
      simp [ByteArray.size] at h0
      simp [h0]
    have hbf : b = false := by
      have := Hb.out
      rw [Bool.eq_false_iff, Ne, this]
      intro h
      exact absurd h.1 (by decide)
    subst hbf
    go_enter Try.func20, Try.ntmps20
    go_wp2
    go_ret
    exact ⟨rfl, Below.refl _ _⟩
  · have hne : s.toList.isEmpty = false := by
      rw [List.isEmpty_eq_false_iff]
      intro h
      apply h0
      have := congrArg List.length h
      simpa [ByteArray.toList_eq] using this
    by_cases h12 : 12 < s.size
    · have hbf : b = false := by
        have := Hb.out
        rw [Bool.eq_false_iff, Ne, this]
        intro h
        exact absurd h.2.1 (by omega)
      subst hbf
      have g12 : (12 : Int) < (s.size : Int) := by omega
      go_enter Try.func20, Try.ntmps20
      go_wp2
      go_ret
      exact ⟨rfl, Below.refl _ _⟩
    · have hp : 0 < s.size := by omega
      by_cases hS : SmallC (s[0]'hp).toNat
      · have hS1 : (decide ((97 : Int) ≤ ((s[0]'hp).toNat : Int)) && decide (((s[0]'hp).toNat : Int) ≤ 122)) = true := by unfold SmallC at hS; simp; omega
        have HS1 := Lib.hid hS1
        have HS := Lib.hid hS
        clear hS1 hS
        go_enter Try.func20, Try.ntmps20
        go_wp2_with (go_at_call 45; refine (small_any _ _ true HS1.out).mono ?_; rintro e w' ⟨rfl, rfl⟩)
        go_loop [3] (fun i => ∃ k : Nat, k ≤ s.size ∧ i = .int .i64 k ∧ Good s k) (fun i => s.size - (intOf i).toNat)
        case atStart => exact ⟨0, Nat.zero_le _, rfl, good_0 s⟩
        case round =>
          obtain ⟨k, hk, rfl, hg⟩ := hrel
          have HG := Lib.hid hg
          clear hg
          by_cases hlt : k < s.size
          · obtain ⟨c, hc⟩ : ∃ c : Nat, (s[k]'hlt).toNat = c := ⟨_, rfl⟩
            have hc8 : c < 256 := by rw [← hc]; exact UInt8.toNat_lt _
            have HC := Lib.hid hc
            by_cases h1 : SmallC c
            · have e1 : (decide ((97 : Int) ≤ ((s[k]'hlt).toNat : Int)) && decide (((s[k]'hlt).toNat : Int) ≤ 122)) = true := by rw [hc]; unfold SmallC at h1; simp; omega
              have E1 := Lib.hid e1
              have H1 := Lib.hid h1
              clear e1 h1 hc
              go_wp2_with (go_at_call 45; refine (small_any _ _ true E1.out).mono ?_; rintro e w' ⟨rfl, rfl⟩)
              go_round
              case rel => exact ⟨k + 1, by omega, by go_num, good_succ hlt HG.out (by rw [HC.out]; exact .inl H1.out)⟩
              case measure => simp [intOf]; omega
            · have e1 : (decide ((97 : Int) ≤ ((s[k]'hlt).toNat : Int)) && decide (((s[k]'hlt).toNat : Int) ≤ 122)) = false := by rw [hc]; unfold SmallC at h1; simp; omega
              have E1 := Lib.hid e1
              have H1 := Lib.hid h1
              by_cases h2 : DigitC c
              · have e2 : (decide ((48 : Int) ≤ ((s[k]'hlt).toNat : Int)) && decide (((s[k]'hlt).toNat : Int) ≤ 57)) = true := by rw [hc]; unfold DigitC at h2; simp; omega
                have E2 := Lib.hid e2
                have H2 := Lib.hid h2
                clear e1 e2 h1 h2 hc
                go_wp2_with (first | (go_at_call 45; refine (small_any _ _ false E1.out).mono ?_; rintro e w' ⟨rfl, rfl⟩) | (go_at_call 46; refine (digit_any _ _ true E2.out).mono ?_; rintro e w' ⟨rfl, rfl⟩))
                go_round
                case rel => exact ⟨k + 1, by omega, by go_num, good_succ hlt HG.out (by rw [HC.out]; exact .inr (.inl H2.out))⟩
                case measure => simp [intOf]; omega
              · have e2 : (decide ((48 : Int) ≤ ((s[k]'hlt).toNat : Int)) && decide (((s[k]'hlt).toNat : Int) ≤ 57)) = false := by rw [hc]; unfold DigitC at h2; simp; omega
                have E2 := Lib.hid e2
                have H2 := Lib.hid h2
                by_cases h3 : c = 45
                · have e3 : (((s[k]'hlt).toNat : Int) != 45) = false := by rw [hc, h3]; rfl
                  have H3 := Lib.hid h3
                  clear e1 e2 h1 h2 hc h3
                  go_wp2_with (first | (go_at_call 45; refine (small_any _ _ false E1.out).mono ?_; rintro e w' ⟨rfl, rfl⟩) | (go_at_call 46; refine (digit_any _ _ false E2.out).mono ?_; rintro e w' ⟨rfl, rfl⟩))
                  go_round
                  case rel => exact ⟨k + 1, by omega, by go_num, good_succ hlt HG.out (by rw [HC.out]; exact .inr (.inr H3.out))⟩
                  case measure => simp [intOf]; omega
                · have e3 : (((s[k]'hlt).toNat : Int) != 45) = true := by rw [hc]; simp; omega
                  have H3 := Lib.hid h3
                  clear e1 e2 h1 h2 hc h3
                  go_wp2_with (first | (go_at_call 45; refine (small_any _ _ false E1.out).mono ?_; rintro e w' ⟨rfl, rfl⟩) | (go_at_call 46; refine (digit_any _ _ false E2.out).mono ?_; rintro e w' ⟨rfl, rfl⟩))
                  go_ret
                  have hbf : b = false := by
                    have := Hb.out
                    rw [Bool.eq_false_iff, Ne, this]
                    intro h
                    have h4 := h.2.2.2 k hlt
                    rw [HC.out] at h4
                    rcases h4 with h4 | h4 | h4
                    · exact H1.out h4
                    · exact H2.out h4
                    · exact H3.out h4
                  subst hbf
                  exact ⟨rfl, Below.refl _ _⟩
          · go_wp2
            go_ret
            obtain rfl : b = true := Hb.out.2 ⟨by omega, by omega, fun _ => HS.out, fun i hi => HG.out i hi (by omega)⟩
            exact ⟨rfl, Below.refl _ _⟩
      · have hS1 : (decide ((97 : Int) ≤ ((s[0]'hp).toNat : Int)) && decide (((s[0]'hp).toNat : Int) ≤ 122)) = false := by unfold SmallC at hS; simp; omega
        have HS1 := Lib.hid hS1
        have hbf : b = false := by
          have := Hb.out
          rw [Bool.eq_false_iff, Ne, this]
          intro h
          exact absurd (h.2.2.1 hp) hS
        subst hbf
        clear hS1 hS
        go_enter Try.func20, Try.ntmps20
        go_wp2_with (go_at_call 45; refine (small_any _ _ false HS1.out).mono ?_; rintro e w' ⟨rfl, rfl⟩)
        go_ret
        exact ⟨rfl, Below.refl _ _⟩

set_option maxHeartbeats 4000000 in
set_option maxRecDepth 1000000 in
theorem impl_isname (s : ByteArray) (hs : s.size ≤ maxLen) (b : Bool) (hb : b = true ↔ NameP s) (w : World) :
    Calls Try.prog 21 #[.string s] w fun e w' => e = .returned (.bool b) ∧ Below w.heap.size w w' := by
  unfold maxLen at hs
  have Hb := Lib.hid hb
  have no : ¬ NameP s → b = false := fun h => by
    have := Hb.out
    rw [Bool.eq_false_iff, Ne, this]
    exact h
  have No := Lib.hid no
  clear hb no
  by_cases h0 : s.size = 0
  · have hbf : b = false := No.out (fun h => absurd h.1 (by omega))
    subst hbf
    have g0 : (s.size : Int) < 1 := by omega
    clear h0
    go_enter Try.func21, Try.ntmps21
    go_wp2
    go_ret
    exact ⟨rfl, Below.refl _ _⟩
  · by_cases h12 : 12 < s.size
    · have hbf : b = false := No.out (fun h => absurd h.2.1 (by omega))
      subst hbf
      have g0 : ¬ (s.size : Int) < 1 := by omega
      have g12 : (12 : Int) < (s.size : Int) := by omega
      go_enter Try.func21, Try.ntmps21
      go_wp2
      go_ret
      exact ⟨rfl, Below.refl _ _⟩
    · have hp : 0 < s.size := by omega
      have g0 : ¬ (s.size : Int) < 1 := by omega
      have g12 : ¬ (12 : Int) < (s.size : Int) := by omega
      go_enter Try.func21, Try.ntmps21
      go_wp2
      go_loopw [3, 4] (fun _ _ w' => ∃ pos : Nat, w' = w.iter s pos ∧ Good s pos ∧ First s pos) (fun _ _ w' => s.size - w'.iterPos w.heap.size)
      case atStart => exact ⟨0, rfl, good_0 s, fun h => absurd h (by omega)⟩
      case round =>
        obtain ⟨pos, rfl, hg, hf⟩ := hrel
        have HG := Lib.hid hg
        have HF := Lib.hid hf
        clear hg hf
        by_cases hlt : pos < s.size
        · rcases Nat.eq_zero_or_pos pos with rfl | hpos
          · by_cases hasc : (s[0]'hlt).toNat < 128
            · obtain ⟨c, hc⟩ : ∃ c : Nat, (s[0]'hlt).toNat = c := ⟨_, rfl⟩
              have hd := decode_ascii s 0 hlt hasc
              rw [hc] at hd hasc
              have HC := Lib.hid hc
              clear hc
              have hnx : ∀ ty, (Instr.next (.pointer (some ⟨w.heap.size, 0, none⟩)) true ty).run Try.prog (w.iter s 0) = .ok (.tuple #[.bool true, .int .i64 0, .int .i32 (c : Int)]) (w.iter s (0 + 1)) := fun ty => by
                have h := run_next_any (P := Try.prog) w s 0 ty hlt
                rw [hd] at h
                exact h
              clear hd
              by_cases h1 : SmallC c
              · have e1 : (decide ((97 : Int) ≤ (c : Int)) && decide ((c : Int) ≤ 122)) = true := by unfold SmallC at h1; simp; omega
                have e2 : ((decide ((97 : Int) ≤ (c : Int)) && decide ((c : Int) ≤ 122)) || (decide ((48 : Int) ≤ (c : Int)) && decide ((c : Int) ≤ 57)) || ((c : Int) == 45)) = true := by rw [e1]; rfl
                have E1 := Lib.hid e1
                have E2 := Lib.hid e2
                have H1 := Lib.hid h1
                clear e1 e2 h1
                go_wp2_with (first | (go_at_call 47; refine (rune_any _ _ true E2.out).mono ?_; rintro e w' ⟨rfl, rfl⟩) | (go_at_call 48; refine (letter_any _ _ true E1.out).mono ?_; rintro e w' ⟨rfl, rfl⟩))
                go_roundw
                case rel => exact ⟨0 + 1, rfl, good_succ hlt HG.out (by rw [HC.out]; exact .inl H1.out), fun _ _ => by rw [HC.out]; exact H1.out⟩
                case measure => simp; omega
              · by_cases h2 : DigitC c
                · have e1 : (decide ((97 : Int) ≤ (c : Int)) && decide ((c : Int) ≤ 122)) = false := by unfold SmallC at h1; simp; omega
                  have e3 : (decide ((48 : Int) ≤ (c : Int)) && decide ((c : Int) ≤ 57)) = true := by unfold DigitC at h2; simp; omega
                  have e2 : ((decide ((97 : Int) ≤ (c : Int)) && decide ((c : Int) ≤ 122)) || (decide ((48 : Int) ≤ (c : Int)) && decide ((c : Int) ≤ 57)) || ((c : Int) == 45)) = true := by rw [e1, e3]; rfl
                  have E1 := Lib.hid e1
                  have E2 := Lib.hid e2
                  have E3 := Lib.hid e3
                  have H1 := Lib.hid h1
                  have H2 := Lib.hid h2
                  clear e1 e2 e3 h1 h2
                  go_wp2_with (first | (go_at_call 47; refine (rune_any _ _ true E2.out).mono ?_; rintro e w' ⟨rfl, rfl⟩) | (go_at_call 48; refine (letter_any _ _ false E1.out).mono ?_; rintro e w' ⟨rfl, rfl⟩))
                  go_ret
                  have hbf : b = false := No.out (fun h => by have h4 := h.2.2.1 hlt; rw [HC.out] at h4; exact H1.out h4)
                  subst hbf
                  exact ⟨rfl, (Below.refl _ _).alloc (Nat.le_refl _) _⟩
                · by_cases h3 : c = 45
                  · have e1 : (decide ((97 : Int) ≤ (c : Int)) && decide ((c : Int) ≤ 122)) = false := by unfold SmallC at h1; simp; omega
                    have e3 : (decide ((48 : Int) ≤ (c : Int)) && decide ((c : Int) ≤ 57)) = false := by unfold DigitC at h2; simp; omega
                    have e2 : ((decide ((97 : Int) ≤ (c : Int)) && decide ((c : Int) ≤ 122)) || (decide ((48 : Int) ≤ (c : Int)) && decide ((c : Int) ≤ 57)) || ((c : Int) == 45)) = true := by rw [e1, e3, h3]; rfl
                    have E1 := Lib.hid e1
                    have E2 := Lib.hid e2
                    have E3 := Lib.hid e3
                    have H1 := Lib.hid h1
                    have H2 := Lib.hid h2
                    have H3 := Lib.hid h3
                    clear e1 e2 e3 h1 h2 h3
                    go_wp2_with (first | (go_at_call 47; refine (rune_any _ _ true E2.out).mono ?_; rintro e w' ⟨rfl, rfl⟩) | (go_at_call 48; refine (letter_any _ _ false E1.out).mono ?_; rintro e w' ⟨rfl, rfl⟩))
                    go_ret
                    have hbf : b = false := No.out (fun h => by have h4 := h.2.2.1 hlt; rw [HC.out] at h4; exact H1.out h4)
                    subst hbf
                    exact ⟨rfl, (Below.refl _ _).alloc (Nat.le_refl _) _⟩
                  · have e1 : (decide ((97 : Int) ≤ (c : Int)) && decide ((c : Int) ≤ 122)) = false := by unfold SmallC at h1; simp; omega
                    have e3 : (decide ((48 : Int) ≤ (c : Int)) && decide ((c : Int) ≤ 57)) = false := by unfold DigitC at h2; simp; omega
                    have e4 : ((c : Int) == 45) = false := by simp; omega
                    have e2 : ((decide ((97 : Int) ≤ (c : Int)) && decide ((c : Int) ≤ 122)) || (decide ((48 : Int) ≤ (c : Int)) && decide ((c : Int) ≤ 57)) || ((c : Int) == 45)) = false := by rw [e1, e3, e4]; rfl
                    have E1 := Lib.hid e1
                    have E2 := Lib.hid e2
                    have E3 := Lib.hid e3
                    have E4 := Lib.hid e4
                    have H1 := Lib.hid h1
                    have H2 := Lib.hid h2
                    have H3 := Lib.hid h3
                    clear e1 e2 e3 e4 h1 h2 h3
                    go_wp2_with (first | (go_at_call 47; refine (rune_any _ _ false E2.out).mono ?_; rintro e w' ⟨rfl, rfl⟩) | (go_at_call 48; refine (letter_any _ _ false E1.out).mono ?_; rintro e w' ⟨rfl, rfl⟩))
                    go_ret
                    have hbf : b = false := No.out (fun h => by have h4 := h.2.2.2 0 hlt; rw [HC.out] at h4; exact h4.elim H1.out (fun h5 => h5.elim H2.out H3.out))
                    subst hbf
                    exact ⟨rfl, (Below.refl _ _).alloc (Nat.le_refl _) _⟩
            · obtain ⟨q1, q2⟩ := decode_high s 0 hlt (by omega)
              obtain ⟨r, hr⟩ : ∃ r : Nat, (Utf8.decode s 0).1 = r := ⟨_, rfl⟩
              obtain ⟨m, hm⟩ : ∃ m : Nat, (Utf8.decode s 0).2 = m := ⟨_, rfl⟩
              have hnx : ∀ ty, (Instr.next (.pointer (some ⟨w.heap.size, 0, none⟩)) true ty).run Try.prog (w.iter s 0) = .ok (.tuple #[.bool true, .int .i64 0, .int .i32 (r : Int)]) (w.iter s (0 + m)) := fun ty => by
                have h := run_next_any (P := Try.prog) w s 0 ty hlt
                rw [hr, hm] at h
                exact h
              rw [hr] at q1
              have e1 : ((decide ((97 : Int) ≤ (r : Int)) && decide ((r : Int) ≤ 122)) || (decide ((48 : Int) ≤ (r : Int)) && decide ((r : Int) ≤ 57)) || ((r : Int) == 45)) = false := by
                have a1 : (decide ((97 : Int) ≤ (r : Int)) && decide ((r : Int) ≤ 122)) = false := by simp; omega
                have a2 : (decide ((48 : Int) ≤ (r : Int)) && decide ((r : Int) ≤ 57)) = false := by simp; omega
                have a3 : ((r : Int) == 45) = false := by simp; omega
                rw [a1, a2, a3]; rfl
              have E1 := Lib.hid e1
              have HA := Lib.hid hasc
              clear e1 hr hm q1 q2 hasc
              go_wp2_with (go_at_call 47; refine (rune_any _ _ false E1.out).mono ?_; rintro e w' ⟨rfl, rfl⟩)
              go_ret
              have hbf : b = false := No.out (fun h => by
                have h4 := h.2.2.2 0 hlt
                have h5 := HA.out
                unfold OkC SmallC DigitC at h4
                omega)
              subst hbf
              exact ⟨rfl, (Below.refl _ _).alloc (Nat.le_refl _) _⟩
          · by_cases hasc : (s[pos]'hlt).toNat < 128
            · obtain ⟨c, hc⟩ : ∃ c : Nat, (s[pos]'hlt).toNat = c := ⟨_, rfl⟩
              have hd := decode_ascii s pos hlt hasc
              rw [hc] at hd hasc
              have HC := Lib.hid hc
              clear hc
              have hnx : ∀ ty, (Instr.next (.pointer (some ⟨w.heap.size, 0, none⟩)) true ty).run Try.prog (w.iter s pos) = .ok (.tuple #[.bool true, .int .i64 (pos : Int), .int .i32 (c : Int)]) (w.iter s (pos + 1)) := fun ty => by
                have h := run_next_any (P := Try.prog) w s pos ty hlt
                rw [hd] at h
                exact h
              clear hd
              by_cases h1 : SmallC c
              · have e1 : (decide ((97 : Int) ≤ (c : Int)) && decide ((c : Int) ≤ 122)) = true := by unfold SmallC at h1; simp; omega
                have e2 : ((decide ((97 : Int) ≤ (c : Int)) && decide ((c : Int) ≤ 122)) || (decide ((48 : Int) ≤ (c : Int)) && decide ((c : Int) ≤ 57)) || ((c : Int) == 45)) = true := by rw [e1]; rfl
                have E1 := Lib.hid e1
                have E2 := Lib.hid e2
                have H1 := Lib.hid h1
                clear e1 e2 h1
                go_wp2_with (first | (go_at_call 47; refine (rune_any _ _ true E2.out).mono ?_; rintro e w' ⟨rfl, rfl⟩) | (go_at_call 48; refine (letter_any _ _ true E1.out).mono ?_; rintro e w' ⟨rfl, rfl⟩))
                go_roundw
                case rel => exact ⟨pos + 1, rfl, good_succ hlt HG.out (by rw [HC.out]; exact .inl H1.out), fun _ h => HF.out (by omega) h⟩
                case measure => simp; omega
              · by_cases h2 : DigitC c
                · have e1 : (decide ((97 : Int) ≤ (c : Int)) && decide ((c : Int) ≤ 122)) = false := by unfold SmallC at h1; simp; omega
                  have e3 : (decide ((48 : Int) ≤ (c : Int)) && decide ((c : Int) ≤ 57)) = true := by unfold DigitC at h2; simp; omega
                  have e2 : ((decide ((97 : Int) ≤ (c : Int)) && decide ((c : Int) ≤ 122)) || (decide ((48 : Int) ≤ (c : Int)) && decide ((c : Int) ≤ 57)) || ((c : Int) == 45)) = true := by rw [e1, e3]; rfl
                  have E1 := Lib.hid e1
                  have E2 := Lib.hid e2
                  have E3 := Lib.hid e3
                  have H1 := Lib.hid h1
                  have H2 := Lib.hid h2
                  clear e1 e2 e3 h1 h2
                  go_wp2_with (first | (go_at_call 47; refine (rune_any _ _ true E2.out).mono ?_; rintro e w' ⟨rfl, rfl⟩) | (go_at_call 48; refine (letter_any _ _ false E1.out).mono ?_; rintro e w' ⟨rfl, rfl⟩))
                  go_roundw
                  case rel => exact ⟨pos + 1, rfl, good_succ hlt HG.out (by rw [HC.out]; exact .inr (.inl H2.out)), fun _ h => HF.out (by omega) h⟩
                  case measure => simp; omega
                · by_cases h3 : c = 45
                  · have e1 : (decide ((97 : Int) ≤ (c : Int)) && decide ((c : Int) ≤ 122)) = false := by unfold SmallC at h1; simp; omega
                    have e3 : (decide ((48 : Int) ≤ (c : Int)) && decide ((c : Int) ≤ 57)) = false := by unfold DigitC at h2; simp; omega
                    have e2 : ((decide ((97 : Int) ≤ (c : Int)) && decide ((c : Int) ≤ 122)) || (decide ((48 : Int) ≤ (c : Int)) && decide ((c : Int) ≤ 57)) || ((c : Int) == 45)) = true := by rw [e1, e3, h3]; rfl
                    have E1 := Lib.hid e1
                    have E2 := Lib.hid e2
                    have E3 := Lib.hid e3
                    have H1 := Lib.hid h1
                    have H2 := Lib.hid h2
                    have H3 := Lib.hid h3
                    clear e1 e2 e3 h1 h2 h3
                    go_wp2_with (first | (go_at_call 47; refine (rune_any _ _ true E2.out).mono ?_; rintro e w' ⟨rfl, rfl⟩) | (go_at_call 48; refine (letter_any _ _ false E1.out).mono ?_; rintro e w' ⟨rfl, rfl⟩))
                    go_roundw
                    case rel => exact ⟨pos + 1, rfl, good_succ hlt HG.out (by rw [HC.out]; exact .inr (.inr H3.out)), fun _ h => HF.out (by omega) h⟩
                    case measure => simp; omega
                  · have e1 : (decide ((97 : Int) ≤ (c : Int)) && decide ((c : Int) ≤ 122)) = false := by unfold SmallC at h1; simp; omega
                    have e3 : (decide ((48 : Int) ≤ (c : Int)) && decide ((c : Int) ≤ 57)) = false := by unfold DigitC at h2; simp; omega
                    have e4 : ((c : Int) == 45) = false := by simp; omega
                    have e2 : ((decide ((97 : Int) ≤ (c : Int)) && decide ((c : Int) ≤ 122)) || (decide ((48 : Int) ≤ (c : Int)) && decide ((c : Int) ≤ 57)) || ((c : Int) == 45)) = false := by rw [e1, e3, e4]; rfl
                    have E1 := Lib.hid e1
                    have E2 := Lib.hid e2
                    have E3 := Lib.hid e3
                    have E4 := Lib.hid e4
                    have H1 := Lib.hid h1
                    have H2 := Lib.hid h2
                    have H3 := Lib.hid h3
                    clear e1 e2 e3 e4 h1 h2 h3
                    go_wp2_with (first | (go_at_call 47; refine (rune_any _ _ false E2.out).mono ?_; rintro e w' ⟨rfl, rfl⟩) | (go_at_call 48; refine (letter_any _ _ false E1.out).mono ?_; rintro e w' ⟨rfl, rfl⟩))
                    go_ret
                    have hbf : b = false := No.out (fun h => by have h4 := h.2.2.2 pos hlt; rw [HC.out] at h4; exact h4.elim H1.out (fun h5 => h5.elim H2.out H3.out))
                    subst hbf
                    exact ⟨rfl, (Below.refl _ _).alloc (Nat.le_refl _) _⟩
            · obtain ⟨q1, q2⟩ := decode_high s pos hlt (by omega)
              obtain ⟨r, hr⟩ : ∃ r : Nat, (Utf8.decode s pos).1 = r := ⟨_, rfl⟩
              obtain ⟨m, hm⟩ : ∃ m : Nat, (Utf8.decode s pos).2 = m := ⟨_, rfl⟩
              have hnx : ∀ ty, (Instr.next (.pointer (some ⟨w.heap.size, 0, none⟩)) true ty).run Try.prog (w.iter s pos) = .ok (.tuple #[.bool true, .int .i64 (pos : Int), .int .i32 (r : Int)]) (w.iter s (pos + m)) := fun ty => by
                have h := run_next_any (P := Try.prog) w s pos ty hlt
                rw [hr, hm] at h
                exact h
              rw [hr] at q1
              have e1 : ((decide ((97 : Int) ≤ (r : Int)) && decide ((r : Int) ≤ 122)) || (decide ((48 : Int) ≤ (r : Int)) && decide ((r : Int) ≤ 57)) || ((r : Int) == 45)) = false := by
                have a1 : (decide ((97 : Int) ≤ (r : Int)) && decide ((r : Int) ≤ 122)) = false := by simp; omega
                have a2 : (decide ((48 : Int) ≤ (r : Int)) && decide ((r : Int) ≤ 57)) = false := by simp; omega
                have a3 : ((r : Int) == 45) = false := by simp; omega
                rw [a1, a2, a3]; rfl
              have E1 := Lib.hid e1
              have HA := Lib.hid hasc
              clear e1 hr hm q1 q2 hasc
              go_wp2_with (go_at_call 47; refine (rune_any _ _ false E1.out).mono ?_; rintro e w' ⟨rfl, rfl⟩)
              go_ret
              have hbf : b = false := No.out (fun h => by
                have h4 := h.2.2.2 pos hlt
                have h5 := HA.out
                unfold OkC SmallC DigitC at h4
                omega)
              subst hbf
              exact ⟨rfl, (Below.refl _ _).alloc (Nat.le_refl _) _⟩
        · have hnx : ∀ ty, (Instr.next (.pointer (some ⟨w.heap.size, 0, none⟩)) true ty).run Try.prog (w.iter s pos) = _ := fun ty => run_next_end w s pos ty hlt
          go_wp2
          go_ret
          obtain rfl : b = true := Hb.out.2 ⟨by omega, by omega, fun h => HF.out (by omega) h, fun i hi => HG.out i hi (by omega)⟩
          exact ⟨rfl, (Below.refl _ _).alloc (Nat.le_refl _) _⟩

theorem walk_FnExactIsName (s : ByteArray) (hs : s.size ≤ maxLen) (w : World) :
    Calls Try.prog 4 #[.string s] w fun e w' => e = .returned (.bool true) ∧ Below w.heap.size w w' := by
  have Hs := Lib.hid hs
  unfold maxLen at hs
  obtain ⟨b, hb⟩ : ∃ b : Bool, (b = true ↔ NameP s) := by
    by_cases h : NameP s
    · exact ⟨true, by simp [h]⟩
    · exact ⟨false, by simp [h]⟩
  have Hb := Lib.hid hb
  clear hb
  by_cases hl : 1048576 < s.size
  · go_enter Try.func4, Try.ntmps4
    go_wp2
    go_ret
    exact ⟨rfl, Below.refl _ _⟩
  · go_enter Try.func4, Try.ntmps4
    go_wp2_with (first | (go_at_call 20; refine (spec_isname _ Hs.out b Hb.out _).mono ?_; rintro e w1 ⟨rfl, hb1⟩; obtain ⟨hc1, hf1⟩ := bcell hb1; have hs1 := hb1.size; (try simp at hs1); (try have hz1 : w.heap.size < w1.heap.size := by omega); (try have hy1 : w.heap.size + 1 < w1.heap.size := by omega); (try have hx1 := fun o => hc1 w.heap.size o (by first | omega | (simp; done) | (simp; omega))); (try have hv1 := fun o => hc1 (w.heap.size + 1) o (by first | omega | (simp; done) | (simp; omega)))) | (go_at_call 21; refine (impl_isname _ Hs.out b Hb.out _).mono ?_; rintro e w2 ⟨rfl, hb2⟩; obtain ⟨hc2, hf2⟩ := bcell hb2; have hs2 := hb2.size; (try simp at hs2); (try have hz2 : w.heap.size < w2.heap.size := by omega); (try have hy2 : w.heap.size + 1 < w2.heap.size := by omega); (try have hx2 := fun o => hc2 w.heap.size o (by first | omega | (simp; done) | (simp; omega))); (try have hv2 := fun o => hc2 (w.heap.size + 1) o (by first | omega | (simp; done) | (simp; omega))); (try have hq21 : w1.heap.size < w2.heap.size := by omega)))
    go_ret
    exact ⟨rfl, (by repeat (first | exact Below.refl _ _ | assumption | (refine Below.drew ?_) | (refine Below.setCell ?_ (by first | omega | (simp; done) | (simp; omega)) _) | (refine Below.alloc ?_ (by first | omega | (simp; done) | (simp; omega)) _) | (refine Below.trans ?_ (Below.mono (by assumption) (by first | omega | (simp; done) | (simp; omega))))))⟩
namespace fnExactIsName
set_option maxRecDepth 100000 in
theorem lifted (os : Os) (started : os.Started) (H : Type) (enc : TypeId × Value → H) :
    ReturnsInHanded {} Try.checked os 4 .any (Rows.fnExactIsNameSpec.pre6 enc Try.prog Try.f4 Rows.fnExactIsNameRow.domain false) (Rows.fnExactIsNameSpec.post enc Try.prog Try.f4 false true false false) := by
  refine returnsInHanded_of_change (C := Try.checked) own started (by kernel_rfl) Try.func4
    (ChangeSpec.witness6 (enc := enc) (C := Try.checked) false ⟨#[], #[.string ByteArray.empty], []⟩ 8 (by kernel_rfl) (by kernel_rfl) (by kernel_rfl) (by kernel_rfl)) ?_
  intro W base args ds gs before hval0 hW hcnd _
  have hval : ∀ (j : Nat) t v, Try.f4.params[j]? = some t → args[j]? = some v → Value.okWide Try.prog W .any base t v := hval0
  have hW' := hW
  obtain ⟨p, q, hA0, hV, rfl, hfz, hnd⟩ := hW
  have hA : DataW.TrodAll enc Try.prog W 0 (fun _ => true) true Try.f4.params.toList args.toList ds p := hA0
  rw [Try.params4] at hA hval
  obtain ⟨v0, vs0, d0, ds0, p0, q0, hargs, rfl, rfl, h0, r0⟩ := trodAll_cons hA
  obtain ⟨rfl, rfl, rfl⟩ := trodAll_nil r0
  obtain rfl : args = #[v0] := by cases args; simp_all
  obtain ⟨rfl, rfl⟩ := trodVars_none hV
  have k0 := h0
  have lt0 : ∀ x ∈ p0, x.block < W.heap.size := by obtain ⟨m, hm⟩ := k0; exact DataW.trod_lt m _ _ _ hm
  obtain ⟨a0, rfl, -, -, w0⟩ := open_string Try.underlying9 (hval 0 9 v0 rfl rfl) h0
  clear hA0 hval0
  refine (walk_FnExactIsName a0 w0 (w := W)).mono fun e W' ⟨he, bel⟩ => ?_
  subst he
  exact ⟨_, rfl, _, _, _, [], _, [], hW', trodAll_mk1 (shut_bool Try.underlying4 _), (trodAll_cons_mk (Below.trod laidOut (by kernel_rfl) (of_decide_eq_true (by kernel_rfl)) k0 bel lt0) trodAll_mk0), rfl, bel.frame _, fun h => by cases h⟩

theorem proved : Rows.FnExactIsNameSaid :=
  OpenClaim.holds_of_wide 4 Try.f4 rfl rfl rfl rfl rfl rfl rfl ⟨rfl, rfl, rfl, rfl, rfl⟩ rfl rfl rfl rfl rfl (by kernel_rfl) Try.func4 (by kernel_rfl)
    (of_decide_eq_true (by kernel_rfl)) (by unfold Func.isWrapper; first | (rw [if_pos (by decide +kernel)]; kernel_rfl) | (rw [if_neg (by decide +kernel)]; exact ⟨rfl, rfl⟩))
    (fun os started H enc _ => lifted os started H enc)
end fnExactIsName

end Go.Proofs.Ytpmcfeokcagjdaa
