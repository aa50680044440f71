/- Sums of numbers, as the reference and the program take them. No conditions. -/
import Derived.Test.YtgogjjkecbgbiaaRowN
import Derived.Test.YtgogjjkecbgbiaaCh2
namespace Go.Proofs.Ytgogjjkecbgbiaa
open Go.Joins Go.ChangeShapes Go.WideShapes Go.ChangeAt Go.RowKit Go.Deep
set_option linter.unusedVariables false

/-- The sum of numbers. -/
def tot : List Int → Int
  | [] => 0
  | x :: r => x + tot r
theorem tot_app (l m : List Int) : tot (l ++ m) = tot l + tot m := by
  induction l with
  | nil => simp [tot]
  | cons x r ih => simp only [List.cons_append, tot, ih]; omega
theorem tot_snoc (l : List Int) (x : Int) : tot (l ++ [x]) = tot l + x := by rw [tot_app]; simp [tot]
theorem take_next {xs : List Int} {k : Nat} {x : Int} (h : xs[k]? = some x) : xs.take (k + 1) = xs.take k ++ [x] := by
  rw [List.take_add_one, h]; rfl
/-- All numbers are from 0 to 96. -/
def inB (l : List Int) : Bool := l.all fun x => decide (0 ≤ x) && decide (x ≤ 96)
theorem inB_snoc (l : List Int) (x : Int) : inB (l ++ [x]) = (inB l && (decide (0 ≤ x) && decide (x ≤ 96))) := by simp [inB]
theorem inB_bd {l : List Int} (h : inB l = true) : 0 ≤ tot l ∧ tot l ≤ 96 * l.length := by
  induction l with
  | nil => simp [tot]
  | cons x r ih =>
    simp only [inB, List.all_cons, Bool.and_eq_true, decide_eq_true_eq] at h
    have := ih h.2
    simp only [tot, List.length_cons]
    omega
theorem inB_mem {l : List Int} (h : inB l = true) {k : Nat} {x : Int} (hx : l[k]? = some x) : 0 ≤ x ∧ x ≤ 96 := by
  have := List.all_eq_true.1 h x (List.mem_of_getElem? hx)
  simpa using this
theorem inB_no {l : List Int} {k : Nat} {x : Int} (hx : l[k]? = some x) (h : ¬ (0 ≤ x ∧ x ≤ 96)) : inB l = false := by
  cases e : inB l
  · rfl
  · exact absurd (inB_mem e hx) h
/-- The sum of the reference: -1 if a number is negative or something is greater than 96. -/
def sumC (l : List Int) : Int := if inB l && decide (tot l ≤ 96) then tot l else -1
theorem sumC_no {l : List Int} (h : inB l = false) : sumC l = -1 := by simp [sumC, h]
theorem sumC_big {l : List Int} (h : 96 < tot l) : sumC l = -1 := by
  unfold sumC
  rw [decide_eq_false (by omega)]
  simp
theorem sumC_yes {l : List Int} (h : inB l = true) (h2 : tot l ≤ 96) : sumC l = tot l := by simp [sumC, h, h2]
theorem sumC_bd (l : List Int) : -1 ≤ sumC l ∧ sumC l ≤ 96 := by
  unfold sumC
  split
  · rename_i h
    simp only [Bool.and_eq_true, decide_eq_true_eq] at h
    have := inB_bd h.1
    omega
  · omega
/-- All numbers are not negative. -/
def posB (l : List Int) : Bool := l.all fun x => decide (0 ≤ x)
theorem posB_mem {l : List Int} (h : posB l = true) {k : Nat} {x : Int} (hx : l[k]? = some x) : 0 ≤ x := by
  have := List.all_eq_true.1 h x (List.mem_of_getElem? hx)
  simpa using this
theorem posB_tot {l : List Int} (h : posB l = true) : 0 ≤ tot l := by
  induction l with
  | nil => simp [tot]
  | cons x r ih =>
    simp only [posB, List.all_cons, Bool.and_eq_true, decide_eq_true_eq] at h
    have := ih h.2
    simp only [tot]
    omega
theorem posB_le {l : List Int} (h : posB l = true) : ∀ x ∈ l, x ≤ tot l := by
  induction l with
  | nil => intro x hx; cases hx
  | cons y r ih =>
    simp only [posB, List.all_cons, Bool.and_eq_true, decide_eq_true_eq] at h
    have h2 := ih h.2
    have h3 := posB_tot h.2
    intro x hx
    simp only [tot]
    rcases List.mem_cons.1 hx with rfl | hx
    · omega
    · have := h2 x hx; omega
theorem posB_of_in {l : List Int} (h : inB l = true) : posB l = true := by
  unfold posB
  rw [List.all_eq_true]
  intro x hx
  have := List.all_eq_true.1 h x hx
  simp only [Bool.and_eq_true, decide_eq_true_eq] at this
  simpa using this.1
theorem inB_of_pos {l : List Int} (h : posB l = true) (h2 : tot l ≤ 96) : inB l = true := by
  unfold inB
  rw [List.all_eq_true]
  intro x hx
  have h3 := posB_le h x hx
  have h4 := List.all_eq_true.1 h x hx
  simp only [decide_eq_true_eq] at h4
  simp only [Bool.and_eq_true, decide_eq_true_eq]
  omega
/-- Pits and stores are not negative and no more than 96 together. -/
def seedB (xs ys : List Int) : Bool := posB xs && posB ys && decide (tot xs + tot ys ≤ 96)
theorem seedB_eq (xs ys : List Int) : (decide (0 ≤ sumC xs) && decide (0 ≤ sumC ys) && decide (sumC xs + sumC ys ≤ 96)) = seedB xs ys := by
  unfold seedB
  by_cases h1 : posB xs = true
  · by_cases h2 : posB ys = true
    · have t1 := posB_tot h1
      have t2 := posB_tot h2
      by_cases h3 : tot xs + tot ys ≤ 96
      · have e1 := sumC_yes (inB_of_pos h1 (by omega)) (by omega)
        have e2 := sumC_yes (inB_of_pos h2 (by omega)) (by omega)
        rw [e1, e2, h1, h2]
        simp [t1, t2]
      · by_cases h4 : tot xs ≤ 96
        · by_cases h5 : tot ys ≤ 96
          · rw [sumC_yes (inB_of_pos h1 (by omega)) (by omega), sumC_yes (inB_of_pos h2 (by omega)) (by omega), h1, h2]
            simp [t1, t2]
          · rw [sumC_big (l := ys) (by omega)]
            simp [h3]
        · rw [sumC_big (l := xs) (by omega)]
          simp [h3]
    · have e : inB ys = false := by
        cases e : inB ys
        · rfl
        · exact absurd (posB_of_in e) h2
      rw [sumC_no e]
      simp [h2]
  · have e : inB xs = false := by
      cases e : inB xs
      · rfl
      · exact absurd (posB_of_in e) h1
    rw [sumC_no e]
    simp [h1]
/-- A position is valid for rules. -/
def okP (k : Bool) (p : Int) (n1 n2 : Nat) (pl : Int) (xs ys : List Int) : Bool :=
  k && decide ((n1 : Int) = 2 * p) && decide (n2 = 2) && (decide (0 ≤ pl) && decide (pl ≤ 1)) && seedB xs ys
theorem okP_parts {k : Bool} {p : Int} {n1 n2 : Nat} {pl : Int} {xs ys : List Int} (h : okP k p n1 n2 pl xs ys = true) : k = true ∧ (n1 : Int) = 2 * p ∧ n2 = 2 ∧ (0 ≤ pl ∧ pl ≤ 1) ∧ seedB xs ys = true := by
  unfold okP at h
  simp only [Bool.and_eq_true, decide_eq_true_eq] at h
  exact ⟨h.1.1.1.1, h.1.1.1.2, h.1.1.2, h.1.2, h.2⟩
theorem seedB_parts {xs ys : List Int} (h : seedB xs ys = true) : posB xs = true ∧ posB ys = true ∧ tot xs + tot ys ≤ 96 := by
  unfold seedB at h
  simp only [Bool.and_eq_true, decide_eq_true_eq] at h
  exact ⟨h.1.1, h.1.2, h.2⟩

/-- A contract that leaves the world alone, behind draws. -/
theorem quiet_w {P : Program} {f : FuncId} {args : Array Value} {W w : World} {v : Value} (h : Calls P f args W fun e w' => e = .returned v ∧ W = w') (hw : ∃ m, W = w.drewN m) :
    Calls P f args W fun e w'' => e = .returned v ∧ ∃ m, w'' = w.drewN m := h.mono fun _ _ ⟨he, hm⟩ => ⟨he, by rw [← hm]; exact hw⟩

set_option maxHeartbeats 1000000 in
theorem l04Sum_any (a : Option Addr) (c n : Nat) (xs : List Int) (w : World) (hn : xs.length = n) (h : RowN w a xs) :
    Calls Try.prog 43 #[.slice a n c] w fun e w' => e = .returned (.int .i64 (sumC xs)) ∧ w = w' := by
  have hl : n ≤ 1000000000000 := by rw [← hn]; exact h.1
  have Hn := Lib.hid hn
  have H := Lib.hid h
  clear hn h
  go_enter Try.func43, Try.ntmps43
  go_wp2
  go_loop [3, 4] (fun s i => ∃ (k : Nat) (t : Int), k ≤ n ∧ i = .int .i64 k ∧ s = .int .i64 t ∧ t = tot (xs.take k) ∧ inB (xs.take k) = true) (fun _ i => n - (intOf i).toNat)
  case atStart => exact ⟨0, 0, Nat.zero_le _, rfl, rfl, rfl, rfl⟩
  case round =>
    obtain ⟨k, t, hk, rfl, rfl, ht, hb⟩ := hrel
    have hbd := inB_bd hb
    rw [← ht, List.length_take] at hbd
    have hbd2 : t ≤ 96 * (k : Int) := by omega
    obtain ⟨hbd1, -⟩ := hbd
    have HT := Lib.hid ht
    have HBd := Lib.hid hb
    clear ht hb
    by_cases hlt : k < n
    · obtain ⟨x, hx⟩ : ∃ x, xs[k]? = some x := ⟨xs[k]'(by rw [Hn.out]; exact hlt), List.getElem?_eq_getElem _⟩
      have hne : xs ≠ [] := by intro h; subst h; cases hx
      obtain ⟨g, o, rfl, l1, x1⟩ := H.out.2.resolve_left hne
      have y1 := x1 k x hx
      have Hx := Lib.hid hx
      have q0 : (0 : Int) ≤ (k : Int) := by omega
      have q1 : (k : Int) < (n : Int) := by omega
      clear x1 hx hne
      by_cases hin : 0 ≤ x ∧ x ≤ 96
      · have hd : (decide (0 ≤ x) && decide (x ≤ 96)) = true := by simp [hin]
        have HD := Lib.hid hd
        obtain ⟨h0, h1⟩ := hin
        clear hd
        go_wp2_with fail
        refine (in_b x 0 96 true HD.out _).mono ?_
        rintro e w' ⟨rfl, rfl⟩
        go_wp2_with fail
        go_round
        case rel => exact ⟨k + 1, t + x, by omega, by go_num, by go_num, by rw [take_next Hx.out, tot_snoc, HT.out], by rw [take_next Hx.out, inB_snoc, HBd.out, HD.out]; rfl⟩
        case measure => simp [intOf]; omega
      · have hd : (decide (0 ≤ x) && decide (x ≤ 96)) = false := by simp; omega
        have HD := Lib.hid hd
        have HI := Lib.hid hin
        clear hd hin
        go_wp2_with fail
        refine (in_b x 0 96 false HD.out _).mono ?_
        rintro e w' ⟨rfl, rfl⟩
        go_wp2_with fail
        go_ret
        exact ⟨by rw [sumC_no (inB_no Hx.out HI.out)]; rfl, rfl⟩
    · obtain rfl : k = n := by omega
      have e1 : xs.take k = xs := List.take_of_length_le (by rw [Hn.out]; exact Nat.le_refl _)
      have HT2 : Hid (t = tot xs) := by
        have := HT.out
        rw [e1] at this
        exact Lib.hid this
      have HB2 : Hid (inB xs = true) := by
        have := HBd.out
        rw [e1] at this
        exact Lib.hid this
      clear e1
      by_cases hbig : 96 < t
      · go_wp2
        go_ret
        exact ⟨by rw [sumC_big (by rw [← HT2.out]; exact hbig)]; rfl, rfl⟩
      · have hle : t ≤ 96 := by omega
        clear hbig
        go_wp2
        go_ret
        exact ⟨by rw [sumC_yes HB2.out (by rw [← HT2.out]; exact hle), ← HT2.out]; rfl, rfl⟩
end Go.Proofs.Ytgogjjkecbgbiaa
