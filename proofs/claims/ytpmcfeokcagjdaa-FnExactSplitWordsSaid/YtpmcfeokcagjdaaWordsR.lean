/- The library's pieces of a text between blanks are the words: plain facts. No conditions. -/
import Derived.Test.YtpmcfeokcagjdaaSplit
import Derived.Lib.FieldsP
import Derived.Laws.RangeAny
namespace Go.Proofs.Ytpmcfeokcagjdaa
open Go.Joins Go.ChangeShapes Go.WideShapes Go.ChangeAt Go.RowKit Go.Deep
set_option linter.unusedVariables false

def blank (r : Nat) : Bool := r == 32
theorem get_at' (s : ByteArray) (i : Nat) (h : i < s.size) : s.get! i = s[i]'h := by
  simp [ByteArray.get!, getElem!_pos, h]
  rfl
theorem cont_at {s : ByteArray} {i : Nat} (h : (decide (i < s.size) && (s.get! i).toNat / 64 == 2) = true) : ∃ hi : i < s.size, s[i]'hi ≠ 32 := by
  simp only [Bool.and_eq_true, decide_eq_true_eq, beq_iff_eq] at h
  obtain ⟨hi, h⟩ := h
  refine ⟨hi, fun e => ?_⟩
  rw [get_at' s i hi, e] at h
  exact absurd h (by decide)
theorem dec_width (s : ByteArray) (pos : Nat) (h : pos < s.size) (hh : 128 ≤ (s[pos]'h).toNat) :
    ∀ j, j < (Utf8.decode s pos).2 → ∃ hj : pos + j < s.size, s[pos + j]'hj ≠ 32 := by
  have h0 : ∃ hj : pos + 0 < s.size, s[pos + 0]'hj ≠ 32 := ⟨h, fun e => by
    have e' : s[pos]'h = 32 := e
    rw [e'] at hh
    exact absurd hh (by decide)⟩
  have one : ∀ j, j < 1 → ∃ hj : pos + j < s.size, s[pos + j]'hj ≠ 32 := fun j hj => by
    obtain rfl : j = 0 := by omega
    exact h0
  unfold Utf8.decode
  simp only
  split
  · exact one
  · split
    · rename_i hc
      simp only [Bool.and_eq_true] at hc
      have c1 := cont_at (i := pos + 1) (by simpa using hc.2)
      split
      · intro j hj
        match j, hj with
        | 0, _ => exact h0
        | 1, _ => exact c1
      · exact one
    · split
      · rename_i hc
        simp only [Bool.and_eq_true] at hc
        have c1 := cont_at (i := pos + 1) (by simpa using hc.1.2)
        have c2 := cont_at (i := pos + 2) (by simpa using hc.2)
        split
        · intro j hj
          match j, hj with
          | 0, _ => exact h0
          | 1, _ => exact c1
          | 2, _ => exact c2
        · exact one
      · split
        · rename_i hc
          simp only [Bool.and_eq_true] at hc
          have c1 := cont_at (i := pos + 1) (by simpa using hc.1.1.2)
          have c2 := cont_at (i := pos + 2) (by simpa using hc.1.2)
          have c3 := cont_at (i := pos + 3) (by simpa using hc.2)
          split
          · intro j hj
            match j, hj with
            | 0, _ => exact h0
            | 1, _ => exact c1
            | 2, _ => exact c2
            | 3, _ => exact c3
          · exact one
        · exact one
theorem split_skip (c : UInt8) (s : ByteArray) (pos : Nat) : ∀ (n : Nat) (cur : List UInt8), (∀ j, j < n → ∃ hj : pos + j < s.size, s[pos + j]'hj ≠ c) →
    splitL c (s.data.toList.drop pos) cur = splitL c (s.data.toList.drop (pos + n)) (cur ++ (s.data.toList.drop pos).take n)
  | 0, cur, _ => by simp
  | n + 1, cur, h => by
    rw [split_skip c s pos n cur (fun j hj => h j (by omega))]
    obtain ⟨hj, hne⟩ := h n (by omega)
    rw [list_at hj, splitL, if_neg hne, show pos + (n + 1) = pos + n + 1 by omega, List.append_assoc]
    congr 2
    have hl : pos + n < s.data.toList.length := by simp only [Array.length_toList]; exact hj
    have e : s[pos + n]'hj = s.data.toList[pos + n] := rfl
    rw [List.take_add_one, List.getElem?_drop, List.getElem?_eq_getElem hl, e]
    rfl

/-- The words of a text. -/
def words (l : List UInt8) : List (List UInt8) := (splitL 32 l []).filter fun x => !x.isEmpty
def spanL (s : ByteArray) (acc : List (Nat × Nat)) : List (List UInt8) := acc.map fun x => (s.extract x.1 x.2).data.toList
def curOf (s : ByteArray) (pos : Nat) : Option Nat → List UInt8
  | none => []
  | some a => (s.extract a pos).data.toList
theorem ext_ne {s : ByteArray} {a pos : Nat} (h : a < pos) (hp : pos ≤ s.size) : (s.extract a pos).data.toList.isEmpty = false := by
  rw [List.isEmpty_eq_false_iff, ← List.length_pos_iff, ext_list, List.length_take, List.length_drop]
  have : s.data.toList.length = s.size := by simp only [Array.length_toList]; rfl
  omega
theorem ext_app {s : ByteArray} {a pos n : Nat} (h : a ≤ pos) : (s.extract a pos).data.toList ++ (s.data.toList.drop pos).take n = (s.extract a (pos + n)).data.toList := by
  rw [ext_list, ext_list, show pos + n - a = (pos - a) + n by omega, List.take_add, List.drop_drop, show a + (pos - a) = pos by omega]
theorem filt_one {x : List UInt8} (h : x.isEmpty = false) : List.filter (fun x => !x.isEmpty) [x] = [x] := by simp [h]
theorem end_some {s : ByteArray} {a : Nat} (acc : List (Nat × Nat)) (h : a < s.size) : spanL s (acc ++ [(a, s.size)]) = spanL s acc ++ List.filter (fun x => !x.isEmpty) [(s.extract a s.size).data.toList] := by
  rw [filt_one (ext_ne h (Nat.le_refl _))]
  simp only [spanL, List.map_append, List.map_cons, List.map_nil]
theorem mid_some {s : ByteArray} {a pos : Nat} (acc : List (Nat × Nat)) (r : List (List UInt8)) (h : a < pos) (hp : pos ≤ s.size) : spanL s (acc ++ [(a, pos)]) ++ List.filter (fun x => !x.isEmpty) r = spanL s acc ++ List.filter (fun x => !x.isEmpty) ((s.extract a pos).data.toList :: r) := by
  rw [List.filter_cons_of_pos (by rw [ext_ne h hp]; rfl)]
  simp only [spanL, List.map_append, List.map_cons, List.map_nil, List.append_assoc, List.singleton_append]
theorem spans_words (s : ByteArray) : ∀ (f pos : Nat) (st : Option Nat) (acc : List (Nat × Nat)), s.size ≤ pos + f → pos ≤ s.size → (∀ a, st = some a → a < pos) →
    spanL s (Lib.closeSpans s (Lib.spansFromP blank s f pos st acc)) = spanL s acc ++ (splitL 32 (s.data.toList.drop pos) (curOf s pos st)).filter fun x => !x.isEmpty := by
  intro f
  induction f with
  | zero =>
    intro pos st acc h1 h2 h3
    obtain rfl : pos = s.size := by omega
    have hd : s.data.toList.drop s.size = [] := List.drop_eq_nil_of_le (by simp only [Array.length_toList]; exact Nat.le_refl _)
    rw [hd, splitL]
    cases st with
    | none => simp [Lib.spansFromP, Lib.closeSpans, curOf, spanL]
    | some a => exact end_some acc (h3 a rfl)
  | succ f ih =>
    intro pos st acc h1 h2 h3
    by_cases hp : pos < s.size
    · have hstep : ∀ (n : Nat) (r : Nat), Utf8.decode s pos = (r, n) → 1 ≤ n → (r ≠ 32 → ∀ j, j < n → ∃ hj : pos + j < s.size, s[pos + j]'hj ≠ 32) → (r = 32 → s[pos]'hp = 32 ∧ n = 1) →
          spanL s (Lib.closeSpans s (Lib.spansFromP blank s (f + 1) pos st acc)) = spanL s acc ++ (splitL 32 (s.data.toList.drop pos) (curOf s pos st)).filter fun x => !x.isEmpty := by
        intro n r hd hn hskip hb
        unfold Lib.spansFromP
        rw [if_pos hp, hd]
        by_cases hr : r = 32
        · obtain ⟨e, rfl⟩ := hb hr
          rw [if_pos (by simp [blank, hr]), list_at hp, splitL, if_pos e]
          cases st with
          | none =>
            show spanL s (Lib.closeSpans s (Lib.spansFromP blank s f (pos + 1) none acc)) = _
            rw [ih (pos + 1) none acc (by omega) (by omega) (fun a h => by cases h)]
            simp [curOf]
          | some a =>
            show spanL s (Lib.closeSpans s (Lib.spansFromP blank s f (pos + 1) none (acc ++ [(a, pos)]))) = _
            rw [ih (pos + 1) none _ (by omega) (by omega) (fun a h => by cases h)]
            exact mid_some acc _ (h3 a rfl) h2
        · have hs := hskip hr
          have hle : pos + n ≤ s.size := by
            obtain ⟨hj, _⟩ := hs (n - 1) (by omega)
            omega
          rw [if_neg (by simp [blank, hr]), split_skip 32 s pos n _ hs]
          cases st with
          | none =>
            show spanL s (Lib.closeSpans s (Lib.spansFromP blank s f (pos + n) (some pos) acc)) = _
            rw [ih (pos + n) (some pos) acc (by omega) hle (fun a h => by cases h; omega)]
            have e : curOf s pos none ++ (s.data.toList.drop pos).take n = curOf s (pos + n) (some pos) := by
              show [] ++ _ = (s.extract pos (pos + n)).data.toList
              rw [ext_list, show pos + n - pos = n by omega, List.nil_append]
            rw [e]
          | some a =>
            show spanL s (Lib.closeSpans s (Lib.spansFromP blank s f (pos + n) (some a) acc)) = _
            have ha := h3 a rfl
            rw [ih (pos + n) (some a) acc (by omega) hle (fun b h => by cases h; omega)]
            have e : curOf s pos (some a) ++ (s.data.toList.drop pos).take n = curOf s (pos + n) (some a) := ext_app (by omega)
            rw [e]
      by_cases ha : (s[pos]'hp).toNat < 128
      · refine hstep 1 (s[pos]'hp).toNat (decode_ascii s pos hp ha) (Nat.le_refl _) (fun hr j hj => ?_) (fun hr => ⟨UInt8.toNat_inj.1 hr, rfl⟩)
        obtain rfl : j = 0 := by omega
        exact ⟨hp, fun e => hr (by
          have e' : s[pos]'hp = 32 := e
          rw [e']
          rfl)⟩
      · have hh := decode_high s pos hp (by omega)
        exact hstep (Utf8.decode s pos).2 (Utf8.decode s pos).1 rfl hh.2 (fun _ => dec_width s pos hp (by omega)) (fun hr => by
          have := hh.1
          exfalso
          omega)
    · obtain rfl : pos = s.size := by omega
      have hd : s.data.toList.drop s.size = [] := List.drop_eq_nil_of_le (by simp only [Array.length_toList]; exact Nat.le_refl _)
      rw [Lib.spansFromP_end _ _ _ _ _ _ hp, hd, splitL]
      cases st with
      | none => simp [Lib.closeSpans, curOf, spanL]
      | some a => exact end_some acc (h3 a rfl)
theorem fields_words (s : ByteArray) : lists (Lib.goFieldsP blank s) = words s.data.toList := by
  have h := spans_words s s.size 0 none [] (by omega) (Nat.zero_le _) (fun a h => by cases h)
  unfold Lib.goFieldsP Lib.spansOfP lists words
  rw [List.map_map]
  exact h.trans (by simp only [spanL, curOf, List.map_nil, List.nil_append, List.drop_zero])
end Go.Proofs.Ytpmcfeokcagjdaa
