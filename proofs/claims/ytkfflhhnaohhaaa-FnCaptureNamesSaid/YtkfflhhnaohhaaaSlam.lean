/- The names of kinds of slams, kinds of captures and fields: what the reference and the program return for a number, and for a name. No conditions. -/
import Derived.Test.YtkfflhhnaohhaaaOpen
import Derived.WalkSpells
import Derived.LoopN
namespace Go.Proofs.Ytkfflhhnaohhaaa
open Go.Joins Go.ChangeShapes Go.WideShapes Go.ChangeAt Go.RowKit Go.Deep
set_option linter.unusedVariables false

def slams : List ByteArray := [⟨#[116, 97, 107, 101]⟩, ⟨#[102, 111, 114, 98, 105, 100]⟩, ⟨#[110, 111, 116, 104, 105, 110, 103]⟩]
def caps : List ByteArray := [⟨#[110, 111, 110, 101]⟩, ⟨#[116, 119, 111, 45, 116, 104, 114, 101, 101]⟩, ⟨#[99, 114, 111, 115, 115]⟩, ⟨#[101, 118, 101, 110]⟩]
def flds : List ByteArray := [⟨#[112, 105, 116, 115]⟩, ⟨#[115, 101, 101, 100, 115]⟩, ⟨#[115, 116, 111, 114, 101, 115]⟩, ⟨#[115, 107, 105, 112]⟩, ⟨#[114, 101, 108, 97, 121]⟩, ⟨#[102, 101, 101, 100]⟩, ⟨#[97, 103, 97, 105, 110]⟩, ⟨#[99, 97, 112, 116, 117, 114, 101]⟩, ⟨#[115, 108, 97, 109]⟩]
/-- The text with a number, the empty one if there is none. -/
def nameAt (xs : List ByteArray) (k : Int) : ByteArray := if 0 ≤ k then xs.getD k.toNat ⟨#[]⟩ else ⟨#[]⟩
/-- The index of a text in a list, counted from k; -1 if it is not there. -/
def idxL : List ByteArray → ByteArray → Nat → Int
  | [], _, _ => -1
  | x :: r, s, k => if x.toList == s.toList then (k : Int) else idxL r s (k + 1)
theorem idx_range : ∀ (xs : List ByteArray) (s : ByteArray) (k : Nat), idxL xs s k = -1 ∨ ((k : Int) ≤ idxL xs s k ∧ idxL xs s k < (k : Int) + xs.length)
  | [], _, _ => .inl rfl
  | x :: r, s, k => by
    unfold idxL
    split
    · right; simp; omega
    · rcases idx_range r s (k + 1) with h | h
      · exact .inl h
      · right; simp only [List.length_cons]; omega
theorem idx_at : ∀ (xs : List ByteArray) (s : ByteArray) (k : Nat) (j : Nat), idxL xs s k = ((k + j : Nat) : Int) → ∃ x, xs[j]? = some x ∧ x.toList = s.toList
  | [], _, _, _, h => by unfold idxL at h; omega
  | x :: r, s, k, j, h => by
    unfold idxL at h
    split at h
    · rename_i hx
      obtain rfl : j = 0 := by omega
      exact ⟨x, rfl, by simpa using hx⟩
    · match j with
      | 0 => rcases idx_range r s (k + 1) with q | q <;> omega
      | j + 1 =>
        obtain ⟨y, hy, e⟩ := idx_at r s (k + 1) j (by rw [h]; congr 1; omega)
        exact ⟨y, by simpa using hy, e⟩
theorem idx_step {xs : List ByteArray} {s x : ByteArray} {k : Nat} (hx : xs[k]? = some x) (hne : (x.toList == s.toList) = false) : idxL (xs.drop k) s k = idxL (xs.drop (k + 1)) s (k + 1) := by
  obtain ⟨hl, e⟩ := List.getElem?_eq_some_iff.1 hx
  rw [List.drop_eq_getElem_cons hl, idxL, e, hne]
  rfl
theorem idx_found {xs : List ByteArray} {s x : ByteArray} {k : Nat} (hx : xs[k]? = some x) (he : (x.toList == s.toList) = true) : idxL (xs.drop k) s k = (k : Int) := by
  obtain ⟨hl, e⟩ := List.getElem?_eq_some_iff.1 hx
  rw [List.drop_eq_getElem_cons hl, idxL, e, he]
  rfl
theorem idx_none {xs : List ByteArray} {s : ByteArray} {k : Nat} (h : xs.length ≤ k) : idxL (xs.drop k) s k = -1 := by
  rw [List.drop_eq_nil_of_le h]
  rfl

/-- What is returned for an index: it and no error, or an error. -/
def idxV (i : Int) : Value := .tuple #[.int .i64 (if i < 0 then 0 else i), .int .i64 (if i < 0 then 3 else 0)]
theorem idxV_pos {i : Int} (h : ¬ i < 0) : idxV i = .tuple #[.int .i64 i, .int .i64 0] := by unfold idxV; rw [if_neg h, if_neg h]
theorem idxV_neg {i : Int} (h : i < 0) : idxV i = .tuple #[.int .i64 0, .int .i64 3] := by unfold idxV; rw [if_pos h, if_pos h]

/-- The block g holds these texts. -/
def RowT (w : World) (g : Nat) (xs : List ByteArray) : Prop := g < w.heap.size ∧ ∀ (i : Nat) s, xs[i]? = some s → w.cell? ⟨g, i, none⟩ = some (.string s)
theorem RowT.below {w w' : World} {g : Nat} {xs : List ByteArray} (h : RowT w g xs) (k : Below w.heap.size w w') : RowT w' g xs :=
  ⟨Nat.lt_of_lt_of_le h.1 k.size, fun i s hs => by rw [k.cell (p := ⟨g, i, none⟩) h.1]; exact h.2 i s hs⟩
def NewRow (xs : List ByteArray) (n : Nat) (w : World) (e : Ending) (w' : World) : Prop :=
  e = .returned (.slice (some ⟨w.heap.size, 0, none⟩) n n) ∧ Below w.heap.size w w' ∧ w.heap.size < w'.heap.size ∧ RowT w' w.heap.size xs
theorem row_new (w : World) (xs : List ByteArray) (T : TypeId) : RowT (w.alloc (.cells (xs.map Value.string).toArray T)) w.heap.size xs :=
  ⟨by simp, fun i s hs => by simp [World.cell?_alloc_new, hs]⟩
theorem new_row (w : World) (xs : List ByteArray) (n : Nat) (T : TypeId) : NewRow xs n w (.returned (.slice (some ⟨w.heap.size, 0, none⟩) n n)) (w.alloc (.cells (xs.map Value.string).toArray T)) :=
  ⟨rfl, (Below.refl _ _).alloc (Nat.le_refl _) _, by simp, row_new w xs T⟩

theorem caps_any (w : World) : Calls Try.prog 13 #[] w (NewRow caps 4 w) := by
  go_enter Try.func13, Try.ntmps13
  go_wp2
  go_ret
  exact new_row w caps 4 9


theorem caps_name (k : Int) (w : World) : Calls Try.prog 6 #[.int .i64 k] w fun e w' => e = .returned (.string (nameAt caps k)) ∧ Below w.heap.size w w' := by
  by_cases h0 : k = 0
  · subst h0
    go_enter Try.func6, Try.ntmps6
    go_wp2
    go_ret
    exact ⟨rfl, Below.refl _ _⟩
  · by_cases h1 : k = 1
    · subst h1
      go_enter Try.func6, Try.ntmps6
      go_wp2
      go_ret
      exact ⟨rfl, Below.refl _ _⟩
    · by_cases h2 : k = 2
      · subst h2
        go_enter Try.func6, Try.ntmps6
        go_wp2
        go_ret
        exact ⟨rfl, Below.refl _ _⟩
      · by_cases h3 : k = 3
        · subst h3
          go_enter Try.func6, Try.ntmps6
          go_wp2
          go_ret
          exact ⟨rfl, Below.refl _ _⟩
        · have e : nameAt caps k = ⟨#[]⟩ := by
            unfold nameAt
            split
            · rw [List.getD_eq_getElem?_getD, List.getElem?_eq_none (by simp [caps]; omega)]
              rfl
            · rfl
          rw [e]
          go_enter Try.func6, Try.ntmps6
          go_wp2
          go_ret
          exact ⟨rfl, Below.refl _ _⟩
theorem caps_named (s : ByteArray) (w : World) : Calls Try.prog 9 #[.string s, .func (.func 6) #[] #[], .int .i64 3] w fun e w' =>
    e = .returned (idxV (idxL caps s 0)) ∧ Below w.heap.size w w' := by
  go_enter Try.func9, Try.ntmps9
  go_wp2
  go_loopw [8] (fun i wr => ∃ k : Nat, k ≤ 3 + 1 ∧ i = .int .i64 k ∧ Below w.heap.size w wr ∧ idxL (caps.drop k) s k = idxL caps s 0) (fun i _ => 3 + 1 - (intOf i).toNat)
  case atStart => exact ⟨0, Nat.zero_le _, rfl, Below.refl _ _, rfl⟩
  case round =>
    obtain ⟨k, hk, rfl, hbl, hix⟩ := hrel
    have HX := Lib.hid hix
    have HB := Lib.hid hbl
    clear hix hbl
    by_cases hlt : k < 3 + 1
    · obtain ⟨x, hx⟩ : ∃ x, caps[k]? = some x := ⟨caps[k]'(by simp [caps]; omega), List.getElem?_eq_getElem _⟩
      have hnm : nameAt caps (k : Int) = x := by
        unfold nameAt
        rw [if_pos (by omega), List.getD_eq_getElem?_getD, Int.toNat_natCast, hx]
        rfl
      have q0 : (0 : Int) ≤ (k : Int) := by omega
      have q1 : (k : Int) ≤ 3 := by omega
      have HK := Lib.hid hx
      have HM := Lib.hid hnm
      clear hx hnm
      by_cases he : (x.toList == s.toList) = true
      · go_wp2_with (go_at_call 6; refine (caps_name _ _).mono ?_; rintro e w1 ⟨rfl, hb1⟩; rw [HM.out])
        go_ret2
        have ei : idxL caps s 0 = (k : Int) := by rw [← HX.out, idx_found HK.out he]
        exact ⟨by rw [ei, idxV_pos (by omega)]; rfl, HB.out.trans (hb1.mono HB.out.size)⟩
      · have he2 : (x.toList == s.toList) = false := by simpa using he
        clear he
        go_wp2_with (go_at_call 6; refine (caps_name _ _).mono ?_; rintro e w1 ⟨rfl, hb1⟩; rw [HM.out])
        go_roundw
        case rel => exact ⟨k + 1, by omega, by go_num, HB.out.trans (hb1.mono HB.out.size), by rw [← HX.out, idx_step HK.out he2]⟩
        case measure => simp [intOf]; omega
    · have q1 : ¬ (k : Int) ≤ 3 := by omega
      go_wp2
      go_ret2
      have ei : idxL caps s 0 = -1 := by rw [← HX.out, idx_none (by simp [caps]; omega)]
      exact ⟨by rw [ei, idxV_neg (by omega)]; rfl, HB.out⟩
end Go.Proofs.Ytkfflhhnaohhaaa
