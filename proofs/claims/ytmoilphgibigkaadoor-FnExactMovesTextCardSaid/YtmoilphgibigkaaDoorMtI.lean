/- The text of a list of moves: the program's (over the table of powers of ten as the library's text lays it). No conditions. -/
import Derived.Test.YtmoilphgibigkaaDoorMtP
import Derived.Test.YtmoilphgibigkaaDoorDecLaw
namespace Go.Proofs.YtmoilphgibigkaaDoor
open Go.Joins Go.ChangeShapes Go.WideShapes Go.ChangeAt Go.RowKit Go.Deep
set_option linter.unusedVariables false

theorem other_any (x : Int) (w : World) : Calls Tryd.prog 15 #[.int .i64 x] w fun e w' => e = .returned (.bool (!(decide (0 ≤ x) && decide (x ≤ 7)))) ∧ w = w' := by
  go_enter Tryd.func15, Tryd.ntmps15
  go_wp2
  all_goals
    go_ret
    exact ⟨by first | (simp [*]; done) | (simp [*]; omega) | (simp [*]; rw [Bool.eq_iff_iff]; simp; omega), rfl⟩
theorem other_b (x : Int) (r : Bool) (h : (!(decide (0 ≤ x) && decide (x ≤ 7))) = r) (w : World) : Calls Tryd.prog 15 #[.int .i64 x] w fun e w' => e = .returned (.bool r) ∧ w = w' :=
  (other_any x w).mono fun e w' ⟨he, hw⟩ => ⟨by rw [he, h], hw⟩

set_option maxHeartbeats 2000000 in
theorem find_any (a : Option Addr) (c n : Nat) (xs : List Int) (w : World) (hn : xs.length = n) (h : RowN w a xs) :
    Calls Tryd.prog 23 #[.slice a n c, .func (.func 15) #[] #[]] w fun e w' => (∃ z : Int, -1 ≤ z ∧ e = .returned (.int .i64 z) ∧ decide (0 ≤ z) = !mvOk xs) ∧ Below w.heap.size w w' := by
  have hl : n ≤ 1000000000000 := by rw [← hn]; exact h.1
  have Hn := Lib.hid hn
  have H := Lib.hid h
  clear hn h
  go_enter Tryd.func23, Tryd.ntmps23
  go_wp2
  go_loopw [8] (fun i wr => ∃ k : Nat, k ≤ n ∧ i = .int .i64 k ∧ mvOk (xs.take k) = true ∧ Below w.heap.size w wr) (fun i _ => n - (intOf i).toNat)
  case atStart => exact ⟨0, Nat.zero_le _, rfl, rfl, Below.refl _ _⟩
  case round =>
    obtain ⟨k, hk, rfl, ho, hb⟩ := hrel
    have HB := Lib.hid hb
    have HO := Lib.hid ho
    clear hb ho
    by_cases hlt : k < n
    · obtain ⟨x, hx⟩ : ∃ x, xs[k]? = some x := ⟨xs[k]'(by rw [Hn.out]; exact hlt), List.getElem?_eq_getElem _⟩
      have hne : xs ≠ [] := by intro h; subst h; cases hx
      obtain ⟨g, o, rfl, l1, x1⟩ := H.out.2.resolve_left hne
      have y1 := (HB.out.cell (p := ⟨g, o + k, none⟩) l1).trans (x1 k x hx)
      have q0 : (0 : Int) ≤ (k : Int) := by omega
      have q1 : (k : Int) < (n : Int) := by omega
      have HX := Lib.hid hx
      clear x1 hx hne
      by_cases hin : 0 ≤ x ∧ x ≤ 7
      · have Hs := Lib.hid (mvOk_snoc HX.out HO.out hin)
        have he : (!(decide (0 ≤ x) && decide (x ≤ 7))) = false := by simp [hin.1, hin.2]
        clear hin
        go_wp2_with (go_at_call 15; refine (other_b _ _ he _).mono ?_; rintro e w' ⟨rfl, rfl⟩)
        go_roundw
        case rel => exact ⟨k + 1, by omega, by go_num, Hs.out, HB.out⟩
        case measure => simp [intOf]; omega
      · have Hf := Lib.hid (mvOk_no HX.out hin)
        have he : (!(decide (0 ≤ x) && decide (x ≤ 7))) = true := by
          cases e : (decide (0 ≤ x) && decide (x ≤ 7))
          · rfl
          · simp only [Bool.and_eq_true, decide_eq_true_eq] at e
            exact absurd e hin
        clear hin
        go_wp2_with (go_at_call 15; refine (other_b _ _ he _).mono ?_; rintro e w' ⟨rfl, rfl⟩)
        go_ret
        exact ⟨⟨(k : Int), by omega, rfl, by rw [Hf.out, decide_eq_true q0]; rfl⟩, HB.out⟩
    · obtain rfl : k = n := by omega
      have e1 : xs.take k = xs := List.take_of_length_le (by rw [Hn.out]; exact Nat.le_refl _)
      have hok := HO.out
      rw [e1] at hok
      have Hk := Lib.hid hok
      clear e1 hok
      go_wp2
      go_ret
      exact ⟨⟨-1, by omega, rfl, by rw [Hk.out]; rfl⟩, HB.out⟩
theorem has_any (a : Option Addr) (c n : Nat) (xs : List Int) (w : World) (hn : xs.length = n) (h : RowN w a xs) :
    Calls Tryd.prog 16 #[.slice a n c, .func (.func 15) #[] #[]] w fun e w' => e = .returned (.bool (!mvOk xs)) ∧ Below w.heap.size w w' := by
  have HC := Lib.hid (find_any a c n xs w hn h)
  clear hn h
  go_enter Tryd.func16, Tryd.ntmps16
  go_wp2_with fail
  refine HC.out.mono ?_
  rintro e w1 ⟨⟨z, hz, rfl, he⟩, b1⟩
  have B1 := Lib.hid b1
  clear b1
  have He := Lib.hid he
  clear he
  go_wp2_with fail
  all_goals
    go_ret
    exact ⟨by rw [← He.out]; first | rfl | (rw [decide_eq_true (by omega)]; rfl) | (rw [decide_eq_false (by omega)]; rfl), B1.out⟩
theorem has_b (r : Bool) (a : Option Addr) (c n : Nat) (xs : List Int) (w : World) (hn : xs.length = n) (h : RowN w a xs) (hr : mvOk xs = r) :
    Calls Tryd.prog 16 #[.slice a n c, .func (.func 15) #[] #[]] w fun e w' => e = .returned (.bool (!r)) ∧ Below w.heap.size w w' :=
  (has_any a c n xs w hn h).mono fun e w' ⟨he, hb⟩ => ⟨by rw [he, hr], hb⟩

theorem join_any (B g cap n : Nat) (xs : List Int) (w : World) (hn : xs.length = n) (h9 : n ≤ 120) (hI : ∀ x ∈ xs, I64 x) (row : TextRow w B g cap n (dsL xs)) :
    Calls Tryd.prog 18 #[.slice (some ⟨g, 0, none⟩) n cap, .string ⟨#[32]⟩] w fun e w' => e = .returned (.string ⟨(mvL xs).toArray⟩) ∧ Below w.heap.size w w' := by
  have e0 : Lib.join ((dsL xs).map (·.data.toList)) (⟨#[32]⟩ : ByteArray).data.toList = mvL xs := ds_join xs
  have hl := mvL_len hI
  have h := Tryd.strings_Join g 0 cap (dsL xs) ⟨#[32]⟩ w row.cells row.lt (by rw [ds_len]; omega) (by rw [ds_len, hn]; exact row.le) (by rw [e0]; omega)
  rw [ds_len, hn, e0] at h
  exact h
theorem join_no (a : Option Addr) (c : Nat) (w : World) :
    Calls Tryd.prog 18 #[.slice a 0 c, .string ⟨#[32]⟩] w fun e w' => e = .returned (.string ⟨(mvL []).toArray⟩) ∧ Below w.heap.size w w' :=
  (Tryd.strings_Join_none a c ⟨#[32]⟩ w).mono fun e w' ⟨he, hw⟩ => ⟨he, hw ▸ Below.refl _ _⟩

set_option maxHeartbeats 4000000 in
theorem implMt_any (a : Option Addr) (c n : Nat) (xs : List Int) (w : World) (hn : xs.length = n) (h : RowN w a xs) (hP : PowTab w) :
    Calls Tryd.prog 7 #[.slice a n c] w fun e w' => e = .returned (.string ⟨(mtV xs).toArray⟩) ∧ Below w.heap.size w w' := by
  obtain ⟨i0, hi, hz0, hz1, hz2⟩ := info_parts info9
  have hl : n ≤ 1000000000000 := by rw [← hn]; exact h.1
  by_cases h9 : n ≤ 120
  · have q9 : (n : Int) ≤ 120 := by omega
    rcases hk : mvOk xs with _ | _
    · have hv : mtV xs = [] := by unfold mtV mtK; rw [hk]; rfl
      rw [hv]
      have HC := Lib.hid (has_b _ a c n xs w hn h hk)
      clear hn h hk hv h9
      go_enter Tryd.func7, Tryd.ntmps7
      go_wp2_with (go_at_call 16; refine HC.out.mono ?_; rintro e w1 ⟨rfl, b1⟩; have B1 := Lib.hid b1; clear b1)
      go_ret
      exact ⟨rfl, B1.out⟩
    · have hv : mtV xs = mvL xs := by unfold mtV mtK; rw [hk, hn, decide_eq_true h9]; rfl
      rw [hv]
      have hI : ∀ x ∈ xs, I64 x := by
        intro x hx
        have := mvOk_mem hk hx
        unfold I64
        omega
      have HI := Lib.hid hI
      have HC := Lib.hid (has_b _ a c n xs w hn h hk)
      have Hn := Lib.hid hn
      have H := Lib.hid h
      have HP := Lib.hid hP
      clear hn h hk hv hI hP
      go_enter Tryd.func7, Tryd.ntmps7
      go_wp2_with (go_at_call 16; refine HC.out.mono ?_; rintro e w1 ⟨rfl, b1⟩; have B1 := Lib.hid b1; clear b1)
      go_loopw [4, 17] (fun v i wr => ∃ k : Nat, k ≤ n ∧ i = .int .i64 k ∧ wr.ownsRow w.heap.size 9 1 v k (sv (dsL (xs.take k))) ∧ Below w.heap.size w wr) (fun _ i _ => n - (intOf i).toNat)
      case atStart => exact ⟨0, Nat.zero_le _, rfl, World.ownsRow_nil _ _ _ _, B1.out⟩
      case round =>
        obtain ⟨k, hk, rfl, hown, hb⟩ := hrel
        have HO := Lib.hid hown
        have HB := Lib.hid hb
        have hsz := hb.size
        clear hown hb
        by_cases hlt : k < n
        · obtain ⟨x, hx⟩ : ∃ x, xs[k]? = some x := ⟨xs[k]'(by rw [Hn.out]; exact hlt), List.getElem?_eq_getElem _⟩
          have hne : xs ≠ [] := by intro h; subst h; cases hx
          obtain ⟨g, o, rfl, l1, x1⟩ := H.out.2.resolve_left hne
          have y1 := (HB.out.cell (p := ⟨g, o + k, none⟩) l1).trans (x1 k x hx)
          have q0 : (0 : Int) ≤ (k : Int) := by omega
          have q1 : (k : Int) < (n : Int) := by omega
          have HX := Lib.hid hx
          have hxI := HI.out x (List.mem_of_getElem? hx)
          clear x1 hx hne
          obtain ⟨D, hD⟩ : ∃ D : ByteArray, D = ⟨(Lib.itoa x).toArray⟩ := ⟨_, rfl⟩
          have HD := Lib.hid hD
          clear hD
          go_wp2_with fail
          refine (impl_dec x hxI _ (HP.out.below HB.out)).mono ?_
          rintro e w2 ⟨rfl, b2⟩
          rw [← HD.out]
          have HO2 := Lib.hid (own_mt HO.out b2)
          have HB2 := Lib.hid (HB.out.trans (b2.mono HB.out.size))
          have hs2 := HB2.out.size
          clear b2
          go_wp2_with (at_builtin; refine wpList_append_own _ rfl _ _ 33 rfl w.heap.size 9 i0 (.string ⟨#[]⟩) 1 16 Tryd.underlying33 hi hz0 hz1 hz2 rfl (by decide) _ k (sv (dsL (xs.take k))) rfl (HO2.out.alloc _) ⟨w2.heap.size, 0, none⟩ 1 1 [.string D] rfl rfl (alloc_texts rfl rfl) (by simp [Value.oneCell']) (by unfold maxLen; omega) (by omega) (by simp; omega) ?_; intro v' w7 hown1 hgrow1 hnil1)
          go_roundw
          case rel => exact ⟨k + 1, by omega, by go_num, by rw [ds_snoc HX.out, ← HD.out]; exact hown1, (HB2.out.alloc hs2 _).grown hgrow1 (by simp; omega) (fun q hq => (HO2.out.lt q hq).1)⟩
          case measure => simp [intOf]; omega
        · obtain rfl : k = n := by omega
          have e1 : xs.take k = xs := List.take_of_length_le (by rw [Hn.out]; exact Nat.le_refl _)
          rw [e1] at HO
          by_cases h0 : k = 0
          · subst h0
            have hx0 : xs = [] := List.eq_nil_of_length_eq_zero Hn.out
            obtain ⟨a1, c1, rfl⟩ : ∃ a1 c1, u4 = Value.slice a1 0 c1 := by
              obtain ⟨_, ⟨hv, _⟩ | ⟨g', cap', cur, hv, _⟩⟩ := HO.out
              · exact ⟨_, _, hv⟩
              · exact ⟨_, _, hv⟩
            have X0 := Lib.hid hx0
            clear e1 HO HI Hn H HC hx0
            go_wp2_with fail
            refine (join_no _ _ _).mono ?_
            rintro e w2 ⟨rfl, b2⟩
            have HB2 := Lib.hid (HB.out.trans (b2.mono HB.out.size))
            clear b2
            go_wp2_with fail
            go_ret
            exact ⟨by rw [X0.out]; rfl, HB2.out⟩
          · obtain ⟨g, cap, rfl, row⟩ := texts_own HO.out (by omega)
            have HR := Lib.hid row
            clear e1 HO row
            go_wp2_with fail
            refine (join_any _ _ _ _ xs _ Hn.out h9 HI.out HR.out).mono ?_
            rintro e w2 ⟨rfl, b2⟩
            have HB2 := Lib.hid (HB.out.trans (b2.mono HB.out.size))
            clear b2
            go_wp2_with fail
            go_ret
            exact ⟨rfl, HB2.out⟩
  · have q9 : (120 : Int) < (n : Int) := by omega
    have hv : mtV xs = [] := by unfold mtV mtK; rw [hn, decide_eq_false h9, Bool.and_false]; rfl
    rw [hv]
    clear hn h hv h9
    go_enter Tryd.func7, Tryd.ntmps7
    go_wp2_with fail
    go_ret
    exact ⟨rfl, Below.refl _ _⟩
end Go.Proofs.YtmoilphgibigkaaDoor
