/- The text of a list of moves: the reference's. No conditions. -/
import Derived.Test.YtmoilphgibigkaaDoorJoin4
import Derived.Test.YtmoilphgibigkaaDoorCh2
namespace Go.Proofs.YtmoilphgibigkaaDoor
open Go.Joins Go.ChangeShapes Go.WideShapes Go.ChangeAt Go.RowKit Go.Deep
set_option linter.unusedVariables false

/-- The text of moves: a blank between two of them. -/
def mvL : List Int → List UInt8
  | [] => []
  | x :: r => (r.foldl (fun t y => t ++ 32 :: Lib.itoa y) (Lib.itoa x))
theorem mvL_snoc (l : List Int) (x : Int) : mvL (l ++ [x]) = (if l = [] then [] else mvL l ++ [32]) ++ Lib.itoa x := by
  cases l with
  | nil => rfl
  | cons y r =>
    rw [if_neg (by simp), List.cons_append]
    show List.foldl _ _ (r ++ [x]) = _
    rw [List.foldl_append]
    simp [mvL]
theorem mvL_len {xs : List Int} (h : ∀ x ∈ xs, I64 x) : (mvL xs).length ≤ 22 * xs.length := by
  have key : ∀ (r : List Int) (t : List UInt8), (∀ x ∈ r, I64 x) → (r.foldl (fun t y => t ++ 32 :: Lib.itoa y) t).length ≤ t.length + 22 * r.length := by
    intro r
    induction r with
    | nil => intro t _; simp
    | cons y r ih =>
      intro t hr
      have h1 := ih (t ++ 32 :: Lib.itoa y) (fun x hx => hr x (List.mem_cons_of_mem _ hx))
      have h2 := Lib.itoa_length_le y (by have := hr y (List.mem_cons_self ..); unfold I64 at this; omega) (by have := hr y (List.mem_cons_self ..); unfold I64 at this; omega)
      rw [List.foldl_cons]
      simp only [List.length_append, List.length_cons] at h1 ⊢
      omega
  cases xs with
  | nil => simp [mvL]
  | cons y r =>
    have h1 := key r (Lib.itoa y) (fun x hx => h x (List.mem_cons_of_mem _ hx))
    have h2 := Lib.itoa_length_le y (by have := h y (List.mem_cons_self ..); unfold I64 at this; omega) (by have := h y (List.mem_cons_self ..); unfold I64 at this; omega)
    simp only [mvL, List.length_cons]
    omega
/-- All moves can be written. -/
def mvOk (xs : List Int) : Bool := xs.all fun x => decide (0 ≤ x) && decide (x ≤ 7)
theorem mvOk_mem {xs : List Int} (h : mvOk xs = true) {x : Int} (hx : x ∈ xs) : 0 ≤ x ∧ x ≤ 7 := by
  unfold mvOk at h
  rw [List.all_eq_true] at h
  have := h x hx
  simp only [Bool.and_eq_true, decide_eq_true_eq] at this
  exact this
theorem mvOk_no {xs : List Int} {k : Nat} {x : Int} (hx : xs[k]? = some x) (h : ¬ (0 ≤ x ∧ x ≤ 7)) : mvOk xs = false := by
  cases e : mvOk xs
  · rfl
  · exact absurd (mvOk_mem e (List.mem_of_getElem? hx)) h
theorem mvOk_snoc {xs : List Int} {k : Nat} {x : Int} (hx : xs[k]? = some x) (h : mvOk (xs.take k) = true) (h0 : 0 ≤ x ∧ x ≤ 7) : mvOk (xs.take (k + 1)) = true := by
  rw [List.take_add_one, hx]
  unfold mvOk at h ⊢
  rw [List.all_append, h]
  simp [h0.1, h0.2]
/-- Moves that have a text. -/
def mtK (xs : List Int) : Bool := mvOk xs && decide (xs.length ≤ 120)
def mtV (xs : List Int) : List UInt8 := if mtK xs then mvL xs else []
set_option maxHeartbeats 2000000 in
theorem l10Moves_any (a : Option Addr) (c n : Nat) (xs : List Int) (w : World) (hn : xs.length = n) (h : RowN w a xs) (hI : ∀ x ∈ xs, I64 x) :
    Calls Tryd.prog 14 #[.slice a n c] w fun e w' => e = .returned (.string ⟨(mvL xs).toArray⟩) ∧ Below w.heap.size w w' := by
  have hl : n ≤ 1000000000000 := by rw [← hn]; exact h.1
  have Hn := Lib.hid hn
  have H := Lib.hid h
  have HI := Lib.hid hI
  clear hn h hI
  go_enter Tryd.func14, Tryd.ntmps14
  go_wp2
  go_loopw [3, 4] (fun s i wr => ∃ k : Nat, k ≤ n ∧ i = .int .i64 k ∧ s = .string ⟨(mvL (xs.take k)).toArray⟩ ∧ Below w.heap.size w wr) (fun _ i _ => n - (intOf i).toNat)
  case atStart => exact ⟨0, Nat.zero_le _, rfl, rfl, Below.refl _ _⟩
  case round =>
    obtain ⟨k, hk, rfl, rfl, hb⟩ := hrel
    have HB := Lib.hid hb
    clear hb
    by_cases hlt : k < n
    · obtain ⟨x, hx⟩ : ∃ x, xs[k]? = some x := ⟨xs[k]'(by rw [Hn.out]; exact hlt), List.getElem?_eq_getElem _⟩
      have hne : xs ≠ [] := by intro h; subst h; cases hx
      obtain ⟨g, o, rfl, l1, x1⟩ := H.out.2.resolve_left hne
      have y1 := (HB.out.cell (p := ⟨g, o + k, none⟩) l1).trans (x1 k x hx)
      have hxI := HI.out x (List.mem_of_getElem? hx)
      have hln := mvL_len (xs := xs.take k) (fun y hy => HI.out y (List.mem_of_mem_take hy))
      rw [List.length_take] at hln
      have hdl := Lib.itoa_length_le x (by unfold I64 at hxI; omega) (by unfold I64 at hxI; omega)
      have hnext : mvL (xs.take (k + 1)) = (if xs.take k = [] then [] else mvL (xs.take k) ++ [32]) ++ Lib.itoa x := by rw [List.take_add_one, hx]; exact mvL_snoc _ _
      have HX := Lib.hid hnext
      have q0 : (0 : Int) ≤ (k : Int) := by omega
      have q1 : (k : Int) < (n : Int) := by omega
      clear x1 hx hnext
      obtain ⟨T, hT⟩ : ∃ T : ByteArray, T = ⟨(mvL (xs.take k)).toArray⟩ := ⟨_, rfl⟩
      have hTs : T.size ≤ 22000000000000 := by
        rw [hT]
        show (mvL (xs.take k)).toArray.size ≤ _
        rw [List.size_toArray]
        omega
      have HT := Lib.hid hT
      rw [← hT]
      clear hT hln
      obtain ⟨D, hD⟩ : ∃ D : ByteArray, D = ⟨(Lib.itoa x).toArray⟩ := ⟨_, rfl⟩
      have hDs : D.size ≤ 21 := by
        rw [hD]
        show (Lib.itoa x).toArray.size ≤ _
        rw [List.size_toArray]
        exact hdl
      have HD := Lib.hid hD
      clear hD hdl
      have b1 : ¬ 9223372036854775807 < T.size + 1 := by omega
      have b2 : ¬ 9223372036854775807 < T.size + 1 + D.size := by omega
      have b3 : ¬ 9223372036854775807 < T.size + D.size := by omega
      by_cases hk0 : k = 0
      · subst hk0
        rw [Nat.add_zero] at y1
        have hne2 : xs ≠ [] := hne
        clear hne
        go_wp2_with fail
        refine (dec_any x hxI _).mono ?_
        rintro e w2 ⟨rfl, hb⟩
        rw [← HD.out]
        go_wp2_with fail
        refine ⟨⟨1, by omega, rfl, ?_, HB.out.trans (hb.mono HB.out.size)⟩, by simp [intOf]; omega⟩
        rw [HT.out, HD.out, ba_app, HX.out]
        rfl
      · have q2 : (0 : Int) < (k : Int) := by omega
        clear hne
        go_wp2_with fail
        refine (dec_any x hxI _).mono ?_
        rintro e w2 ⟨rfl, hb⟩
        rw [← HD.out]
        go_wp2_with fail
        refine ⟨⟨k + 1, by omega, by go_num, ?_, HB.out.trans (hb.mono HB.out.size)⟩, by simp [intOf]; omega⟩
        have hnt : xs.take k ≠ [] := by
          intro e
          have := congrArg List.length e
          rw [List.length_take, Hn.out, List.length_nil] at this
          omega
        rw [HT.out, HD.out, show (⟨#[32]⟩ : ByteArray) = ⟨([32] : List UInt8).toArray⟩ from rfl, ba_app, ba_app, HX.out, if_neg hnt]
    · obtain rfl : k = n := by omega
      have e1 : xs.take k = xs := List.take_of_length_le (by rw [Hn.out]; exact Nat.le_refl _)
      have E1 := Lib.hid e1
      clear e1
      go_wp2
      go_ret
      exact ⟨by rw [E1.out]; rfl, HB.out⟩
set_option maxHeartbeats 2000000 in
theorem l10Ok_any (a : Option Addr) (c n : Nat) (xs : List Int) (w : World) (hn : xs.length = n) (h : RowN w a xs) :
    Calls Tryd.prog 13 #[.slice a n c] w fun e w' => e = .returned (.bool (mtK xs)) ∧ Below w.heap.size w w' := by
  have hl : n ≤ 1000000000000 := by rw [← hn]; exact h.1
  have Hn := Lib.hid hn
  have H := Lib.hid h
  clear hn h
  go_enter Tryd.func13, Tryd.ntmps13
  go_wp2
  go_loopw [3] (fun i wr => ∃ k : Nat, k ≤ n ∧ i = .int .i64 k ∧ mvOk (xs.take k) = true ∧ Below w.heap.size w wr) (fun i _ => n - (intOf i).toNat)
  case atStart => exact ⟨0, Nat.zero_le _, rfl, rfl, Below.refl _ _⟩
  case round =>
    obtain ⟨k, hk, rfl, ho, hb⟩ := hrel
    have HB := Lib.hid hb
    have HO := Lib.hid ho
    clear hb ho
    by_cases hlt : k < n
    · obtain ⟨x, hx⟩ : ∃ x, xs[k]? = some x := ⟨xs[k]'(by rw [Hn.out]; exact hlt), List.getElem?_eq_getElem _⟩
      have hne : xs ≠ [] := by intro h; subst h; cases hx
      obtain ⟨g, o, rfl, l1, x1⟩ := H.out.2.resolve_left hne
      have y1 := (HB.out.cell (p := ⟨g, o + k, none⟩) l1).trans (x1 k x hx)
      have q0 : (0 : Int) ≤ (k : Int) := by omega
      have q1 : (k : Int) < (n : Int) := by omega
      have HX := Lib.hid hx
      clear x1 hx hne
      by_cases hin : 0 ≤ x ∧ x ≤ 7
      · have Hs := Lib.hid (mvOk_snoc HX.out HO.out hin)
        have he : (decide (0 ≤ x) && decide (x ≤ 7)) = true := by simp [hin.1, hin.2]
        clear hin
        go_wp2_with (go_at_call 21; refine (in_b _ _ _ _ he _).mono ?_; rintro e w' ⟨rfl, rfl⟩)
        go_roundw
        case rel => exact ⟨k + 1, by omega, by go_num, Hs.out, HB.out⟩
        case measure => simp [intOf]; omega
      · have Hf := Lib.hid (mvOk_no HX.out hin)
        have he : (decide (0 ≤ x) && decide (x ≤ 7)) = false := by
          cases e : (decide (0 ≤ x) && decide (x ≤ 7))
          · rfl
          · simp only [Bool.and_eq_true, decide_eq_true_eq] at e
            exact absurd e hin
        clear hin
        go_wp2_with (go_at_call 21; refine (in_b _ _ _ _ he _).mono ?_; rintro e w' ⟨rfl, rfl⟩)
        go_ret
        exact ⟨by unfold mtK; rw [Hf.out]; rfl, HB.out⟩
    · obtain rfl : k = n := by omega
      have e1 : xs.take k = xs := List.take_of_length_le (by rw [Hn.out]; exact Nat.le_refl _)
      have hok : mtK xs = decide ((k : Int) ≤ 120) := by
        have := HO.out
        rw [e1] at this
        unfold mtK
        rw [this, Hn.out, Bool.true_and]
        exact decide_eq_decide.mpr (by omega)
      have Hk := Lib.hid hok
      clear e1 hok
      go_wp2
      go_ret
      exact ⟨by rw [Hk.out]; rfl, HB.out⟩
set_option maxHeartbeats 1000000 in
theorem specMt_any (a : Option Addr) (c n : Nat) (xs : List Int) (w : World) (hn : xs.length = n) (h : RowN w a xs) :
    Calls Tryd.prog 5 #[.slice a n c] w fun e w' => e = .returned (.string ⟨(mtV xs).toArray⟩) ∧ Below w.heap.size w w' := by
  have HC := Lib.hid (l10Ok_any a c n xs w hn h)
  have Hn := Lib.hid hn
  have H := Lib.hid h
  clear hn h
  by_cases hk : mtK xs = true
  · have hv : mtV xs = mvL xs := by unfold mtV; rw [hk]; rfl
    have hI : ∀ x ∈ xs, I64 x := by
      intro x hx
      unfold mtK at hk
      rw [Bool.and_eq_true] at hk
      have := mvOk_mem hk.1 hx
      unfold I64
      omega
    have HI := Lib.hid hI
    rw [hv]
    rw [hk] at HC
    clear hk hv hI
    go_enter Tryd.func5, Tryd.ntmps5
    go_wp2_with fail
    refine HC.out.mono ?_
    rintro e w1 ⟨rfl, b1⟩
    have B1 := Lib.hid b1
    clear b1
    go_wp2_with fail
    refine (l10Moves_any a c n xs _ Hn.out (H.out.below B1.out) HI.out).mono ?_
    rintro e w2 ⟨rfl, b2⟩
    have B2 := Lib.hid (B1.out.trans (b2.mono B1.out.size))
    clear b2
    go_wp2_with fail
    go_ret
    exact ⟨rfl, B2.out⟩
  · have hk' : mtK xs = false := by simpa using hk
    have hv : mtV xs = [] := by unfold mtV; rw [hk']; rfl
    rw [hv]
    rw [hk'] at HC
    clear hk hk' hv
    go_enter Tryd.func5, Tryd.ntmps5
    go_wp2_with fail
    refine HC.out.mono ?_
    rintro e w1 ⟨rfl, b1⟩
    have B1 := Lib.hid b1
    clear b1
    go_wp2_with fail
    go_ret
    exact ⟨rfl, B1.out⟩
end Go.Proofs.YtmoilphgibigkaaDoor
