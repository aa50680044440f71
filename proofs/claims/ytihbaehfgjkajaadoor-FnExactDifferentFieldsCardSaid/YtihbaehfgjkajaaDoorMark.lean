/- What the laws' own functions on slices of texts do: comparing equal ones, writing marks, and looking for marks. No conditions. -/
import Derived.Test.YtihbaehfgjkajaaDoorSrc
import Derived.Test.YtihbaehfgjkajaaDoorDecR
import Derived.Deep.RegionWith
import Derived.WalkLawsBesides
import Derived.LoopN
namespace Go.Proofs.YtihbaehfgjkajaaDoor
open Go.Joins Go.ChangeShapes Go.WideShapes Go.ChangeAt Go.RowKit Go.Deep
set_option linter.unusedVariables false

/-- The cells behind a are these texts. -/
def RowS (w : World) (a : Option Addr) (xs : List ByteArray) : Prop :=
  xs.length ≤ 1000000000000 ∧ (xs = [] ∨ ∃ g o, a = some ⟨g, o, none⟩ ∧ g < w.heap.size ∧ ∀ i s, xs[i]? = some s → w.cell? ⟨g, o + i, none⟩ = some (.string s))
theorem RowS.below {w w' : World} {a : Option Addr} {xs : List ByteArray} (h : RowS w a xs) (k : Below w.heap.size w w') : RowS w' a xs := by
  obtain ⟨hl, h | ⟨g, o, ha, hg, hx⟩⟩ := h
  · exact ⟨hl, .inl h⟩
  · refine ⟨hl, .inr ⟨g, o, ha, Nat.lt_of_lt_of_le hg k.size, fun i s hs => ?_⟩⟩
    rw [k.cell hg]
    exact hx i s hs
theorem RowS.but {w w' : World} {a : Option Addr} {xs : List ByteArray} {b : Nat} (h : RowS w a xs) (k : But b w w') (hb : ∀ g o, a = some ⟨g, o, none⟩ → g ≠ b) : RowS w' a xs := by
  obtain ⟨hl, h | ⟨g, o, ha, hg, hx⟩⟩ := h
  · exact ⟨hl, .inl h⟩
  · refine ⟨hl, .inr ⟨g, o, ha, Nat.lt_of_lt_of_le hg k.size, fun i s hs => ?_⟩⟩
    rw [k.cell hg (hb g o ha)]
    exact hx i s hs

/-- A draw changes nothing below. -/
theorem below_drewN' {B : Nat} {a w : World} (h : Below B a w) (q : Nat) : Below B a (w.drewN q) := ⟨h.os, h.tape, h.output, h.size, h.block⟩

set_option maxHeartbeats 2000000 in
theorem eq_same (a1 a2 : Option Addr) (c1 c2 n : Nat) (xs : List ByteArray) (w : World) (hn : xs.length = n) (h1 : RowS w a1 xs) (h2 : RowS w a2 xs) :
    Calls Tryd.prog 24 #[.slice a1 n c1, .slice a2 n c2] w fun e w' => e = .returned (.bool true) ∧ Below w.heap.size w w' := by
  have hl : n ≤ 1000000000000 := by rw [← hn]; exact h1.1
  have Hn := Lib.hid hn
  have H1 := Lib.hid h1
  have H2 := Lib.hid h2
  clear hn h1 h2
  go_enter Tryd.func24, Tryd.ntmps24
  go_wp2
  go_loopw [5] (fun i wr => ∃ k m : Nat, k ≤ n ∧ i = .int .i64 k ∧ wr = w.drewN m) (fun i _ => n - (intOf i).toNat)
  case atStart => exact ⟨0, 0, Nat.zero_le _, rfl, rfl⟩
  case round =>
    obtain ⟨k, m, hk, rfl, rfl⟩ := hrel
    by_cases hlt : k < n
    · obtain ⟨s, hs⟩ : ∃ s, xs[k]? = some s := ⟨xs[k]'(by rw [Hn.out]; exact hlt), List.getElem?_eq_getElem _⟩
      have hne : xs ≠ [] := by intro h; subst h; cases hs
      obtain ⟨g1, o1, rfl, l1, x1⟩ := H1.out.2.resolve_left hne
      obtain ⟨g2, o2, rfl, l2, x2⟩ := H2.out.2.resolve_left hne
      have y1 := x1 k s hs
      have y2 := x2 k s hs
      have q0 : (0 : Int) ≤ (k : Int) := by omega
      have q1 : (k : Int) < (n : Int) := by omega
      clear x1 x2 hs hne
      go_wp2_with fail
      go_quiet (fail)
      go_wp2_with fail
      go_roundw
      case rel => exact ⟨k + 1, _, by omega, by go_num, rfl⟩
      case measure => simp [intOf]; omega
    · go_wp2
      go_ret
      exact ⟨rfl, below_drewN' (Below.refl _ _) _⟩

/-- The mark with a number. -/
def mk (k : Nat) : ByteArray := ⟨(109 :: Lib.decDigits k).toArray⟩
theorem cat1 (d : UInt8) (b : List UInt8) : (({ data := #[d] } : ByteArray) ++ { data := b.toArray }) = { data := (d :: b).toArray } := by
  apply ByteArray.ext
  simp
theorem conv1 (w : World) (K : Nat) : (convert 22 9 (.slice (some ⟨w.heap.size, 0, none⟩) 1 1)).run Tryd.prog (w.alloc (.cells #[.int .u8 (48 + (K : Int) % 10)] 5)) =
    .ok (.string { data := #[UInt8.ofNat (48 + K % 10)] }) (w.alloc (.cells #[.int .u8 (48 + (K : Int) % 10)] 5)) := by
  have h := run_convert_bytes_back (P := Tryd.prog) (w.alloc (.cells #[.int .u8 (48 + (K : Int) % 10)] 5)) 22 9 5 ⟨w.heap.size, 0, none⟩ 1 [UInt8.ofNat (48 + K % 10)] Tryd.underlying22 Tryd.underlying5 Tryd.underlying9 (fun j hj => by
    obtain rfl : j = 0 := by simp at hj; omega
    have e : ((⟨w.heap.size, 0, none⟩ : Addr).add 0) = ⟨w.heap.size, 0, none⟩ := by simp [Addr.add]
    rw [e, World.cell?_alloc_new]
    have := ofNat_digit K
    simp
    simp at this
    omega)
  exact h
set_option maxHeartbeats 2000000 in
theorem mark_any (n : Nat) (hn : 1 ≤ n) (hn2 : n ≤ 4000000000000) (w : World) :
    Calls Tryd.prog 52 #[.int .i64 n] w fun e w' => e = .returned (.string (mk n)) ∧ Below w.heap.size w w' := by
  go_enter Tryd.func52, Tryd.ntmps52
  go_wp2
  go_loopw [3, 0] (fun v k wr => ∃ (K : Nat) (ds : List UInt8), k = .int .i64 K ∧ v = .string ⟨ds.toArray⟩ ∧ Below w.heap.size w wr ∧ DecR n K ds ∧ ds.length ≤ 20 ∧ K ≤ n) (fun _ k _ => (intOf k).toNat)
  case atStart => exact ⟨n, [], rfl, rfl, Below.refl _ _, dec_start n, by decide, Nat.le_refl _⟩
  case round =>
    obtain ⟨K, ds, rfl, rfl, hbl, hd, hl, hKn⟩ := hrel
    have HB := Lib.hid hbl
    have HD := Lib.hid hd
    by_cases h0 : 0 < K
    · have hlen := dec_len hd (by omega) (by omega)
      clear hbl hd
      have hK : (0 : Int) < (K : Int) := by omega
      have hK2 : (K : Int) ≤ 4000000000000 := by omega
      have hcv := conv1 wr K
      obtain ⟨d, hdd⟩ : ∃ d, UInt8.ofNat (48 + K % 10) = d := ⟨_, rfl⟩
      rw [hdd] at hcv
      have Hd := Lib.hid hdd
      clear hdd
      go_wp2
      go_roundw
      case rel => exact ⟨K / 10, d :: ds, by go_num, congrArg Value.string (cat1 _ _), HB.out.alloc HB.out.size _, (by rw [← Hd.out]; exact dec_step (K := (K : Int)) (K' := ((K / 10 : Nat) : Int)) HD.out (by omega) (by omega) (by omega) (by omega)), by rw [List.length_cons]; omega, by omega⟩
      case measure => simp [intOf]; omega
    · obtain rfl : K = 0 := by omega
      rcases dec_end hd with ⟨h, _⟩ | ⟨hp, he, hne⟩ | ⟨hp, _, _⟩
      · omega
      · have He := Lib.hid he
        clear hbl hd he
        go_wp2
        go_ret
        refine ⟨?_, HB.out⟩
        have e : mk n = { data := (109 :: ds).toArray } := by
          rw [He.out]
          unfold mk Lib.itoa
          rw [if_neg (by omega)]
          simp
        rw [e]
        exact congrArg (fun x => Ending.returned (Value.string x)) (cat1 109 ds)
      · omega

/-- The marks from k on. -/
def marks (k n : Nat) : List ByteArray := (List.range n).map fun i => mk (k + i)
theorem marks_len (k n : Nat) : (marks k n).length = n := by simp [marks]
theorem marks_at (k n i : Nat) (h : i < n) : (marks k n)[i]? = some (mk (k + i)) := by simp [marks, h]
theorem row_marks {w : World} {g o n k : Nat} (hg : g < w.heap.size) (hn : n ≤ 1000000000000) (h : ∀ i, i < n → w.cell? ⟨g, o + i, none⟩ = some (.string (mk (k + i)))) : RowS w (some ⟨g, o, none⟩) (marks k n) := by
  refine ⟨by rw [marks_len]; exact hn, .inr ⟨g, o, rfl, hg, fun i s hs => ?_⟩⟩
  have hi : i < n := by
    have := (List.getElem?_eq_some_iff.1 hs).1
    rwa [marks_len] at this
  rw [marks_at k n i hi] at hs
  cases hs
  exact h i hi

/-- What writing the marks leaves. -/
def MarkP (b : Nat) (a : Option Addr) (n k : Nat) (w : World) (e : Ending) (w' : World) : Prop :=
  e = .returned (.int .i64 ((k + n : Nat) : Int)) ∧ But b w w' ∧ RowS w' a (marks k n)
theorem mark_step {w1 : World} {g o n j : Nat} {v : ByteArray} {k : Nat} (hj : j < n) (hv : v = mk (k + j))
    (hs : ∀ i, i < n → ∃ s, w1.cell? ⟨g, o + i, none⟩ = some (.string s)) (hm : ∀ i, i < j → w1.cell? ⟨g, o + i, none⟩ = some (.string (mk (k + i)))) (hf : ∀ i, i < n → w1.frozen? ⟨g, o + i, none⟩ = false) :
    (∀ i, i < n → ∃ s, (w1.setCell ⟨g, o + j, none⟩ (.string v)).cell? ⟨g, o + i, none⟩ = some (.string s)) ∧
    (∀ i, i < j + 1 → (w1.setCell ⟨g, o + j, none⟩ (.string v)).cell? ⟨g, o + i, none⟩ = some (.string (mk (k + i)))) ∧
    (∀ i, i < n → (w1.setCell ⟨g, o + j, none⟩ (.string v)).frozen? ⟨g, o + i, none⟩ = false) := by
  obtain ⟨s0, h0⟩ := hs j hj
  refine ⟨fun i hi => ?_, fun i hi => ?_, fun i hi => ?_⟩
  · by_cases e : i = j
    · subst e
      exact ⟨v, World.cell?_setCell_same' _ _ _ (by rw [h0]; rfl)⟩
    · obtain ⟨s, h⟩ := hs i hi
      exact ⟨s, by rw [World.cell?_setCell_other (w := w1) (a := ⟨g, o + j, none⟩) (b := ⟨g, o + i, none⟩) (h := by intro e'; first | (simp at e'; done) | (simp at e'; omega))]; exact h⟩
  · by_cases e : i = j
    · subst e
      rw [World.cell?_setCell_same' _ _ _ (by rw [h0]; rfl), hv]
    · rw [World.cell?_setCell_other (w := w1) (a := ⟨g, o + j, none⟩) (b := ⟨g, o + i, none⟩) (h := by intro e'; first | (simp at e'; done) | (simp at e'; omega))]
      exact hm i (by omega)
  · have := hf i hi
    go_simp

set_option maxHeartbeats 2000000 in
theorem marks_any (b : Nat) (a : Option Addr) (c n k : Nat) (xs : List ByteArray) (w : World) (hn : xs.length = n) (h : RowS w a xs) (hb : ∀ g o, a = some ⟨g, o, none⟩ → g = b) (fr : ∀ o, w.frozen? ⟨b, o, none⟩ = false) (hk : 1 ≤ k) (hk2 : k ≤ 1000000000000) :
    Calls Tryd.prog 25 #[.slice a n c, .int .i64 k] w (MarkP b a n k w) := by
  have hl : n ≤ 1000000000000 := by rw [← hn]; exact h.1
  by_cases h0 : n = 0
  · subst h0
    have hr : RowS w a (marks k 0) := ⟨by simp [marks], .inl (by simp [marks])⟩
    have Hr := Lib.hid hr
    clear hn h hb fr hr
    go_enter Tryd.func25, Tryd.ntmps25
    go_wp2
    refine wp_loop_rounds 1 ?_
    rw [rounds_succ]
    go_wp2
    go_ret
    exact ⟨rfl, But.refl _ _, Hr.out⟩
  · have hne : xs ≠ [] := by intro e; subst e; exact h0 hn.symm
    obtain ⟨g, o, rfl, hg, hx⟩ := h.2.resolve_left hne
    obtain rfl := hb g o rfl
    have hs0 : ∀ i, i < n → ∃ s, w.cell? ⟨g, o + i, none⟩ = some (.string s) := fun i hi => ⟨xs[i]'(by omega), hx i _ (List.getElem?_eq_getElem _)⟩
    have hf0 : ∀ i, i < n → w.frozen? ⟨g, o + i, none⟩ = false := fun i _ => fr (o + i)
    have Hs0 := Lib.hid hs0
    have Hf0 := Lib.hid hf0
    clear hn h hb fr hx hne hs0 hf0
    go_enter Tryd.func25, Tryd.ntmps25
    go_wp2
    go_loopw [1, 5] (fun q i wr => ∃ j : Nat, j ≤ n ∧ i = .int .i64 j ∧ q = .int .i64 ((k + j : Nat) : Int) ∧ But g w wr ∧ (∀ i, i < n → ∃ s, wr.cell? ⟨g, o + i, none⟩ = some (.string s)) ∧ (∀ i, i < j → wr.cell? ⟨g, o + i, none⟩ = some (.string (mk (k + i)))) ∧ (∀ i, i < n → wr.frozen? ⟨g, o + i, none⟩ = false)) (fun _ i _ => n - (intOf i).toNat)
    case atStart => exact ⟨0, Nat.zero_le _, rfl, rfl, But.refl _ _, Hs0.out, fun i hi => absurd hi (by omega), Hf0.out⟩
    case round =>
      obtain ⟨j, hj, rfl, rfl, hbut, hs, hm, hf⟩ := hrel
      have HB := Lib.hid hbut
      have Hs := Lib.hid hs
      have Hm := Lib.hid hm
      have Hf := Lib.hid hf
      have hgr : g < wr.heap.size := Nat.lt_of_lt_of_le hg hbut.size
      clear hbut hs hm hf
      by_cases hlt : j < n
      · have q0 : (0 : Int) ≤ (j : Int) := by omega
        have q1 : (j : Int) < (n : Int) := by omega
        go_wp2_with fail
        refine (mark_any (k + j) (by omega) (by omega) _).mono ?_
        rintro e w1 ⟨rfl, hb1⟩
        obtain ⟨v, hv⟩ : ∃ v, mk (k + j) = v := ⟨_, rfl⟩
        rw [hv]
        have HBt : But g w w1 := HB.out.trans (But.of_below hb1)
        have hs1 : ∀ i, i < n → ∃ s, w1.cell? ⟨g, o + i, none⟩ = some (.string s) := fun i hi => by
          obtain ⟨s, h⟩ := Hs.out i hi
          exact ⟨s, by rw [hb1.cell hgr]; exact h⟩
        have hm1 : ∀ i, i < j → w1.cell? ⟨g, o + i, none⟩ = some (.string (mk (k + i))) := fun i hi => by
          rw [hb1.cell hgr]; exact Hm.out i hi
        have hf1 : ∀ i, i < n → w1.frozen? ⟨g, o + i, none⟩ = false := fun i hi => by
          rw [hb1.frozen hgr]; exact Hf.out i hi
        obtain ⟨s0, y0⟩ := hs1 j hlt
        have f0 := hf1 j hlt
        obtain ⟨r1, r2, r3⟩ := mark_step (k := k) hlt hv.symm hs1 hm1 hf1
        have R1 := Lib.hid r1
        have R2 := Lib.hid r2
        have R3 := Lib.hid r3
        clear hs1 hm1 hf1 r1 r2 r3 hv
        go_wp2_with fail
        go_roundw
        case rel => exact ⟨j + 1, by omega, by go_num, by go_num, HBt.setCell (p := ⟨g, o + j, none⟩) rfl _, R1.out, R2.out, R3.out⟩
        case measure => simp [intOf]; omega
      · obtain rfl : j = n := by omega
        go_wp2
        go_ret
        exact ⟨rfl, HB.out, row_marks hgr hl Hm.out⟩

/-- The same, where an empty row lies nowhere. -/
theorem marks_opt (b : Nat) (a : Option Addr) (c n k : Nat) (xs : List ByteArray) (w : World) (hn : xs.length = n) (h : RowS w a xs) (hb : ∀ g o, a = some ⟨g, o, none⟩ → g = b) (fr : n ≠ 0 → ∀ o, w.frozen? ⟨b, o, none⟩ = false) (hk : 1 ≤ k) (hk2 : k ≤ 1000000000000) :
    Calls Tryd.prog 25 #[.slice a n c, .int .i64 k] w (MarkP b a n k w) := by
  by_cases h0 : n = 0
  · subst h0
    have hr : RowS w a (marks k 0) := ⟨by simp [marks], .inl (by simp [marks])⟩
    have Hr := Lib.hid hr
    clear hn h hb fr hr
    go_enter Tryd.func25, Tryd.ntmps25
    go_wp2
    refine wp_loop_rounds 1 ?_
    rw [rounds_succ]
    go_wp2
    go_ret
    exact ⟨rfl, But.refl _ _, Hr.out⟩
  · exact marks_any b a c n k xs w hn h hb (fr h0) hk hk2

set_option maxHeartbeats 4000000 in
theorem held_any (a : Option Addr) (c n k : Nat) (w : World) (h : RowS w a (marks k n)) (hk : 1 ≤ k) (hk2 : k ≤ 1000000000000) :
    Calls Tryd.prog 26 #[.slice a n c, .int .i64 k] w fun e w' => e = .returned (.int .i64 ((k + n : Nat) : Int)) ∧ Below w.heap.size w w' := by
  have hl : n ≤ 1000000000000 := by have := h.1; rwa [marks_len] at this
  have Hh := Lib.hid h
  clear h
  go_enter Tryd.func26, Tryd.ntmps26
  go_wp2
  go_loopw [1, 5] (fun q i wr => ∃ j : Nat, j ≤ n ∧ i = .int .i64 j ∧ q = .int .i64 ((k + j : Nat) : Int) ∧ Below w.heap.size w wr) (fun _ i _ => n - (intOf i).toNat)
  case atStart => exact ⟨0, Nat.zero_le _, rfl, rfl, Below.refl _ _⟩
  case round =>
    obtain ⟨j, hj, rfl, rfl, hbl⟩ := hrel
    have HB := Lib.hid hbl
    clear hbl
    by_cases hlt : j < n
    · have hne : marks k n ≠ [] := by
        intro e
        have := marks_len k n
        rw [e] at this
        simp at this
        omega
      obtain ⟨g, o, rfl, hg, hx⟩ := Hh.out.2.resolve_left hne
      have y := hx j _ (marks_at k n j hlt)
      have yr : wr.cell? ⟨g, o + j, none⟩ = some (.string (mk (k + j))) := by rw [HB.out.cell hg]; exact y
      have hgr : g < wr.heap.size := Nat.lt_of_lt_of_le hg HB.out.size
      obtain ⟨v, hv⟩ : ∃ v, mk (k + j) = v := ⟨_, rfl⟩
      rw [hv] at yr
      have Hv := Lib.hid hv
      clear hx y hv hne
      have q0 : (0 : Int) ≤ (j : Int) := by omega
      have q1 : (j : Int) < (n : Int) := by omega
      go_wp2_with fail
      go_region_with ((go_at_call 52; refine (mark_any (k + j) (by omega) (by omega) _).mono ?_; rintro e w1 ⟨rfl, hb1⟩; rw [Hv.out]; obtain ⟨hc1, hf1⟩ := bcell hb1; have hx1 := fun o' => hc1 g o' (by first | exact hgr | (simp; exact hgr))))
      all_goals
        go_wp2
        go_roundw
        case rel => exact ⟨j + 1, by omega, by go_num, by go_num, (by first | exact HB.out.drew.trans (hb1.mono HB.out.size) | exact (HB.out.drew.trans (hb1.mono HB.out.size)).drew | exact HB.out.trans (hb1.mono HB.out.size))⟩
        case measure => simp [intOf]; omega
    · obtain rfl : j = n := by omega
      go_wp2
      go_ret
      exact ⟨rfl, HB.out⟩
end Go.Proofs.YtihbaehfgjkajaaDoor
