/- Rows of numbers in memory, and what the laws' own functions on them do. No conditions. -/
import Derived.Test.YtmoilphgibigkaaDoorBut
import Derived.Deep.QuietTactic
import Derived.BigQuiet
import Derived.Deep.OwnRows
import Derived.OwnWalk
import Derived.LoopN
namespace Go.Proofs.YtmoilphgibigkaaDoor
open Go.Joins Go.ChangeShapes Go.WideShapes Go.ChangeAt Go.RowKit Go.Deep
set_option linter.unusedVariables false

/-- The cells behind a are these numbers. -/
def RowN (w : World) (a : Option Addr) (xs : List Int) : Prop :=
  xs.length ≤ 1000000000000 ∧ (xs = [] ∨ ∃ g o, a = some ⟨g, o, none⟩ ∧ g < w.heap.size ∧ ∀ i x, xs[i]? = some x → w.cell? ⟨g, o + i, none⟩ = some (.int .i64 x))
theorem RowN.below {w w' : World} {a : Option Addr} {xs : List Int} (h : RowN w a xs) (k : Below w.heap.size w w') : RowN w' a xs := by
  obtain ⟨hl, h | ⟨g, o, ha, hg, hx⟩⟩ := h
  · exact ⟨hl, .inl h⟩
  · refine ⟨hl, .inr ⟨g, o, ha, Nat.lt_of_lt_of_le hg k.size, fun i s hs => ?_⟩⟩
    rw [k.cell hg]
    exact hx i s hs
theorem RowN.but {w w' : World} {a : Option Addr} {xs : List Int} {b : Nat} (h : RowN w a xs) (k : But b w w') (hb : ∀ g o, a = some ⟨g, o, none⟩ → g ≠ b) : RowN w' a xs := by
  obtain ⟨hl, h | ⟨g, o, ha, hg, hx⟩⟩ := h
  · exact ⟨hl, .inl h⟩
  · refine ⟨hl, .inr ⟨g, o, ha, Nat.lt_of_lt_of_le hg k.size, fun i s hs => ?_⟩⟩
    rw [k.cell hg (hb g o ha)]
    exact hx i s hs
theorem RowN.but2 {w w' : World} {a : Option Addr} {xs : List Int} {b c : Nat} (h : RowN w a xs) (k : But2 b c w w') (hb : ∀ g o, a = some ⟨g, o, none⟩ → g ≠ b ∧ g ≠ c) : RowN w' a xs := by
  obtain ⟨hl, h | ⟨g, o, ha, hg, hx⟩⟩ := h
  · exact ⟨hl, .inl h⟩
  · refine ⟨hl, .inr ⟨g, o, ha, Nat.lt_of_lt_of_le hg k.size, fun i s hs => ?_⟩⟩
    rw [k.cell hg (hb g o ha).1 (hb g o ha).2]
    exact hx i s hs
theorem RowN.drewN {w : World} {a : Option Addr} {xs : List Int} (h : RowN w a xs) (q : Nat) : RowN (w.drewN q) a xs := h.below (below_dn (Below.refl _ _) q)
theorem RowN.alloc {w : World} {a : Option Addr} {xs : List Int} (h : RowN w a xs) (o : Obj) : RowN (w.alloc o) a xs := h.below ((Below.refl _ _).alloc (Nat.le_refl _) o)
theorem rowN_nil (w : World) (a : Option Addr) : RowN w a [] := ⟨by simp, .inl rfl⟩

/-- A row of numbers in a block b of its own, not below B; the empty row may lie nowhere. -/
structure OutN (w : World) (B : Nat) (a : Option Addr) (b : Nat) (xs : List Int) : Prop where
  row : RowN w a xs
  at_b : ∀ g o, a = some ⟨g, o, none⟩ → g = b
  new : B ≤ b
  free : xs ≠ [] → b < w.heap.size ∧ ∀ o, w.frozen? ⟨b, o, none⟩ = false
theorem OutN.below {w w' : World} {B b : Nat} {a : Option Addr} {xs : List Int} (h : OutN w B a b xs) (k : Below w.heap.size w w') : OutN w' B a b xs :=
  ⟨h.row.below k, h.at_b, h.new, fun hn => by
    obtain ⟨h1, h2⟩ := h.free hn
    exact ⟨Nat.lt_of_lt_of_le h1 k.size, fun o => by rw [k.frozen (p := ⟨b, o, none⟩) h1]; exact h2 o⟩⟩
theorem OutN.but {w w' : World} {B b c : Nat} {a : Option Addr} {xs : List Int} (h : OutN w B a b xs) (k : But c w w') (hc : b ≠ c) : OutN w' B a b xs :=
  ⟨h.row.but k (fun g o e => by rw [h.at_b g o e]; exact hc), h.at_b, h.new, fun hn => by
    obtain ⟨h1, h2⟩ := h.free hn
    exact ⟨Nat.lt_of_lt_of_le h1 k.size, fun o => by rw [k.frozen h1 hc]; exact h2 o⟩⟩
theorem OutN.but2 {w w' : World} {B b c d : Nat} {a : Option Addr} {xs : List Int} (h : OutN w B a b xs) (k : But2 c d w w') (hc : b ≠ c) (hd : b ≠ d) : OutN w' B a b xs :=
  ⟨h.row.but2 k (fun g o e => by rw [h.at_b g o e]; exact ⟨hc, hd⟩), h.at_b, h.new, fun hn => by
    obtain ⟨h1, h2⟩ := h.free hn
    exact ⟨Nat.lt_of_lt_of_le h1 k.size, fun o => by rw [k.frozen h1 hc hd]; exact h2 o⟩⟩
theorem OutN.lower {w : World} {B C b : Nat} {a : Option Addr} {xs : List Int} (h : OutN w B a b xs) (hc : C ≤ B) : OutN w C a b xs := ⟨h.row, h.at_b, Nat.le_trans hc h.new, h.free⟩
theorem OutN.drewN {w : World} {B b : Nat} {a : Option Addr} {xs : List Int} (h : OutN w B a b xs) (q : Nat) : OutN (w.drewN q) B a b xs := h.below (below_dn (Below.refl _ _) q)

theorem OutN.setCell {w : World} {B b : Nat} {a : Option Addr} {xs : List Int} (h : OutN w B a b xs) {p : Addr} (hp : b ≠ p.block) (x : Value) : OutN (w.setCell p x) B a b xs :=
  h.but ((But.refl p.block w).setCell rfl x) hp
theorem OutN.alloc {w : World} {B b : Nat} {a : Option Addr} {xs : List Int} (h : OutN w B a b xs) (o : Obj) : OutN (w.alloc o) B a b xs := h.below ((Below.refl _ _).alloc (Nat.le_refl _) o)
theorem RowN.setCell {w : World} {a : Option Addr} {xs : List Int} (h : RowN w a xs) {p : Addr} (hp : ∀ g o, a = some ⟨g, o, none⟩ → g ≠ p.block) (x : Value) : RowN (w.setCell p x) a xs :=
  h.but ((But.refl p.block w).setCell rfl x) hp
theorem RowN.lt {w : World} {a : Option Addr} {xs : List Int} (h : RowN w a xs) (hne : xs ≠ []) : ∀ g o, a = some ⟨g, o, none⟩ → g < w.heap.size := by
  obtain ⟨_, h | ⟨g, o, ha, hg, _⟩⟩ := h
  · exact absurd h hne
  · intro g' o' e
    rw [ha] at e
    cases e
    exact hg

/-- A row that lies below a block that is written. -/
theorem RowN.setNew {w u : World} {a : Option Addr} {xs : List Int} (h : RowN w a xs) (k : Below w.heap.size w u) {p : Addr} (hp : w.heap.size ≤ p.block) (x : Value) : RowN (u.setCell p x) a xs :=
  h.below (k.setCell hp x)

/-- Storing the next value of a row. -/
theorem store_next {w1 : World} {g o n j : Nat} {v : Value} {f : Nat → Value} (hj : j < n) (hv : v = f j)
    (hs : ∀ i, i < n → ∃ s, w1.cell? ⟨g, o + i, none⟩ = some s) (hm : ∀ i, i < j → w1.cell? ⟨g, o + i, none⟩ = some (f i)) (hf : ∀ i, i < n → w1.frozen? ⟨g, o + i, none⟩ = false) :
    (∀ i, i < n → ∃ s, (w1.setCell ⟨g, o + j, none⟩ v).cell? ⟨g, o + i, none⟩ = some s) ∧
    (∀ i, i < j + 1 → (w1.setCell ⟨g, o + j, none⟩ v).cell? ⟨g, o + i, none⟩ = some (f i)) ∧
    (∀ i, i < n → (w1.setCell ⟨g, o + j, none⟩ v).frozen? ⟨g, o + i, none⟩ = false) := by
  obtain ⟨s0, h0⟩ := hs j hj
  refine ⟨fun i hi => ?_, fun i hi => ?_, fun i hi => ?_⟩
  · by_cases e : i = j
    · subst e
      exact ⟨v, World.cell?_setCell_same' _ _ _ (by rw [h0]; rfl)⟩
    · obtain ⟨s, h⟩ := hs i hi
      exact ⟨s, by rw [World.cell?_setCell_other (w := w1) (a := ⟨g, o + j, none⟩) (b := ⟨g, o + i, none⟩) (h := by intro e'; first | (simp at e'; done) | (simp at e'; omega))]; exact h⟩
  · by_cases e : i = j
    · subst e
      rw [World.cell?_setCell_same' _ _ _ (by rw [h0]; rfl), hv]
    · rw [World.cell?_setCell_other (w := w1) (a := ⟨g, o + j, none⟩) (b := ⟨g, o + i, none⟩) (h := by intro e'; first | (simp at e'; done) | (simp at e'; omega))]
      exact hm i (by omega)
  · have := hf i hi
    go_simp

theorem infoN : (Tryd.prog.info? 2).map (fun i => (i.zero, i.size, i.bytes)) = some (some (.int .i64 0), 1, 8) := by kernel_rfl

/-- A new row in a block of its own. -/
def RowP (xs : List Int) (n : Nat) (w : World) (e : Ending) (w' : World) : Prop :=
  ∃ g, e = .returned (.slice (some ⟨g, 0, none⟩) n n) ∧ OutN w' w.heap.size (some ⟨g, 0, none⟩) g xs ∧ g < w'.heap.size ∧ Below w.heap.size w w'

theorem cell_made (w : World) (n i : Nat) (h : i < n) (e : TypeId) : (w.alloc (.cells (madeCells #[.int .i64 0] n) e)).cell? ⟨w.heap.size, 0 + i, none⟩ = some (.int .i64 0) := by
  rw [Nat.zero_add, World.cell?_alloc_new]
  simp [madeCells, h, Nat.mod_one]

set_option maxHeartbeats 2000000 in
theorem toRow_any (a : Option Addr) (c n : Nat) (xs : List Int) (w : World) (hn : xs.length = n) (h : RowN w a xs) :
    Calls Tryd.prog 6 #[.slice a n c] w (RowP xs n w) := by
  have hl : n ≤ 1000000000000 := by rw [← hn]; exact h.1
  have Hn := Lib.hid hn
  have H := Lib.hid h
  clear hn h
  have hmk := run_make_row' (P := Tryd.prog) 22 2 (.int .i64 0) 8 Tryd.underlying22 infoN rfl .i64 .i64 n (by omega) (by omega)
  go_enter Tryd.func6, Tryd.ntmps6
  go_wp2
  clear hmk
  go_loopw [4] (fun i wr => ∃ k : Nat, k ≤ n ∧ i = .int .i64 k ∧ Below w.heap.size w wr ∧ w.heap.size < wr.heap.size ∧ (∀ i, i < n → ∃ s, wr.cell? ⟨w.heap.size, 0 + i, none⟩ = some s) ∧ (∀ i, i < k → wr.cell? ⟨w.heap.size, 0 + i, none⟩ = some (.int .i64 (xs.getD i 0))) ∧ (∀ o, wr.frozen? ⟨w.heap.size, o, none⟩ = false)) (fun i _ => n - (intOf i).toNat)
  case atStart =>
    exact ⟨0, Nat.zero_le _, rfl, (Below.refl _ _).alloc (Nat.le_refl _) _, by simp, fun i hi => ⟨_, cell_made w n i hi _⟩, fun i hi => absurd hi (by omega), fun o => by go_simp⟩
  case round =>
    obtain ⟨k, hk, rfl, hb, hz, hs, hm, hf⟩ := hrel
    have HB := Lib.hid hb
    have Hs := Lib.hid hs
    have Hm := Lib.hid hm
    have Hf := Lib.hid hf
    clear hb hs hm hf
    by_cases hlt : k < n
    · have hne : xs ≠ [] := by intro e; have := Hn.out; subst e; simp at this; omega
      obtain ⟨g, o, rfl, hg, hx⟩ := H.out.2.resolve_left hne
      have hkx : xs[k]? = some (xs.getD k 0) := by
        have hkl : k < xs.length := by rw [Hn.out]; exact hlt
        simp [List.getD, List.getElem?_eq_getElem hkl]
      obtain ⟨x, hxx⟩ : ∃ x, xs.getD k 0 = x := ⟨_, rfl⟩
      have y := hx k _ hkx
      rw [hxx] at y
      have yr : wr.cell? ⟨g, o + k, none⟩ = some (.int .i64 x) := by rw [HB.out.cell hg]; exact y
      obtain ⟨s0, y0⟩ := Hs.out k hlt
      rw [Nat.zero_add] at y0
      have f0 := Hf.out k
      obtain ⟨r1, r2, -⟩ := store_next (v := .int .i64 x) (f := fun i => .int .i64 (xs.getD i 0)) hlt (by simp only [hxx]) Hs.out Hm.out (fun i _ => Hf.out (0 + i))
      rw [Nat.zero_add] at r1 r2
      have r3 : ∀ p, (wr.setCell ⟨w.heap.size, k, none⟩ (.int .i64 x)).frozen? ⟨w.heap.size, p, none⟩ = false := fun p => by
        have := Hf.out p
        go_simp
      have R1 := Lib.hid r1
      have R2 := Lib.hid r2
      have R3 := Lib.hid r3
      have q0 : (0 : Int) ≤ (k : Int) := by omega
      have q1 : (k : Int) < (n : Int) := by omega
      clear hx hkx hne y r1 r2 r3 hxx
      go_wp2
      go_roundw
      case rel => exact ⟨k + 1, by omega, by go_num, HB.out.setCell (p := ⟨w.heap.size, k, none⟩) (Nat.le_refl _) _, by simpa using hz, R1.out, R2.out, R3.out⟩
      case measure => simp [intOf]; omega
    · obtain rfl : k = n := by omega
      go_wp2
      go_ret
      refine ⟨_, rfl, ⟨⟨by rw [Hn.out]; exact hl, .inr ⟨w.heap.size, 0, rfl, hz, fun i x hi => ?_⟩⟩, fun g o e => by cases e; rfl, Nat.le_refl _, fun _ => ⟨hz, Hf.out⟩⟩, hz, HB.out⟩
      have hlt : i < xs.length := (List.getElem?_eq_some_iff.1 hi).1
      rw [Hm.out i (by rw [← Hn.out]; exact hlt)]
      simp [List.getD, hi]
set_option maxHeartbeats 2000000 in
theorem eqN_same (a1 a2 : Option Addr) (c1 c2 n : Nat) (xs : List Int) (w : World) (hn : xs.length = n) (h1 : RowN w a1 xs) (h2 : RowN w a2 xs) :
    Calls Tryd.prog 8 #[.slice a1 n c1, .slice a2 n c2] w fun e w' => e = .returned (.bool true) ∧ Below w.heap.size w w' := by
  have hl : n ≤ 1000000000000 := by rw [← hn]; exact h1.1
  have Hn := Lib.hid hn
  have H1 := Lib.hid h1
  have H2 := Lib.hid h2
  clear hn h1 h2
  go_enter Tryd.func8, Tryd.ntmps8
  go_wp2
  go_loopw [5] (fun i wr => ∃ k m : Nat, k ≤ n ∧ i = .int .i64 k ∧ wr = w.drewN m) (fun i _ => n - (intOf i).toNat)
  case atStart => exact ⟨0, 0, Nat.zero_le _, rfl, rfl⟩
  case round =>
    obtain ⟨k, m, hk, rfl, rfl⟩ := hrel
    by_cases hlt : k < n
    · obtain ⟨s, hs⟩ : ∃ s, xs[k]? = some s := ⟨xs[k]'(by rw [Hn.out]; exact hlt), List.getElem?_eq_getElem _⟩
      have hne : xs ≠ [] := by intro h; subst h; cases hs
      obtain ⟨g1, o1, rfl, l1, x1⟩ := H1.out.2.resolve_left hne
      obtain ⟨g2, o2, rfl, l2, x2⟩ := H2.out.2.resolve_left hne
      have y1 := x1 k s hs
      have y2 := x2 k s hs
      have q0 : (0 : Int) ≤ (k : Int) := by omega
      have q1 : (k : Int) < (n : Int) := by omega
      clear x1 x2 hs hne
      go_wp2_with fail
      go_quiet (fail)
      go_wp2_with fail
      go_roundw
      case rel => exact ⟨k + 1, _, by omega, by go_num, rfl⟩
      case measure => simp [intOf]; omega
    · go_wp2
      go_ret
      exact ⟨rfl, below_dn (Below.refl _ _) _⟩

/-- The marks from k on. -/
def marksN (k n : Nat) : List Int := (List.range n).map fun i => ((k + i : Nat) : Int)
theorem marksN_len (k n : Nat) : (marksN k n).length = n := by simp [marksN]
theorem marksN_at (k n i : Nat) (h : i < n) : (marksN k n)[i]? = some ((k + i : Nat) : Int) := by simp [marksN, h]
/-- What writing the marks leaves. -/
def MarkN (B b : Nat) (a : Option Addr) (n k : Nat) (w : World) (e : Ending) (w' : World) : Prop :=
  e = .returned (.int .i64 ((k + n : Nat) : Int)) ∧ But b w w' ∧ OutN w' B a b (marksN k n)
set_option maxHeartbeats 2000000 in
theorem marksN_any (B b : Nat) (a : Option Addr) (c n k : Nat) (xs : List Int) (w : World) (hn : xs.length = n) (h : OutN w B a b xs) (hk2 : k ≤ 1000000000000) :
    Calls Tryd.prog 11 #[.slice a n c, .int .i64 k] w (MarkN B b a n k w) := by
  have hl : n ≤ 1000000000000 := by rw [← hn]; exact h.row.1
  by_cases h0 : n = 0
  · subst h0
    have Hab := Lib.hid (And.intro h.at_b h.new)
    clear hn h
    go_enter Tryd.func11, Tryd.ntmps11
    go_wp2
    refine wp_loop_rounds 1 ?_
    rw [rounds_succ]
    go_wp2
    go_ret
    exact ⟨rfl, But.refl _ _, ⟨rowN_nil _ _, Hab.out.1, Hab.out.2, fun h => absurd rfl h⟩⟩
  · have hne : xs ≠ [] := by intro e; subst e; exact h0 hn.symm
    obtain ⟨hbl, fr⟩ := h.free hne
    obtain ⟨g, o, rfl, hg, hx⟩ := h.row.2.resolve_left hne
    obtain rfl := h.at_b g o rfl
    have hs0 : ∀ i, i < n → ∃ s, w.cell? ⟨g, o + i, none⟩ = some s := fun i hi => ⟨_, hx i (xs[i]'(by omega)) (List.getElem?_eq_getElem _)⟩
    have Hab := Lib.hid (And.intro h.at_b h.new)
    have hf0 := fr
    have Hs0 := Lib.hid hs0
    have Hf0 := Lib.hid hf0
    have Hx := Lib.hid hx
    have Hn := Lib.hid hn
    clear hn h fr hx hne hs0 hf0
    go_enter Tryd.func11, Tryd.ntmps11
    go_wp2
    go_loopw [1, 5] (fun q i wr => ∃ j : Nat, j ≤ n ∧ i = .int .i64 j ∧ q = .int .i64 ((k + j : Nat) : Int) ∧ But g w wr ∧ (∀ i, i < n → ∃ s, wr.cell? ⟨g, o + i, none⟩ = some s) ∧ (∀ i, i < j → wr.cell? ⟨g, o + i, none⟩ = some (.int .i64 ((k + i : Nat) : Int))) ∧ (∀ p, wr.frozen? ⟨g, p, none⟩ = false)) (fun _ i _ => n - (intOf i).toNat)
    case atStart => exact ⟨0, Nat.zero_le _, rfl, rfl, But.refl _ _, Hs0.out, fun i hi => absurd hi (by omega), Hf0.out⟩
    case round =>
      obtain ⟨j, hj, rfl, rfl, hbut, hs, hm, hf⟩ := hrel
      have HB := Lib.hid hbut
      have Hs := Lib.hid hs
      have Hm := Lib.hid hm
      have Hf := Lib.hid hf
      have hgr : g < wr.heap.size := Nat.lt_of_lt_of_le hg hbut.size
      clear hbut hs hm hf
      by_cases hlt : j < n
      · have q0 : (0 : Int) ≤ (j : Int) := by omega
        have q1 : (j : Int) < (n : Int) := by omega
        obtain ⟨s0, y0⟩ := Hs.out j hlt
        have f0 := Hf.out (o + j)
        obtain ⟨r1, r2, -⟩ := store_next (v := .int .i64 ((k + j : Nat) : Int)) (f := fun i => .int .i64 ((k + i : Nat) : Int)) hlt rfl Hs.out Hm.out (fun i _ => Hf.out (o + i))
        have r3 : ∀ p, (wr.setCell ⟨g, o + j, none⟩ (.int .i64 ((k + j : Nat) : Int))).frozen? ⟨g, p, none⟩ = false := fun p => by
          have := Hf.out p
          go_simp
        have R1 := Lib.hid r1
        have R2 := Lib.hid r2
        have R3 := Lib.hid r3
        clear r1 r2 r3
        go_wp2_with fail
        go_roundw
        case rel => exact ⟨j + 1, by omega, by go_num, by go_num, HB.out.setCell (p := ⟨g, o + j, none⟩) rfl _, R1.out, R2.out, R3.out⟩
        case measure => simp [intOf]; omega
      · obtain rfl : j = n := by omega
        go_wp2
        go_ret
        refine ⟨rfl, HB.out, ⟨⟨by rw [marksN_len]; exact hl, .inr ⟨g, o, rfl, hgr, fun i x hi => ?_⟩⟩, Hab.out.1, Hab.out.2, fun _ => ⟨hgr, Hf.out⟩⟩⟩
        have hi2 : i < j := by
          have := (List.getElem?_eq_some_iff.1 hi).1
          rwa [marksN_len] at this
        rw [marksN_at k j i hi2] at hi
        cases hi
        exact Hm.out i hi2

set_option maxHeartbeats 2000000 in
theorem heldN_any (a : Option Addr) (c n k : Nat) (w : World) (h : RowN w a (marksN k n)) (hk2 : k ≤ 1000000000000) :
    Calls Tryd.prog 12 #[.slice a n c, .int .i64 k] w fun e w' => e = .returned (.int .i64 ((k + n : Nat) : Int)) ∧ Below w.heap.size w w' := by
  have hl : n ≤ 1000000000000 := by have := h.1; rwa [marksN_len] at this
  have Hh := Lib.hid h
  clear h
  go_enter Tryd.func12, Tryd.ntmps12
  go_wp2
  go_loopw [1, 5] (fun q i wr => ∃ j : Nat, j ≤ n ∧ i = .int .i64 j ∧ q = .int .i64 ((k + j : Nat) : Int) ∧ Below w.heap.size w wr) (fun _ i _ => n - (intOf i).toNat)
  case atStart => exact ⟨0, Nat.zero_le _, rfl, rfl, Below.refl _ _⟩
  case round =>
    obtain ⟨j, hj, rfl, rfl, hbl⟩ := hrel
    have HB := Lib.hid hbl
    clear hbl
    by_cases hlt : j < n
    · have hne : marksN k n ≠ [] := by
        intro e
        have := marksN_len k n
        rw [e] at this
        simp at this
        omega
      obtain ⟨g, o, rfl, hg, hx⟩ := Hh.out.2.resolve_left hne
      have y := hx j _ (marksN_at k n j hlt)
      have yr : wr.cell? ⟨g, o + j, none⟩ = some (.int .i64 ((k + j : Nat) : Int)) := by rw [HB.out.cell hg]; exact y
      clear hx y hne
      have q0 : (0 : Int) ≤ (j : Int) := by omega
      have q1 : (j : Int) < (n : Int) := by omega
      go_wp2_with fail
      go_roundw
      case rel => exact ⟨j + 1, by omega, by go_num, by go_num, HB.out⟩
      case measure => simp [intOf]; omega
    · obtain rfl : j = n := by omega
      go_wp2
      go_ret
      exact ⟨rfl, HB.out⟩
end Go.Proofs.YtmoilphgibigkaaDoor
