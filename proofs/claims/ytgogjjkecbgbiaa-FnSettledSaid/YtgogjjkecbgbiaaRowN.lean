/- Rows of numbers in memory, and what the laws' own functions on them do. No conditions. -/
import Derived.Test.YtgogjjkecbgbiaaBut
import Derived.Deep.QuietTactic
import Derived.BigQuiet
import Derived.Deep.OwnRows
import Derived.OwnWalk
import Derived.LoopN
namespace Go.Proofs.Ytgogjjkecbgbiaa
open Go.Joins Go.ChangeShapes Go.WideShapes Go.ChangeAt Go.RowKit Go.Deep
set_option linter.unusedVariables false

/-- The cells behind a are these numbers. -/
def RowN (w : World) (a : Option Addr) (xs : List Int) : Prop :=
  xs.length ≤ 1000000000000 ∧ (xs = [] ∨ ∃ g o, a = some ⟨g, o, none⟩ ∧ g < w.heap.size ∧ ∀ i x, xs[i]? = some x → w.cell? ⟨g, o + i, none⟩ = some (.int .i64 x))
theorem RowN.below {w w' : World} {a : Option Addr} {xs : List Int} (h : RowN w a xs) (k : Below w.heap.size w w') : RowN w' a xs := by
  obtain ⟨hl, h | ⟨g, o, ha, hg, hx⟩⟩ := h
  · exact ⟨hl, .inl h⟩
  · refine ⟨hl, .inr ⟨g, o, ha, Nat.lt_of_lt_of_le hg k.size, fun i s hs => ?_⟩⟩
    rw [k.cell hg]
    exact hx i s hs
theorem RowN.but {w w' : World} {a : Option Addr} {xs : List Int} {b : Nat} (h : RowN w a xs) (k : But b w w') (hb : ∀ g o, a = some ⟨g, o, none⟩ → g ≠ b) : RowN w' a xs := by
  obtain ⟨hl, h | ⟨g, o, ha, hg, hx⟩⟩ := h
  · exact ⟨hl, .inl h⟩
  · refine ⟨hl, .inr ⟨g, o, ha, Nat.lt_of_lt_of_le hg k.size, fun i s hs => ?_⟩⟩
    rw [k.cell hg (hb g o ha)]
    exact hx i s hs
theorem RowN.but2 {w w' : World} {a : Option Addr} {xs : List Int} {b c : Nat} (h : RowN w a xs) (k : But2 b c w w') (hb : ∀ g o, a = some ⟨g, o, none⟩ → g ≠ b ∧ g ≠ c) : RowN w' a xs := by
  obtain ⟨hl, h | ⟨g, o, ha, hg, hx⟩⟩ := h
  · exact ⟨hl, .inl h⟩
  · refine ⟨hl, .inr ⟨g, o, ha, Nat.lt_of_lt_of_le hg k.size, fun i s hs => ?_⟩⟩
    rw [k.cell hg (hb g o ha).1 (hb g o ha).2]
    exact hx i s hs
theorem RowN.drewN {w : World} {a : Option Addr} {xs : List Int} (h : RowN w a xs) (q : Nat) : RowN (w.drewN q) a xs := h.below (below_dn (Below.refl _ _) q)
theorem RowN.alloc {w : World} {a : Option Addr} {xs : List Int} (h : RowN w a xs) (o : Obj) : RowN (w.alloc o) a xs := h.below ((Below.refl _ _).alloc (Nat.le_refl _) o)
theorem rowN_nil (w : World) (a : Option Addr) : RowN w a [] := ⟨by simp, .inl rfl⟩

/-- A row of numbers in a block b of its own, not below B; the empty row may lie nowhere. -/
structure OutN (w : World) (B : Nat) (a : Option Addr) (b : Nat) (xs : List Int) : Prop where
  row : RowN w a xs
  at_b : ∀ g o, a = some ⟨g, o, none⟩ → g = b
  new : B ≤ b
  free : xs ≠ [] → b < w.heap.size ∧ ∀ o, w.frozen? ⟨b, o, none⟩ = false
theorem OutN.below {w w' : World} {B b : Nat} {a : Option Addr} {xs : List Int} (h : OutN w B a b xs) (k : Below w.heap.size w w') : OutN w' B a b xs :=
  ⟨h.row.below k, h.at_b, h.new, fun hn => by
    obtain ⟨h1, h2⟩ := h.free hn
    exact ⟨Nat.lt_of_lt_of_le h1 k.size, fun o => by rw [k.frozen (p := ⟨b, o, none⟩) h1]; exact h2 o⟩⟩
theorem OutN.but {w w' : World} {B b c : Nat} {a : Option Addr} {xs : List Int} (h : OutN w B a b xs) (k : But c w w') (hc : b ≠ c) : OutN w' B a b xs :=
  ⟨h.row.but k (fun g o e => by rw [h.at_b g o e]; exact hc), h.at_b, h.new, fun hn => by
    obtain ⟨h1, h2⟩ := h.free hn
    exact ⟨Nat.lt_of_lt_of_le h1 k.size, fun o => by rw [k.frozen h1 hc]; exact h2 o⟩⟩
theorem OutN.but2 {w w' : World} {B b c d : Nat} {a : Option Addr} {xs : List Int} (h : OutN w B a b xs) (k : But2 c d w w') (hc : b ≠ c) (hd : b ≠ d) : OutN w' B a b xs :=
  ⟨h.row.but2 k (fun g o e => by rw [h.at_b g o e]; exact ⟨hc, hd⟩), h.at_b, h.new, fun hn => by
    obtain ⟨h1, h2⟩ := h.free hn
    exact ⟨Nat.lt_of_lt_of_le h1 k.size, fun o => by rw [k.frozen h1 hc hd]; exact h2 o⟩⟩
theorem OutN.lower {w : World} {B C b : Nat} {a : Option Addr} {xs : List Int} (h : OutN w B a b xs) (hc : C ≤ B) : OutN w C a b xs := ⟨h.row, h.at_b, Nat.le_trans hc h.new, h.free⟩
theorem OutN.drewN {w : World} {B b : Nat} {a : Option Addr} {xs : List Int} (h : OutN w B a b xs) (q : Nat) : OutN (w.drewN q) B a b xs := h.below (below_dn (Below.refl _ _) q)

theorem OutN.setCell {w : World} {B b : Nat} {a : Option Addr} {xs : List Int} (h : OutN w B a b xs) {p : Addr} (hp : b ≠ p.block) (x : Value) : OutN (w.setCell p x) B a b xs :=
  h.but ((But.refl p.block w).setCell rfl x) hp
theorem OutN.alloc {w : World} {B b : Nat} {a : Option Addr} {xs : List Int} (h : OutN w B a b xs) (o : Obj) : OutN (w.alloc o) B a b xs := h.below ((Below.refl _ _).alloc (Nat.le_refl _) o)
theorem RowN.setCell {w : World} {a : Option Addr} {xs : List Int} (h : RowN w a xs) {p : Addr} (hp : ∀ g o, a = some ⟨g, o, none⟩ → g ≠ p.block) (x : Value) : RowN (w.setCell p x) a xs :=
  h.but ((But.refl p.block w).setCell rfl x) hp
theorem RowN.lt {w : World} {a : Option Addr} {xs : List Int} (h : RowN w a xs) (hne : xs ≠ []) : ∀ g o, a = some ⟨g, o, none⟩ → g < w.heap.size := by
  obtain ⟨_, h | ⟨g, o, ha, hg, _⟩⟩ := h
  · exact absurd h hne
  · intro g' o' e
    rw [ha] at e
    cases e
    exact hg

/-- A row that lies below a block that is written. -/
theorem RowN.setNew {w u : World} {a : Option Addr} {xs : List Int} (h : RowN w a xs) (k : Below w.heap.size w u) {p : Addr} (hp : w.heap.size ≤ p.block) (x : Value) : RowN (u.setCell p x) a xs :=
  h.below (k.setCell hp x)

/-- Storing the next value of a row. -/
theorem store_next {w1 : World} {g o n j : Nat} {v : Value} {f : Nat → Value} (hj : j < n) (hv : v = f j)
    (hs : ∀ i, i < n → ∃ s, w1.cell? ⟨g, o + i, none⟩ = some s) (hm : ∀ i, i < j → w1.cell? ⟨g, o + i, none⟩ = some (f i)) (hf : ∀ i, i < n → w1.frozen? ⟨g, o + i, none⟩ = false) :
    (∀ i, i < n → ∃ s, (w1.setCell ⟨g, o + j, none⟩ v).cell? ⟨g, o + i, none⟩ = some s) ∧
    (∀ i, i < j + 1 → (w1.setCell ⟨g, o + j, none⟩ v).cell? ⟨g, o + i, none⟩ = some (f i)) ∧
    (∀ i, i < n → (w1.setCell ⟨g, o + j, none⟩ v).frozen? ⟨g, o + i, none⟩ = false) := by
  obtain ⟨s0, h0⟩ := hs j hj
  refine ⟨fun i hi => ?_, fun i hi => ?_, fun i hi => ?_⟩
  · by_cases e : i = j
    · subst e
      exact ⟨v, World.cell?_setCell_same' _ _ _ (by rw [h0]; rfl)⟩
    · obtain ⟨s, h⟩ := hs i hi
      exact ⟨s, by rw [World.cell?_setCell_other (w := w1) (a := ⟨g, o + j, none⟩) (b := ⟨g, o + i, none⟩) (h := by intro e'; first | (simp at e'; done) | (simp at e'; omega))]; exact h⟩
  · by_cases e : i = j
    · subst e
      rw [World.cell?_setCell_same' _ _ _ (by rw [h0]; rfl), hv]
    · rw [World.cell?_setCell_other (w := w1) (a := ⟨g, o + j, none⟩) (b := ⟨g, o + i, none⟩) (h := by intro e'; first | (simp at e'; done) | (simp at e'; omega))]
      exact hm i (by omega)
  · have := hf i hi
    go_simp

theorem infoN : (Try.prog.info? 2).map (fun i => (i.zero, i.size, i.bytes)) = some (some (.int .i64 0), 1, 8) := by kernel_rfl

/-- A new row in a block of its own. -/
def RowP (xs : List Int) (n : Nat) (w : World) (e : Ending) (w' : World) : Prop :=
  ∃ g, e = .returned (.slice (some ⟨g, 0, none⟩) n n) ∧ OutN w' w.heap.size (some ⟨g, 0, none⟩) g xs ∧ g < w'.heap.size ∧ Below w.heap.size w w'

theorem cell_made (w : World) (n i : Nat) (h : i < n) (e : TypeId) : (w.alloc (.cells (madeCells #[.int .i64 0] n) e)).cell? ⟨w.heap.size, 0 + i, none⟩ = some (.int .i64 0) := by
  rw [Nat.zero_add, World.cell?_alloc_new]
  simp [madeCells, h, Nat.mod_one]

/-- The marks from k on. -/
def marksN (k n : Nat) : List Int := (List.range n).map fun i => ((k + i : Nat) : Int)
theorem marksN_len (k n : Nat) : (marksN k n).length = n := by simp [marksN]
theorem marksN_at (k n i : Nat) (h : i < n) : (marksN k n)[i]? = some ((k + i : Nat) : Int) := by simp [marksN, h]
/-- What writing the marks leaves. -/
def MarkN (B b : Nat) (a : Option Addr) (n k : Nat) (w : World) (e : Ending) (w' : World) : Prop :=
  e = .returned (.int .i64 ((k + n : Nat) : Int)) ∧ But b w w' ∧ OutN w' B a b (marksN k n)
end Go.Proofs.Ytgogjjkecbgbiaa
