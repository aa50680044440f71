/- A row of texts that a call has handed back, as the laws' own functions want it. No conditions. -/
import Derived.Test.YtihbaehfgjkajaaDoorMark
import Derived.Test.YtihbaehfgjkajaaDoorFNames
namespace Go.Proofs.YtihbaehfgjkajaaDoor
open Go.Joins Go.ChangeShapes Go.WideShapes Go.ChangeAt Go.RowKit Go.Deep
set_option linter.unusedVariables false

/-- A row of n texts in a block b of its own, not below B; the empty row may lie nowhere. -/
structure OutS (xs : List ByteArray) (n B : Nat) (a : Option Addr) (b : Nat) (w : World) : Prop where
  row : RowS w a xs
  at_b : ∀ g o, a = some ⟨g, o, none⟩ → g = b
  new : B ≤ b
  lt : ∀ g o, a = some ⟨g, o, none⟩ → g < w.heap.size
  free : n ≠ 0 → b < w.heap.size ∧ ∀ o, w.frozen? ⟨b, o, none⟩ = false
theorem out_own {w : World} {B n : Nat} {v : Value} {xs : List ByteArray} (h : w.ownsRow B 9 1 v n (svs xs)) (hn : xs.length = n) (hle : n ≤ 1000000000000) (hB : B ≤ w.heap.size) :
    ∃ a c b, v = .slice a n c ∧ OutS xs n B a b w := by
  obtain ⟨_, ⟨hv, h0⟩ | ⟨g, cap, cur, hv, hb, hg, hm, hc, hs, ht⟩⟩ := h
  · subst h0
    have hx : xs = [] := List.eq_nil_of_length_eq_zero hn
    subst hx
    exact ⟨none, 0, w.heap.size, hv, ⟨by simp, .inl rfl⟩, (fun _ _ h => by cases h), hB, (fun _ _ h => by cases h), fun h => absurd rfl h⟩
  · have hlt : g < w.heap.size := (Array.getElem?_eq_some_iff.1 hg).1
    refine ⟨some ⟨g, 0, none⟩, cap, g, hv, ⟨by rw [hn]; exact hle, .inr ⟨g, 0, rfl, hlt, fun i s hi => ?_⟩⟩, (fun _ _ h => by cases h; rfl), hb, (fun _ _ h => by cases h; exact hlt), fun _ => ⟨hlt, fun o => by simp [World.frozen?, hg]⟩⟩
    have h1 : (cur.toList.take (n * 1))[i]? = some (.string s) := by
      rw [ht]
      simp [svs, hi]
    rw [List.getElem?_take] at h1
    split at h1
    · rw [Nat.zero_add]
      simpa [World.cell?, hg] using h1
    · cases h1
theorem row_of_t {w : World} {g : Nat} {xs : List ByteArray} (h : RowT w g xs) (hl : xs.length ≤ 1000000000000) : RowS w (some ⟨g, 0, none⟩) xs :=
  ⟨hl, .inr ⟨g, 0, rfl, h.1, fun i s hs => by rw [Nat.zero_add]; exact h.2 i s hs⟩⟩
end Go.Proofs.YtihbaehfgjkajaaDoor
