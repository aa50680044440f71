/- The law on UnrankSeeds: for all arguments the program answers as the reference, in memory of its own. No conditions. -/
import Derived.Test.YthbgfkklejnhiaaUn
namespace Go.Proofs.Ythbgfkklejnhiaa
open Go.Joins Go.ChangeShapes Go.WideShapes Go.ChangeAt Go.RowKit Go.Deep
set_option linter.unusedVariables false

/-- A row stays while another block is written. -/
theorem row_but {w w' : World} {a : Option Addr} {L : List Int} {b : Nat} (h : RowN w a L) (k : But b w w') (hb : L ≠ [] → ∀ g o, a = some ⟨g, o, none⟩ → g ≠ b) : RowN w' a L := by
  by_cases hne : L = []
  · subst hne; exact rowN_nil _ _
  · exact h.but k (hb hne)
/-- A row of a call's own lies behind the ones before. -/
theorem out_ne {w u : World} {a a' : Option Addr} {L L' : List Int} {B B' b b' : Nat} (h : OutN w B a b L) (hl : L ≠ [] → b < B') (h' : OutN u B' a' b' L') : L ≠ [] → ∀ g o, a = some ⟨g, o, none⟩ → g ≠ b' := by
  intro hne g o e
  rw [h.at_b g o e]
  have h1 := hl hne
  have h2 := h'.new
  omega
end Go.Proofs.Ythbgfkklejnhiaa
