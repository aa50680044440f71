/- Sown seeds in memory, and what the laws' own functions on them do. No conditions. -/
import Derived.Test.YtgogjjkecbgbiaaPos
namespace Go.Proofs.Ytgogjjkecbgbiaa
open Go.Joins Go.ChangeShapes Go.WideShapes Go.ChangeAt Go.RowKit Go.Deep
set_option linter.unusedVariables false

/-- A position of a call's own. -/
def SownP (n1 n2 : Nat) (pl pk : Int) (xs ys : List Int) (w : World) (e : Ending) (w' : World) : Prop :=
  ∃ g1 g2, e = .returned (.agg #[.slice (some ⟨g1, 0, none⟩) n1 n1, .slice (some ⟨g2, 0, none⟩) n2 n2, .int .i64 pl, .int .i64 pk]) ∧ PosO w' w.heap.size (some ⟨g1, 0, none⟩) (some ⟨g2, 0, none⟩) g1 g2 n1 n2 xs ys ∧ g1 < w'.heap.size ∧ g2 < w'.heap.size ∧ Below w.heap.size w w'

end Go.Proofs.Ytgogjjkecbgbiaa
