/- FieldNames of the program returns the names of the nine fields in memory of its own. No conditions. -/
import Derived.Test.YtihbaehfgjkajabDoorFields
namespace Go.Proofs.YtihbaehfgjkajabDoor
open Go.Joins Go.ChangeShapes Go.WideShapes Go.ChangeAt Go.RowKit Go.Deep
set_option linter.unusedVariables false

theorem infoS : (Tryd.prog.info? 9).map (fun i => (i.zero, i.size, i.bytes)) = some (some (.string ⟨#[]⟩), 1, 16) := by kernel_rfl
def svs (xs : List ByteArray) : List Value := xs.map Value.string
/-- A new row of texts. -/
def OwnS (xs : List ByteArray) (n : Nat) (w : World) (e : Ending) (w' : World) : Prop :=
  ∃ v, e = .returned v ∧ w'.ownsRow w.heap.size 9 1 v n (svs xs) ∧ Below w.heap.size w w'
end Go.Proofs.YtihbaehfgjkajabDoor
