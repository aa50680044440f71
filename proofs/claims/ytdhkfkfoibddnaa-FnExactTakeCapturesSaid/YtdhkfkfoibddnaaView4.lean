/- A position of its own, and the view of the player to move: the reference's and the program's. No conditions. -/
import Derived.Test.YtdhkfkfoibddnaaITurn4
namespace Go.Proofs.Ytdhkfkfoibddnaa
open Go.Joins Go.ChangeShapes Go.WideShapes Go.ChangeAt Go.RowKit Go.Deep
set_option linter.unusedVariables false

/-- Nothing of w is turned. -/
def OnW (w u : World) : Prop := Below w.heap.size w u
theorem OnW.below {w u v : World} (h : OnW w u) (k : Below u.heap.size u v) : OnW w v := Below.trans h (k.mono (Below.size h))
theorem OnW.drew {w u : World} (h : OnW w u) : OnW w u.drew := Below.drew h
theorem OnW.set3 {w u : World} {z : Nat} (h : OnW w u) (hz : w.heap.size ≤ z) (x y t : Value) : OnW w (((u.setCell ⟨z, 0, none⟩ x).setCell ⟨z, 1, none⟩ y).setCell ⟨z, 2, none⟩ t) :=
  Below.setCell (Below.setCell (Below.setCell h (p := ⟨z, 0, none⟩) hz _) (p := ⟨z, 1, none⟩) hz _) (p := ⟨z, 2, none⟩) hz _
theorem OutN.drew {w : World} {B b : Nat} {a : Option Addr} {xs : List Int} (h : OutN w B a b xs) : OutN w.drew B a b xs := h.below (Below.refl _ _).drew
theorem PoAt.drew {u : World} {d : Nat} {p1 p2 : Option Addr} {pn1 pc1 pn2 pc2 : Nat} {pp : Int} (h : PoAt u d p1 p2 pn1 pc1 pn2 pc2 pp) : PoAt u.drew d p1 p2 pn1 pc1 pn2 pc2 pp := h
theorem PoAt.set3 {u : World} {d z : Nat} {p1 p2 : Option Addr} {pn1 pc1 pn2 pc2 : Nat} {pp : Int} (h : PoAt u d p1 p2 pn1 pc1 pn2 pc2 pp) (hz : d ≠ z) (x y t : Value) : PoAt (((u.setCell ⟨z, 0, none⟩ x).setCell ⟨z, 1, none⟩ y).setCell ⟨z, 2, none⟩ t) d p1 p2 pn1 pc1 pn2 pc2 pp :=
  h.but ((((But.refl z u).setCell (p := ⟨z, 0, none⟩) rfl x).setCell (p := ⟨z, 1, none⟩) rfl y).setCell (p := ⟨z, 2, none⟩) rfl t) hz

end Go.Proofs.Ytdhkfkfoibddnaa
