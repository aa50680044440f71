/-
  DERIVED. GIVEN WITH THE SEED: THE CARDS: each row of YtbdfehlcgjigpaaDoorRows.lean that lists a variable, with what it lists TIED to the program's text (the seventh form; the later family's looks); each row that meets fmt, with fmt's text TOLD by the authors' own Lean function (tested against real Go, not proved from fmt's source: count such statements apart). THE CARD IS WHAT COUNTS. Prove the row's statement (the work); the ties are given (YtbdfehlcgjigpaaDoorTie.lean); close each card by the builder's one call (the guide's Derived/Test/ToyasCard.lean, 'card_holds'). Laid BY PROGRAM, IN A SANDBOX (cutbox-door.mjs). By AI agents, Wed Nov 11 2026. No macro, syntax, notation, axiom, sorry.
-/
import Derived.Test.YtbdfehlcgjigpaaDoorRows
import GoSem.ClaimSeven
namespace Go.Proofs.YtbdfehlcgjigpaaDoor
namespace Rows

/-- THE TIED CARD OF 'laws.FnExactLineFault'. -/
def fnExactLineFaultCard : Claim7 := { stood := { row := fnExactLineFaultRow, standIns := [], harness := (true, "f9427b8c39bb6416633122cc9966849fdd458ec9c3dbc19348c5dc9ebe005d69"), looks := false }, kinds := [], alts := [], laidByText := true, laidKinds := [.data], laidTests := true, laidLooks := .later }
def FnExactLineFaultCardSaid : Prop := Claim7.holds Tryd.pinned (.plain (OpenSpec.ofChange fnExactLineFaultSpec)) fnExactLineFaultCard

/-- THE SECOND FORM's CARD OF 'laws.FnExactLineFault'. -/
def fnExactLineFaultUptoCard : Claim7 := { stood := { row := fnExactLineFaultUptoRow, standIns := [], harness := (true, "f9427b8c39bb6416633122cc9966849fdd458ec9c3dbc19348c5dc9ebe005d69"), looks := false }, kinds := [], alts := [], laidByText := true, laidKinds := [.data], laidTests := true, laidLooks := .later }
def FnExactLineFaultUptoCardSaid : Prop := Claim7.holds Tryd.pinned (.plain (OpenSpec.upto fnExactLineFaultSpec)) fnExactLineFaultUptoCard
end Rows
end Go.Proofs.YtbdfehlcgjigpaaDoor
