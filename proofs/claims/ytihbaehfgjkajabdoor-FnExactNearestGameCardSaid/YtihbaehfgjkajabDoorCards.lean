/-
  DERIVED. GIVEN WITH THE SEED: THE CARDS: each row of YtihbaehfgjkajabDoorRows.lean that lists a variable, with what it lists TIED to the program's text (the seventh form; the later family's looks); each row that meets fmt, with fmt's text TOLD by the authors' own Lean function (tested against real Go, not proved from fmt's source: count such statements apart). THE CARD IS WHAT COUNTS. Prove the row's statement (the work); the ties are given (YtihbaehfgjkajabDoorTie.lean); close each card by the builder's one call (the guide's Derived/Test/ToyasCard.lean, 'card_holds'). Laid BY PROGRAM, IN A SANDBOX (cutbox-door.mjs). By AI agents, Wed Nov 11 2026. No macro, syntax, notation, axiom, sorry.
-/
import Derived.Test.YtihbaehfgjkajabDoorRows
import GoSem.ClaimSeven
namespace Go.Proofs.YtihbaehfgjkajabDoor
namespace Rows

/-- THE TIED CARD OF 'laws.FnExactNearestGame'. -/
def fnExactNearestGameCard : Claim7 := { stood := { row := fnExactNearestGameRow, standIns := [], harness := (true, "82195409dcd5d4e1fdcf23062655b1ec69b6c85fdbb3207b2b1cce072031643d"), looks := true }, kinds := [], alts := [], laidByText := true, laidKinds := [.data, .data, .data, .sentinel, .sentinel, .sentinel, .sentinel], laidTests := true, laidLooks := .later }
def FnExactNearestGameCardSaid : Prop := Claim7.holds Tryd.pinned (.plain (OpenSpec.ofChange fnExactNearestGameSpec)) fnExactNearestGameCard

/-- THE SECOND FORM's CARD OF 'laws.FnExactNearestGame'. -/
def fnExactNearestGameUptoCard : Claim7 := { stood := { row := fnExactNearestGameUptoRow, standIns := [], harness := (true, "82195409dcd5d4e1fdcf23062655b1ec69b6c85fdbb3207b2b1cce072031643d"), looks := true }, kinds := [], alts := [], laidByText := true, laidKinds := [.data, .data, .data, .sentinel, .sentinel, .sentinel, .sentinel], laidTests := true, laidLooks := .later }
def FnExactNearestGameUptoCardSaid : Prop := Claim7.holds Tryd.pinned (.plain (OpenSpec.upto fnExactNearestGameSpec)) fnExactNearestGameUptoCard
end Rows
end Go.Proofs.YtihbaehfgjkajabDoor
