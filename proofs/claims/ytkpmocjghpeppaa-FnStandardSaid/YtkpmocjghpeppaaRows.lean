/-
  No cell of these rows narrows 'for every input' (looked for: loops, veiled, ifaces, maps, wideKeys, modest, calm, conditions, laid).
  DERIVED. THE GIVEN ROWS OF THIS SEAT. 11 by the template 'for every input the law returns true; each argument reads behind the call as it read before'; 0 by the template 'total and deterministic' (their statements: YtkpmocjghpeppaaTotals.lean).
  GIVEN WITH THE SEED: the statements are not yours to turn. If you find one false, say at which input.
  Laid BY PROGRAM, IN A SANDBOX (cutbox-rows.mjs): the forced cells as the released guide's own fill.sh prints them over the translation c9d4476ecc4fba9d… (all of the seat's roots in one cut). By AI agents, Wed Nov 11 2026. No macro, syntax, notation, axiom, sorry.
-/
import Derived.Test.YtkpmocjghpeppaaChecked
import GoSem.Claim
import GoSem.ClaimJoined
import GoSem.ClaimMapViews
import Derived.JoinedTies
import Derived.KernelRfl
namespace Go.Proofs.Ytkpmocjghpeppaa
/- THE CELL 'sum', in the pinned program and in every row, IS THE sha256 OF THE DUMP (.gsa) THAT YtkpmocjghpeppaaProg.lean LOADS. Nothing in Lean hashes anything: it is a label: what it is worth is what the hold of that sum in a sandbox is worth. -/
noncomputable def Try.pinned : Pinned := { name := "ytkpmocjghpeppaa", sum := "c9d4476ecc4fba9d296d3c14b992ac98d9e88b81dfdd525d561f92fea5a50e84", checked := Try.checked }
namespace Rows
def none {H : Type} : Left H := { results := [], args := [] }

/-- 'laws.FnPits': WHATEVER THE INPUT: true; the input reads as it did. -/
def fnPitsSpec : ChangeSpec := { name := "fnPits", fn := fun _ => fun
  | [d1, d2] => { results := [.lit (.bool true)], args := [d1, d2] }
  | _ => none }
def fnPitsRow : OpenClaim := { program := "ytkpmocjghpeppaa", sum := "c9d4476ecc4fba9d296d3c14b992ac98d9e88b81dfdd525d561f92fea5a50e84", func := "loop.example/g00926/laws.FnPits", spec := "fnPits", apart := false }
def FnPitsSaid : Prop := fnPitsRow.holds Try.pinned (OpenSpec.ofChange fnPitsSpec)

/-- ITS FALSE NEIGHBOUR: 'it returns false'. Refute it at one input. -/
def fnPitsWrong : ChangeSpec := { name := "fnPits", fn := fun _ => fun
  | [d1, d2] => { results := [.lit (.bool false)], args := [d1, d2] }
  | _ => none }
def FnPitsWrongFalsely : Prop := fnPitsRow.holds Try.pinned (OpenSpec.ofChange fnPitsWrong)

/-- 'laws.FnStandard': WHATEVER THE INPUT: true; the input reads as it did. -/
def fnStandardSpec : ChangeSpec := { name := "fnStandard", fn := fun _ => fun
  | [d] => { results := [.lit (.bool true)], args := [d] }
  | _ => none }
def fnStandardRow : OpenClaim := { program := "ytkpmocjghpeppaa", sum := "c9d4476ecc4fba9d296d3c14b992ac98d9e88b81dfdd525d561f92fea5a50e84", func := "loop.example/g00926/laws.FnStandard", spec := "fnStandard", apart := false }
def FnStandardSaid : Prop := fnStandardRow.holds Try.pinned (OpenSpec.ofChange fnStandardSpec)

/-- ITS FALSE NEIGHBOUR: 'it returns false'. Refute it at one input. -/
def fnStandardWrong : ChangeSpec := { name := "fnStandard", fn := fun _ => fun
  | [d] => { results := [.lit (.bool false)], args := [d] }
  | _ => none }
def FnStandardWrongFalsely : Prop := fnStandardRow.holds Try.pinned (OpenSpec.ofChange fnStandardWrong)

/-- 'laws.FnPositionOrder': WHATEVER THE INPUT: true; the input reads as it did. -/
def fnPositionOrderSpec : ChangeSpec := { name := "fnPositionOrder", fn := fun _ => fun
  | [d1, d2] => { results := [.lit (.bool true)], args := [d1, d2] }
  | _ => none }
def fnPositionOrderRow : OpenClaim := { program := "ytkpmocjghpeppaa", sum := "c9d4476ecc4fba9d296d3c14b992ac98d9e88b81dfdd525d561f92fea5a50e84", func := "loop.example/g00926/laws.FnPositionOrder", spec := "fnPositionOrder", apart := false }
def FnPositionOrderSaid : Prop := fnPositionOrderRow.holds Try.pinned (OpenSpec.ofChange fnPositionOrderSpec)

/-- ITS FALSE NEIGHBOUR: 'it returns false'. Refute it at one input. -/
def fnPositionOrderWrong : ChangeSpec := { name := "fnPositionOrder", fn := fun _ => fun
  | [d1, d2] => { results := [.lit (.bool false)], args := [d1, d2] }
  | _ => none }
def FnPositionOrderWrongFalsely : Prop := fnPositionOrderRow.holds Try.pinned (OpenSpec.ofChange fnPositionOrderWrong)

/-- 'laws.FnExactPitOfMove': WHATEVER THE INPUT: true; the input reads as it did. -/
def fnExactPitOfMoveSpec : ChangeSpec := { name := "fnExactPitOfMove", fn := fun _ => fun
  | [d1, d2, d3] => { results := [.lit (.bool true)], args := [d1, d2, d3] }
  | _ => none }
def fnExactPitOfMoveRow : OpenClaim := { program := "ytkpmocjghpeppaa", sum := "c9d4476ecc4fba9d296d3c14b992ac98d9e88b81dfdd525d561f92fea5a50e84", func := "loop.example/g00926/laws.FnExactPitOfMove", spec := "fnExactPitOfMove", apart := false }
def FnExactPitOfMoveSaid : Prop := fnExactPitOfMoveRow.holds Try.pinned (OpenSpec.ofChange fnExactPitOfMoveSpec)

/-- ITS FALSE NEIGHBOUR: 'it returns false'. Refute it at one input. -/
def fnExactPitOfMoveWrong : ChangeSpec := { name := "fnExactPitOfMove", fn := fun _ => fun
  | [d1, d2, d3] => { results := [.lit (.bool false)], args := [d1, d2, d3] }
  | _ => none }
def FnExactPitOfMoveWrongFalsely : Prop := fnExactPitOfMoveRow.holds Try.pinned (OpenSpec.ofChange fnExactPitOfMoveWrong)

/-- 'laws.FnExactValidPosition': WHATEVER THE INPUT: true; the input reads as it did. -/
def fnExactValidPositionSpec : ChangeSpec := { name := "fnExactValidPosition", fn := fun _ => fun
  | [d1, d2] => { results := [.lit (.bool true)], args := [d1, d2] }
  | _ => none }
def fnExactValidPositionRow : OpenClaim := { program := "ytkpmocjghpeppaa", sum := "c9d4476ecc4fba9d296d3c14b992ac98d9e88b81dfdd525d561f92fea5a50e84", func := "loop.example/g00926/laws.FnExactValidPosition", spec := "fnExactValidPosition", unfollowed := true, recurses := true, apart := false }
def FnExactValidPositionSaid : Prop := fnExactValidPositionRow.holds Try.pinned (OpenSpec.ofChange fnExactValidPositionSpec)

/-- ITS FALSE NEIGHBOUR: 'it returns false'. Refute it at one input. -/
def fnExactValidPositionWrong : ChangeSpec := { name := "fnExactValidPosition", fn := fun _ => fun
  | [d1, d2] => { results := [.lit (.bool false)], args := [d1, d2] }
  | _ => none }
def FnExactValidPositionWrongFalsely : Prop := fnExactValidPositionRow.holds Try.pinned (OpenSpec.ofChange fnExactValidPositionWrong)

/-- 'laws.FnExactSamePosition': WHATEVER THE INPUT: true; the input reads as it did. -/
def fnExactSamePositionSpec : ChangeSpec := { name := "fnExactSamePosition", fn := fun _ => fun
  | [d1, d2] => { results := [.lit (.bool true)], args := [d1, d2] }
  | _ => none }
def fnExactSamePositionRow : OpenClaim := { program := "ytkpmocjghpeppaa", sum := "c9d4476ecc4fba9d296d3c14b992ac98d9e88b81dfdd525d561f92fea5a50e84", func := "loop.example/g00926/laws.FnExactSamePosition", spec := "fnExactSamePosition", apart := false }
def FnExactSamePositionSaid : Prop := fnExactSamePositionRow.holds Try.pinned (OpenSpec.ofChange fnExactSamePositionSpec)

/-- ITS FALSE NEIGHBOUR: 'it returns false'. Refute it at one input. -/
def fnExactSamePositionWrong : ChangeSpec := { name := "fnExactSamePosition", fn := fun _ => fun
  | [d1, d2] => { results := [.lit (.bool false)], args := [d1, d2] }
  | _ => none }
def FnExactSamePositionWrongFalsely : Prop := fnExactSamePositionRow.holds Try.pinned (OpenSpec.ofChange fnExactSamePositionWrong)

/-- 'laws.FnExactStartPosition': WHATEVER THE INPUT: true; the input reads as it did. -/
def fnExactStartPositionSpec : ChangeSpec := { name := "fnExactStartPosition", fn := fun _ => fun
  | [d] => { results := [.lit (.bool true)], args := [d] }
  | _ => none }
def fnExactStartPositionRow : OpenClaim := { program := "ytkpmocjghpeppaa", sum := "c9d4476ecc4fba9d296d3c14b992ac98d9e88b81dfdd525d561f92fea5a50e84", func := "loop.example/g00926/laws.FnExactStartPosition", spec := "fnExactStartPosition", apart := false }
def FnExactStartPositionSaid : Prop := fnExactStartPositionRow.holds Try.pinned (OpenSpec.ofChange fnExactStartPositionSpec)

/-- ITS FALSE NEIGHBOUR: 'it returns false'. Refute it at one input. -/
def fnExactStartPositionWrong : ChangeSpec := { name := "fnExactStartPosition", fn := fun _ => fun
  | [d] => { results := [.lit (.bool false)], args := [d] }
  | _ => none }
def FnExactStartPositionWrongFalsely : Prop := fnExactStartPositionRow.holds Try.pinned (OpenSpec.ofChange fnExactStartPositionWrong)

/-- 'laws.FnExactTurnPosition': WHATEVER THE INPUT: true; the input reads as it did. -/
def fnExactTurnPositionSpec : ChangeSpec := { name := "fnExactTurnPosition", fn := fun _ => fun
  | [d1, d2] => { results := [.lit (.bool true)], args := [d1, d2] }
  | _ => none }
def fnExactTurnPositionRow : OpenClaim := { program := "ytkpmocjghpeppaa", sum := "c9d4476ecc4fba9d296d3c14b992ac98d9e88b81dfdd525d561f92fea5a50e84", func := "loop.example/g00926/laws.FnExactTurnPosition", spec := "fnExactTurnPosition", unfollowed := true, recurses := true, apart := false }
def FnExactTurnPositionSaid : Prop := fnExactTurnPositionRow.holds Try.pinned (OpenSpec.ofChange fnExactTurnPositionSpec)

/-- ITS FALSE NEIGHBOUR: 'it returns false'. Refute it at one input. -/
def fnExactTurnPositionWrong : ChangeSpec := { name := "fnExactTurnPosition", fn := fun _ => fun
  | [d1, d2] => { results := [.lit (.bool false)], args := [d1, d2] }
  | _ => none }
def FnExactTurnPositionWrongFalsely : Prop := fnExactTurnPositionRow.holds Try.pinned (OpenSpec.ofChange fnExactTurnPositionWrong)

/-- 'laws.FnExactViewOf': WHATEVER THE INPUT: true; the input reads as it did. -/
def fnExactViewOfSpec : ChangeSpec := { name := "fnExactViewOf", fn := fun _ => fun
  | [d1, d2] => { results := [.lit (.bool true)], args := [d1, d2] }
  | _ => none }
def fnExactViewOfRow : OpenClaim := { program := "ytkpmocjghpeppaa", sum := "c9d4476ecc4fba9d296d3c14b992ac98d9e88b81dfdd525d561f92fea5a50e84", func := "loop.example/g00926/laws.FnExactViewOf", spec := "fnExactViewOf", unfollowed := true, recurses := true, apart := false }
def FnExactViewOfSaid : Prop := fnExactViewOfRow.holds Try.pinned (OpenSpec.ofChange fnExactViewOfSpec)

/-- ITS FALSE NEIGHBOUR: 'it returns false'. Refute it at one input. -/
def fnExactViewOfWrong : ChangeSpec := { name := "fnExactViewOf", fn := fun _ => fun
  | [d1, d2] => { results := [.lit (.bool false)], args := [d1, d2] }
  | _ => none }
def FnExactViewOfWrongFalsely : Prop := fnExactViewOfRow.holds Try.pinned (OpenSpec.ofChange fnExactViewOfWrong)

/-- 'laws.FnExactSeedsOn': WHATEVER THE INPUT: true; the input reads as it did. -/
def fnExactSeedsOnSpec : ChangeSpec := { name := "fnExactSeedsOn", fn := fun _ => fun
  | [d1, d2] => { results := [.lit (.bool true)], args := [d1, d2] }
  | _ => none }
def fnExactSeedsOnRow : OpenClaim := { program := "ytkpmocjghpeppaa", sum := "c9d4476ecc4fba9d296d3c14b992ac98d9e88b81dfdd525d561f92fea5a50e84", func := "loop.example/g00926/laws.FnExactSeedsOn", spec := "fnExactSeedsOn", unfollowed := true, recurses := true, apart := false }
def FnExactSeedsOnSaid : Prop := fnExactSeedsOnRow.holds Try.pinned (OpenSpec.ofChange fnExactSeedsOnSpec)

/-- ITS FALSE NEIGHBOUR: 'it returns false'. Refute it at one input. -/
def fnExactSeedsOnWrong : ChangeSpec := { name := "fnExactSeedsOn", fn := fun _ => fun
  | [d1, d2] => { results := [.lit (.bool false)], args := [d1, d2] }
  | _ => none }
def FnExactSeedsOnWrongFalsely : Prop := fnExactSeedsOnRow.holds Try.pinned (OpenSpec.ofChange fnExactSeedsOnWrong)

/-- 'laws.FnExactSideSeeds': WHATEVER THE INPUT: true; the input reads as it did. -/
def fnExactSideSeedsSpec : ChangeSpec := { name := "fnExactSideSeeds", fn := fun _ => fun
  | [d1, d2, d3] => { results := [.lit (.bool true)], args := [d1, d2, d3] }
  | _ => none }
def fnExactSideSeedsRow : OpenClaim := { program := "ytkpmocjghpeppaa", sum := "c9d4476ecc4fba9d296d3c14b992ac98d9e88b81dfdd525d561f92fea5a50e84", func := "loop.example/g00926/laws.FnExactSideSeeds", spec := "fnExactSideSeeds", unfollowed := true, recurses := true, apart := false }
def FnExactSideSeedsSaid : Prop := fnExactSideSeedsRow.holds Try.pinned (OpenSpec.ofChange fnExactSideSeedsSpec)

/-- ITS FALSE NEIGHBOUR: 'it returns false'. Refute it at one input. -/
def fnExactSideSeedsWrong : ChangeSpec := { name := "fnExactSideSeeds", fn := fun _ => fun
  | [d1, d2, d3] => { results := [.lit (.bool false)], args := [d1, d2, d3] }
  | _ => none }
def FnExactSideSeedsWrongFalsely : Prop := fnExactSideSeedsRow.holds Try.pinned (OpenSpec.ofChange fnExactSideSeedsWrong)

/- THE SECOND FORM. 'bulk': how many values and letters a reading holds, each counted each time it is reached (what is shared counts as often as it is met; a slice's spare places count too). A statement '..UptoSaid' is the law's where the arguments, and the package variables that the reading takes, are together of bulk at most 1048576: NARROWER than '..Said'. Prove '..Said' where nothing that the law and all that it calls make is longer than what came in: it says more and counts as full. Else prove '..UptoSaid'. A law counts once. -/
mutual
def uptoBulk {H : Type} : DataW H → Nat
  | .lit (.string bytes) => bytes.length + 1
  | .lit _ => 1
  | .nil => 1
  | .ptr d => uptoBulk d + 1
  | .slice elems spare => uptoBulkAll elems + uptoBulkAll spare + 1
  | .agg parts => uptoBulkAll parts + 1
  | .iface _ d => uptoBulk d + 1
  | .map entries => uptoBulkEntries entries + 1
  | .held _ => 1
def uptoBulkAll {H : Type} : List (DataW H) → Nat
  | [] => 0
  | d :: r => uptoBulk d + uptoBulkAll r
def uptoBulkEntries {H : Type} : List (Lit × DataW H) → Nat
  | [] => 0
  | x :: r => uptoBulkEntry x + uptoBulkEntries r
def uptoBulkEntry {H : Type} : Lit × DataW H → Nat
  | (.string bytes, d) => bytes.length + uptoBulk d + 1
  | (_, d) => uptoBulk d + 1
 end
def uptoSmall : (H : Type) → List (DataW H) → Bool := fun _ ds => decide (uptoBulkAll ds ≤ 1048576)
def OpenSpec.upto (s : _root_.Go.ChangeSpec) : _root_.Go.OpenSpec := { _root_.Go.OpenSpec.ofChange s with cond := some uptoSmall }

/-- 'laws.FnPits', WHERE WHAT IT READS IS OF BULK AT MOST 1048576: true; the input reads as it did. -/
def fnPitsUptoRow : OpenClaim := { program := "ytkpmocjghpeppaa", sum := "c9d4476ecc4fba9d296d3c14b992ac98d9e88b81dfdd525d561f92fea5a50e84", func := "loop.example/g00926/laws.FnPits", spec := "fnPits", apart := false, narrowed := true }
def FnPitsUptoSaid : Prop := fnPitsUptoRow.holds Try.pinned (OpenSpec.upto fnPitsSpec)

/-- 'laws.FnStandard', WHERE WHAT IT READS IS OF BULK AT MOST 1048576: true; the input reads as it did. -/
def fnStandardUptoRow : OpenClaim := { program := "ytkpmocjghpeppaa", sum := "c9d4476ecc4fba9d296d3c14b992ac98d9e88b81dfdd525d561f92fea5a50e84", func := "loop.example/g00926/laws.FnStandard", spec := "fnStandard", apart := false, narrowed := true }
def FnStandardUptoSaid : Prop := fnStandardUptoRow.holds Try.pinned (OpenSpec.upto fnStandardSpec)

/-- 'laws.FnPositionOrder', WHERE WHAT IT READS IS OF BULK AT MOST 1048576: true; the input reads as it did. -/
def fnPositionOrderUptoRow : OpenClaim := { program := "ytkpmocjghpeppaa", sum := "c9d4476ecc4fba9d296d3c14b992ac98d9e88b81dfdd525d561f92fea5a50e84", func := "loop.example/g00926/laws.FnPositionOrder", spec := "fnPositionOrder", apart := false, narrowed := true }
def FnPositionOrderUptoSaid : Prop := fnPositionOrderUptoRow.holds Try.pinned (OpenSpec.upto fnPositionOrderSpec)

/-- 'laws.FnExactPitOfMove', WHERE WHAT IT READS IS OF BULK AT MOST 1048576: true; the input reads as it did. -/
def fnExactPitOfMoveUptoRow : OpenClaim := { program := "ytkpmocjghpeppaa", sum := "c9d4476ecc4fba9d296d3c14b992ac98d9e88b81dfdd525d561f92fea5a50e84", func := "loop.example/g00926/laws.FnExactPitOfMove", spec := "fnExactPitOfMove", apart := false, narrowed := true }
def FnExactPitOfMoveUptoSaid : Prop := fnExactPitOfMoveUptoRow.holds Try.pinned (OpenSpec.upto fnExactPitOfMoveSpec)

/-- 'laws.FnExactValidPosition', WHERE WHAT IT READS IS OF BULK AT MOST 1048576: true; the input reads as it did. -/
def fnExactValidPositionUptoRow : OpenClaim := { program := "ytkpmocjghpeppaa", sum := "c9d4476ecc4fba9d296d3c14b992ac98d9e88b81dfdd525d561f92fea5a50e84", func := "loop.example/g00926/laws.FnExactValidPosition", spec := "fnExactValidPosition", unfollowed := true, recurses := true, apart := false, narrowed := true }
def FnExactValidPositionUptoSaid : Prop := fnExactValidPositionUptoRow.holds Try.pinned (OpenSpec.upto fnExactValidPositionSpec)

/-- 'laws.FnExactSamePosition', WHERE WHAT IT READS IS OF BULK AT MOST 1048576: true; the input reads as it did. -/
def fnExactSamePositionUptoRow : OpenClaim := { program := "ytkpmocjghpeppaa", sum := "c9d4476ecc4fba9d296d3c14b992ac98d9e88b81dfdd525d561f92fea5a50e84", func := "loop.example/g00926/laws.FnExactSamePosition", spec := "fnExactSamePosition", apart := false, narrowed := true }
def FnExactSamePositionUptoSaid : Prop := fnExactSamePositionUptoRow.holds Try.pinned (OpenSpec.upto fnExactSamePositionSpec)

/-- 'laws.FnExactStartPosition', WHERE WHAT IT READS IS OF BULK AT MOST 1048576: true; the input reads as it did. -/
def fnExactStartPositionUptoRow : OpenClaim := { program := "ytkpmocjghpeppaa", sum := "c9d4476ecc4fba9d296d3c14b992ac98d9e88b81dfdd525d561f92fea5a50e84", func := "loop.example/g00926/laws.FnExactStartPosition", spec := "fnExactStartPosition", apart := false, narrowed := true }
def FnExactStartPositionUptoSaid : Prop := fnExactStartPositionUptoRow.holds Try.pinned (OpenSpec.upto fnExactStartPositionSpec)

/-- 'laws.FnExactTurnPosition', WHERE WHAT IT READS IS OF BULK AT MOST 1048576: true; the input reads as it did. -/
def fnExactTurnPositionUptoRow : OpenClaim := { program := "ytkpmocjghpeppaa", sum := "c9d4476ecc4fba9d296d3c14b992ac98d9e88b81dfdd525d561f92fea5a50e84", func := "loop.example/g00926/laws.FnExactTurnPosition", spec := "fnExactTurnPosition", unfollowed := true, recurses := true, apart := false, narrowed := true }
def FnExactTurnPositionUptoSaid : Prop := fnExactTurnPositionUptoRow.holds Try.pinned (OpenSpec.upto fnExactTurnPositionSpec)

/-- 'laws.FnExactViewOf', WHERE WHAT IT READS IS OF BULK AT MOST 1048576: true; the input reads as it did. -/
def fnExactViewOfUptoRow : OpenClaim := { program := "ytkpmocjghpeppaa", sum := "c9d4476ecc4fba9d296d3c14b992ac98d9e88b81dfdd525d561f92fea5a50e84", func := "loop.example/g00926/laws.FnExactViewOf", spec := "fnExactViewOf", unfollowed := true, recurses := true, apart := false, narrowed := true }
def FnExactViewOfUptoSaid : Prop := fnExactViewOfUptoRow.holds Try.pinned (OpenSpec.upto fnExactViewOfSpec)

/-- 'laws.FnExactSeedsOn', WHERE WHAT IT READS IS OF BULK AT MOST 1048576: true; the input reads as it did. -/
def fnExactSeedsOnUptoRow : OpenClaim := { program := "ytkpmocjghpeppaa", sum := "c9d4476ecc4fba9d296d3c14b992ac98d9e88b81dfdd525d561f92fea5a50e84", func := "loop.example/g00926/laws.FnExactSeedsOn", spec := "fnExactSeedsOn", unfollowed := true, recurses := true, apart := false, narrowed := true }
def FnExactSeedsOnUptoSaid : Prop := fnExactSeedsOnUptoRow.holds Try.pinned (OpenSpec.upto fnExactSeedsOnSpec)

/-- 'laws.FnExactSideSeeds', WHERE WHAT IT READS IS OF BULK AT MOST 1048576: true; the input reads as it did. -/
def fnExactSideSeedsUptoRow : OpenClaim := { program := "ytkpmocjghpeppaa", sum := "c9d4476ecc4fba9d296d3c14b992ac98d9e88b81dfdd525d561f92fea5a50e84", func := "loop.example/g00926/laws.FnExactSideSeeds", spec := "fnExactSideSeeds", unfollowed := true, recurses := true, apart := false, narrowed := true }
def FnExactSideSeedsUptoSaid : Prop := fnExactSideSeedsUptoRow.holds Try.pinned (OpenSpec.upto fnExactSideSeedsSpec)

end Rows
end Go.Proofs.Ytkpmocjghpeppaa
