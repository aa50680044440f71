/-
  No cell of these rows narrows 'for every input' (looked for: loops, veiled, ifaces, maps, wideKeys, modest, calm, conditions, laid).
  DERIVED. THE GIVEN ROWS OF THIS SEAT. 9 by the template 'for every input the law returns true; each argument reads behind the call as it read before'; 0 by the template 'total and deterministic' (their statements: YtdhkfkfoibddnaaTotals.lean).
  GIVEN WITH THE SEED: the statements are not yours to turn. If you find one false, say at which input.
  Laid BY PROGRAM, IN A SANDBOX (cutbox-rows.mjs): the forced cells as the released guide's own fill.sh prints them over the translation 717142149a87fe12… (all of the seat's roots in one cut). By AI agents, Wed Nov 11 2026. No macro, syntax, notation, axiom, sorry.
-/
import Derived.Test.YtdhkfkfoibddnaaChecked
import GoSem.Claim
import GoSem.ClaimJoined
import GoSem.ClaimMapViews
import Derived.JoinedTies
import Derived.KernelRfl
namespace Go.Proofs.Ytdhkfkfoibddnaa
/- THE CELL 'sum', in the pinned program and in every row, IS THE sha256 OF THE DUMP (.gsa) THAT YtdhkfkfoibddnaaProg.lean LOADS. Nothing in Lean hashes anything: it is a label: what it is worth is what the hold of that sum in a sandbox is worth. -/
noncomputable def Try.pinned : Pinned := { name := "ytdhkfkfoibddnaa", sum := "717142149a87fe126066b7993a37a88647a782603370821a22474508c7492b43", checked := Try.checked }
namespace Rows
def none {H : Type} : Left H := { results := [], args := [] }

/-- 'laws.FnExactGreedyMove': WHATEVER THE INPUT: true; the input reads as it did. -/
def fnExactGreedyMoveSpec : ChangeSpec := { name := "fnExactGreedyMove", fn := fun _ => fun
  | [d1, d2] => { results := [.lit (.bool true)], args := [d1, d2] }
  | _ => none }
def fnExactGreedyMoveRow : OpenClaim := { program := "ytdhkfkfoibddnaa", sum := "717142149a87fe126066b7993a37a88647a782603370821a22474508c7492b43", func := "loop.example/g00926/laws.FnExactGreedyMove", spec := "fnExactGreedyMove", unfollowed := true, recurses := true, apart := false }
def FnExactGreedyMoveSaid : Prop := fnExactGreedyMoveRow.holds Try.pinned (OpenSpec.ofChange fnExactGreedyMoveSpec)

/-- ITS FALSE NEIGHBOUR: 'it returns false'. Refute it at one input. -/
def fnExactGreedyMoveWrong : ChangeSpec := { name := "fnExactGreedyMove", fn := fun _ => fun
  | [d1, d2] => { results := [.lit (.bool false)], args := [d1, d2] }
  | _ => none }
def FnExactGreedyMoveWrongFalsely : Prop := fnExactGreedyMoveRow.holds Try.pinned (OpenSpec.ofChange fnExactGreedyMoveWrong)

/-- 'laws.FnExactCanMove': WHATEVER THE INPUT: true; the input reads as it did. -/
def fnExactCanMoveSpec : ChangeSpec := { name := "fnExactCanMove", fn := fun _ => fun
  | [d1, d2] => { results := [.lit (.bool true)], args := [d1, d2] }
  | _ => none }
def fnExactCanMoveRow : OpenClaim := { program := "ytdhkfkfoibddnaa", sum := "717142149a87fe126066b7993a37a88647a782603370821a22474508c7492b43", func := "loop.example/g00926/laws.FnExactCanMove", spec := "fnExactCanMove", unfollowed := true, recurses := true, apart := false }
def FnExactCanMoveSaid : Prop := fnExactCanMoveRow.holds Try.pinned (OpenSpec.ofChange fnExactCanMoveSpec)

/-- ITS FALSE NEIGHBOUR: 'it returns false'. Refute it at one input. -/
def fnExactCanMoveWrong : ChangeSpec := { name := "fnExactCanMove", fn := fun _ => fun
  | [d1, d2] => { results := [.lit (.bool false)], args := [d1, d2] }
  | _ => none }
def FnExactCanMoveWrongFalsely : Prop := fnExactCanMoveRow.holds Try.pinned (OpenSpec.ofChange fnExactCanMoveWrong)

/-- 'laws.FnExactLegalMoves': WHATEVER THE INPUT: true; the input reads as it did. -/
def fnExactLegalMovesSpec : ChangeSpec := { name := "fnExactLegalMoves", fn := fun _ => fun
  | [d1, d2] => { results := [.lit (.bool true)], args := [d1, d2] }
  | _ => none }
def fnExactLegalMovesRow : OpenClaim := { program := "ytdhkfkfoibddnaa", sum := "717142149a87fe126066b7993a37a88647a782603370821a22474508c7492b43", func := "loop.example/g00926/laws.FnExactLegalMoves", spec := "fnExactLegalMoves", unfollowed := true, recurses := true, apart := false }
def FnExactLegalMovesSaid : Prop := fnExactLegalMovesRow.holds Try.pinned (OpenSpec.ofChange fnExactLegalMovesSpec)

/-- ITS FALSE NEIGHBOUR: 'it returns false'. Refute it at one input. -/
def fnExactLegalMovesWrong : ChangeSpec := { name := "fnExactLegalMoves", fn := fun _ => fun
  | [d1, d2] => { results := [.lit (.bool false)], args := [d1, d2] }
  | _ => none }
def FnExactLegalMovesWrongFalsely : Prop := fnExactLegalMovesRow.holds Try.pinned (OpenSpec.ofChange fnExactLegalMovesWrong)

/-- 'laws.FnExactMakeMove': WHATEVER THE INPUT: true; the input reads as it did. -/
def fnExactMakeMoveSpec : ChangeSpec := { name := "fnExactMakeMove", fn := fun _ => fun
  | [d1, d2, d3] => { results := [.lit (.bool true)], args := [d1, d2, d3] }
  | _ => none }
def fnExactMakeMoveRow : OpenClaim := { program := "ytdhkfkfoibddnaa", sum := "717142149a87fe126066b7993a37a88647a782603370821a22474508c7492b43", func := "loop.example/g00926/laws.FnExactMakeMove", spec := "fnExactMakeMove", unfollowed := true, recurses := true, apart := false }
def FnExactMakeMoveSaid : Prop := fnExactMakeMoveRow.holds Try.pinned (OpenSpec.ofChange fnExactMakeMoveSpec)

/-- ITS FALSE NEIGHBOUR: 'it returns false'. Refute it at one input. -/
def fnExactMakeMoveWrong : ChangeSpec := { name := "fnExactMakeMove", fn := fun _ => fun
  | [d1, d2, d3] => { results := [.lit (.bool false)], args := [d1, d2, d3] }
  | _ => none }
def FnExactMakeMoveWrongFalsely : Prop := fnExactMakeMoveRow.holds Try.pinned (OpenSpec.ofChange fnExactMakeMoveWrong)

/-- 'laws.FnExactMoveFault': WHATEVER THE INPUT: true; the input reads as it did. -/
def fnExactMoveFaultSpec : ChangeSpec := { name := "fnExactMoveFault", fn := fun _ => fun
  | [d1, d2, d3] => { results := [.lit (.bool true)], args := [d1, d2, d3] }
  | _ => none }
def fnExactMoveFaultRow : OpenClaim := { program := "ytdhkfkfoibddnaa", sum := "717142149a87fe126066b7993a37a88647a782603370821a22474508c7492b43", func := "loop.example/g00926/laws.FnExactMoveFault", spec := "fnExactMoveFault", unfollowed := true, recurses := true, apart := false }
def FnExactMoveFaultSaid : Prop := fnExactMoveFaultRow.holds Try.pinned (OpenSpec.ofChange fnExactMoveFaultSpec)

/-- ITS FALSE NEIGHBOUR: 'it returns false'. Refute it at one input. -/
def fnExactMoveFaultWrong : ChangeSpec := { name := "fnExactMoveFault", fn := fun _ => fun
  | [d1, d2, d3] => { results := [.lit (.bool false)], args := [d1, d2, d3] }
  | _ => none }
def FnExactMoveFaultWrongFalsely : Prop := fnExactMoveFaultRow.holds Try.pinned (OpenSpec.ofChange fnExactMoveFaultWrong)

/-- 'laws.FnExactMovesAgain': WHATEVER THE INPUT: true; the input reads as it did. -/
def fnExactMovesAgainSpec : ChangeSpec := { name := "fnExactMovesAgain", fn := fun _ => fun
  | [d1, d2, d3] => { results := [.lit (.bool true)], args := [d1, d2, d3] }
  | _ => none }
def fnExactMovesAgainRow : OpenClaim := { program := "ytdhkfkfoibddnaa", sum := "717142149a87fe126066b7993a37a88647a782603370821a22474508c7492b43", func := "loop.example/g00926/laws.FnExactMovesAgain", spec := "fnExactMovesAgain", unfollowed := true, recurses := true, apart := false }
def FnExactMovesAgainSaid : Prop := fnExactMovesAgainRow.holds Try.pinned (OpenSpec.ofChange fnExactMovesAgainSpec)

/-- ITS FALSE NEIGHBOUR: 'it returns false'. Refute it at one input. -/
def fnExactMovesAgainWrong : ChangeSpec := { name := "fnExactMovesAgain", fn := fun _ => fun
  | [d1, d2, d3] => { results := [.lit (.bool false)], args := [d1, d2, d3] }
  | _ => none }
def FnExactMovesAgainWrongFalsely : Prop := fnExactMovesAgainRow.holds Try.pinned (OpenSpec.ofChange fnExactMovesAgainWrong)

/-- 'laws.FnExactTakeCaptures': WHATEVER THE INPUT: true; the input reads as it did. -/
def fnExactTakeCapturesSpec : ChangeSpec := { name := "fnExactTakeCaptures", fn := fun _ => fun
  | [d1, d2, d3] => { results := [.lit (.bool true)], args := [d1, d2, d3] }
  | _ => none }
def fnExactTakeCapturesRow : OpenClaim := { program := "ytdhkfkfoibddnaa", sum := "717142149a87fe126066b7993a37a88647a782603370821a22474508c7492b43", func := "loop.example/g00926/laws.FnExactTakeCaptures", spec := "fnExactTakeCaptures", unfollowed := true, recurses := true, apart := false }
def FnExactTakeCapturesSaid : Prop := fnExactTakeCapturesRow.holds Try.pinned (OpenSpec.ofChange fnExactTakeCapturesSpec)

/-- ITS FALSE NEIGHBOUR: 'it returns false'. Refute it at one input. -/
def fnExactTakeCapturesWrong : ChangeSpec := { name := "fnExactTakeCaptures", fn := fun _ => fun
  | [d1, d2, d3] => { results := [.lit (.bool false)], args := [d1, d2, d3] }
  | _ => none }
def FnExactTakeCapturesWrongFalsely : Prop := fnExactTakeCapturesRow.holds Try.pinned (OpenSpec.ofChange fnExactTakeCapturesWrong)

/-- 'laws.FnExactCapturePits': WHATEVER THE INPUT: true; the input reads as it did. -/
def fnExactCapturePitsSpec : ChangeSpec := { name := "fnExactCapturePits", fn := fun _ => fun
  | [d1, d2, d3] => { results := [.lit (.bool true)], args := [d1, d2, d3] }
  | _ => none }
def fnExactCapturePitsRow : OpenClaim := { program := "ytdhkfkfoibddnaa", sum := "717142149a87fe126066b7993a37a88647a782603370821a22474508c7492b43", func := "loop.example/g00926/laws.FnExactCapturePits", spec := "fnExactCapturePits", unfollowed := true, recurses := true, apart := false }
def FnExactCapturePitsSaid : Prop := fnExactCapturePitsRow.holds Try.pinned (OpenSpec.ofChange fnExactCapturePitsSpec)

/-- ITS FALSE NEIGHBOUR: 'it returns false'. Refute it at one input. -/
def fnExactCapturePitsWrong : ChangeSpec := { name := "fnExactCapturePits", fn := fun _ => fun
  | [d1, d2, d3] => { results := [.lit (.bool false)], args := [d1, d2, d3] }
  | _ => none }
def FnExactCapturePitsWrongFalsely : Prop := fnExactCapturePitsRow.holds Try.pinned (OpenSpec.ofChange fnExactCapturePitsWrong)

/-- 'laws.FnExactCaptureGain': WHATEVER THE INPUT: true; the input reads as it did. -/
def fnExactCaptureGainSpec : ChangeSpec := { name := "fnExactCaptureGain", fn := fun _ => fun
  | [d1, d2, d3] => { results := [.lit (.bool true)], args := [d1, d2, d3] }
  | _ => none }
def fnExactCaptureGainRow : OpenClaim := { program := "ytdhkfkfoibddnaa", sum := "717142149a87fe126066b7993a37a88647a782603370821a22474508c7492b43", func := "loop.example/g00926/laws.FnExactCaptureGain", spec := "fnExactCaptureGain", unfollowed := true, recurses := true, apart := false }
def FnExactCaptureGainSaid : Prop := fnExactCaptureGainRow.holds Try.pinned (OpenSpec.ofChange fnExactCaptureGainSpec)

/-- ITS FALSE NEIGHBOUR: 'it returns false'. Refute it at one input. -/
def fnExactCaptureGainWrong : ChangeSpec := { name := "fnExactCaptureGain", fn := fun _ => fun
  | [d1, d2, d3] => { results := [.lit (.bool false)], args := [d1, d2, d3] }
  | _ => none }
def FnExactCaptureGainWrongFalsely : Prop := fnExactCaptureGainRow.holds Try.pinned (OpenSpec.ofChange fnExactCaptureGainWrong)

/- THE SECOND FORM. 'bulk': how many values and letters a reading holds, each counted each time it is reached (what is shared counts as often as it is met; a slice's spare places count too). A statement '..UptoSaid' is the law's where the arguments, and the package variables that the reading takes, are together of bulk at most 1048576: NARROWER than '..Said'. Prove '..Said' where nothing that the law and all that it calls make is longer than what came in: it says more and counts as full. Else prove '..UptoSaid'. A law counts once. -/
mutual
def uptoBulk {H : Type} : DataW H → Nat
  | .lit (.string bytes) => bytes.length + 1
  | .lit _ => 1
  | .nil => 1
  | .ptr d => uptoBulk d + 1
  | .slice elems spare => uptoBulkAll elems + uptoBulkAll spare + 1
  | .agg parts => uptoBulkAll parts + 1
  | .iface _ d => uptoBulk d + 1
  | .map entries => uptoBulkEntries entries + 1
  | .held _ => 1
def uptoBulkAll {H : Type} : List (DataW H) → Nat
  | [] => 0
  | d :: r => uptoBulk d + uptoBulkAll r
def uptoBulkEntries {H : Type} : List (Lit × DataW H) → Nat
  | [] => 0
  | x :: r => uptoBulkEntry x + uptoBulkEntries r
def uptoBulkEntry {H : Type} : Lit × DataW H → Nat
  | (.string bytes, d) => bytes.length + uptoBulk d + 1
  | (_, d) => uptoBulk d + 1
 end
def uptoSmall : (H : Type) → List (DataW H) → Bool := fun _ ds => decide (uptoBulkAll ds ≤ 1048576)
def OpenSpec.upto (s : _root_.Go.ChangeSpec) : _root_.Go.OpenSpec := { _root_.Go.OpenSpec.ofChange s with cond := some uptoSmall }

/-- 'laws.FnExactGreedyMove', WHERE WHAT IT READS IS OF BULK AT MOST 1048576: true; the input reads as it did. -/
def fnExactGreedyMoveUptoRow : OpenClaim := { program := "ytdhkfkfoibddnaa", sum := "717142149a87fe126066b7993a37a88647a782603370821a22474508c7492b43", func := "loop.example/g00926/laws.FnExactGreedyMove", spec := "fnExactGreedyMove", unfollowed := true, recurses := true, apart := false, narrowed := true }
def FnExactGreedyMoveUptoSaid : Prop := fnExactGreedyMoveUptoRow.holds Try.pinned (OpenSpec.upto fnExactGreedyMoveSpec)

/-- 'laws.FnExactCanMove', WHERE WHAT IT READS IS OF BULK AT MOST 1048576: true; the input reads as it did. -/
def fnExactCanMoveUptoRow : OpenClaim := { program := "ytdhkfkfoibddnaa", sum := "717142149a87fe126066b7993a37a88647a782603370821a22474508c7492b43", func := "loop.example/g00926/laws.FnExactCanMove", spec := "fnExactCanMove", unfollowed := true, recurses := true, apart := false, narrowed := true }
def FnExactCanMoveUptoSaid : Prop := fnExactCanMoveUptoRow.holds Try.pinned (OpenSpec.upto fnExactCanMoveSpec)

/-- 'laws.FnExactLegalMoves', WHERE WHAT IT READS IS OF BULK AT MOST 1048576: true; the input reads as it did. -/
def fnExactLegalMovesUptoRow : OpenClaim := { program := "ytdhkfkfoibddnaa", sum := "717142149a87fe126066b7993a37a88647a782603370821a22474508c7492b43", func := "loop.example/g00926/laws.FnExactLegalMoves", spec := "fnExactLegalMoves", unfollowed := true, recurses := true, apart := false, narrowed := true }
def FnExactLegalMovesUptoSaid : Prop := fnExactLegalMovesUptoRow.holds Try.pinned (OpenSpec.upto fnExactLegalMovesSpec)

/-- 'laws.FnExactMakeMove', WHERE WHAT IT READS IS OF BULK AT MOST 1048576: true; the input reads as it did. -/
def fnExactMakeMoveUptoRow : OpenClaim := { program := "ytdhkfkfoibddnaa", sum := "717142149a87fe126066b7993a37a88647a782603370821a22474508c7492b43", func := "loop.example/g00926/laws.FnExactMakeMove", spec := "fnExactMakeMove", unfollowed := true, recurses := true, apart := false, narrowed := true }
def FnExactMakeMoveUptoSaid : Prop := fnExactMakeMoveUptoRow.holds Try.pinned (OpenSpec.upto fnExactMakeMoveSpec)

/-- 'laws.FnExactMoveFault', WHERE WHAT IT READS IS OF BULK AT MOST 1048576: true; the input reads as it did. -/
def fnExactMoveFaultUptoRow : OpenClaim := { program := "ytdhkfkfoibddnaa", sum := "717142149a87fe126066b7993a37a88647a782603370821a22474508c7492b43", func := "loop.example/g00926/laws.FnExactMoveFault", spec := "fnExactMoveFault", unfollowed := true, recurses := true, apart := false, narrowed := true }
def FnExactMoveFaultUptoSaid : Prop := fnExactMoveFaultUptoRow.holds Try.pinned (OpenSpec.upto fnExactMoveFaultSpec)

/-- 'laws.FnExactMovesAgain', WHERE WHAT IT READS IS OF BULK AT MOST 1048576: true; the input reads as it did. -/
def fnExactMovesAgainUptoRow : OpenClaim := { program := "ytdhkfkfoibddnaa", sum := "717142149a87fe126066b7993a37a88647a782603370821a22474508c7492b43", func := "loop.example/g00926/laws.FnExactMovesAgain", spec := "fnExactMovesAgain", unfollowed := true, recurses := true, apart := false, narrowed := true }
def FnExactMovesAgainUptoSaid : Prop := fnExactMovesAgainUptoRow.holds Try.pinned (OpenSpec.upto fnExactMovesAgainSpec)

/-- 'laws.FnExactTakeCaptures', WHERE WHAT IT READS IS OF BULK AT MOST 1048576: true; the input reads as it did. -/
def fnExactTakeCapturesUptoRow : OpenClaim := { program := "ytdhkfkfoibddnaa", sum := "717142149a87fe126066b7993a37a88647a782603370821a22474508c7492b43", func := "loop.example/g00926/laws.FnExactTakeCaptures", spec := "fnExactTakeCaptures", unfollowed := true, recurses := true, apart := false, narrowed := true }
def FnExactTakeCapturesUptoSaid : Prop := fnExactTakeCapturesUptoRow.holds Try.pinned (OpenSpec.upto fnExactTakeCapturesSpec)

/-- 'laws.FnExactCapturePits', WHERE WHAT IT READS IS OF BULK AT MOST 1048576: true; the input reads as it did. -/
def fnExactCapturePitsUptoRow : OpenClaim := { program := "ytdhkfkfoibddnaa", sum := "717142149a87fe126066b7993a37a88647a782603370821a22474508c7492b43", func := "loop.example/g00926/laws.FnExactCapturePits", spec := "fnExactCapturePits", unfollowed := true, recurses := true, apart := false, narrowed := true }
def FnExactCapturePitsUptoSaid : Prop := fnExactCapturePitsUptoRow.holds Try.pinned (OpenSpec.upto fnExactCapturePitsSpec)

/-- 'laws.FnExactCaptureGain', WHERE WHAT IT READS IS OF BULK AT MOST 1048576: true; the input reads as it did. -/
def fnExactCaptureGainUptoRow : OpenClaim := { program := "ytdhkfkfoibddnaa", sum := "717142149a87fe126066b7993a37a88647a782603370821a22474508c7492b43", func := "loop.example/g00926/laws.FnExactCaptureGain", spec := "fnExactCaptureGain", unfollowed := true, recurses := true, apart := false, narrowed := true }
def FnExactCaptureGainUptoSaid : Prop := fnExactCaptureGainUptoRow.holds Try.pinned (OpenSpec.upto fnExactCaptureGainSpec)

end Rows
end Go.Proofs.Ytdhkfkfoibddnaa
