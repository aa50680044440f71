/-
  No cell of these rows narrows 'for every input' (looked for: loops, veiled, ifaces, maps, wideKeys, modest, calm, conditions, laid).
  DERIVED. THE GIVEN ROWS OF THIS SEAT. 10 by the template 'for every input the law returns true; each argument reads behind the call as it read before'; 0 by the template 'total and deterministic' (their statements: YthdgmmnbbccidaaTotals.lean).
  GIVEN WITH THE SEED: the statements are not yours to turn. If you find one false, say at which input.
  Laid BY PROGRAM, IN A SANDBOX (cutbox-rows.mjs): the forced cells as the released guide's own fill.sh prints them over the translation f4684d0c1070a612… (all of the seat's roots in one cut). By AI agents, Wed Nov 11 2026. No macro, syntax, notation, axiom, sorry.
-/
import Derived.Test.YthdgmmnbbccidaaChecked
import GoSem.Claim
import GoSem.ClaimJoined
import GoSem.ClaimMapViews
import Derived.JoinedTies
import Derived.KernelRfl
namespace Go.Proofs.Ythdgmmnbbccidaa
/- THE CELL 'sum', in the pinned program and in every row, IS THE sha256 OF THE DUMP (.gsa) THAT YthdgmmnbbccidaaProg.lean LOADS. Nothing in Lean hashes anything: it is a label: what it is worth is what the hold of that sum in a sandbox is worth. -/
noncomputable def Try.pinned : Pinned := { name := "ythdgmmnbbccidaa", sum := "f4684d0c1070a612f89fcffca2f6fb6fcced61d7b7e135419738bc4b7c3c978a", checked := Try.checked }
namespace Rows
def none {H : Type} : Left H := { results := [], args := [] }

/-- 'laws.FnExactSowLap': WHATEVER THE INPUT: true; the input reads as it did. -/
def fnExactSowLapSpec : ChangeSpec := { name := "fnExactSowLap", fn := fun _ => fun
  | [d1, d2, d3] => { results := [.lit (.bool true)], args := [d1, d2, d3] }
  | _ => none }
def fnExactSowLapRow : OpenClaim := { program := "ythdgmmnbbccidaa", sum := "f4684d0c1070a612f89fcffca2f6fb6fcced61d7b7e135419738bc4b7c3c978a", func := "loop.example/g00926/laws.FnExactSowLap", spec := "fnExactSowLap", unfollowed := true, recurses := true, apart := false }
def FnExactSowLapSaid : Prop := fnExactSowLapRow.holds Try.pinned (OpenSpec.ofChange fnExactSowLapSpec)

/-- ITS FALSE NEIGHBOUR: 'it returns false'. Refute it at one input. -/
def fnExactSowLapWrong : ChangeSpec := { name := "fnExactSowLap", fn := fun _ => fun
  | [d1, d2, d3] => { results := [.lit (.bool false)], args := [d1, d2, d3] }
  | _ => none }
def FnExactSowLapWrongFalsely : Prop := fnExactSowLapRow.holds Try.pinned (OpenSpec.ofChange fnExactSowLapWrong)

/-- 'laws.FnExactSowMove': WHATEVER THE INPUT: true; the input reads as it did. -/
def fnExactSowMoveSpec : ChangeSpec := { name := "fnExactSowMove", fn := fun _ => fun
  | [d1, d2, d3] => { results := [.lit (.bool true)], args := [d1, d2, d3] }
  | _ => none }
def fnExactSowMoveRow : OpenClaim := { program := "ythdgmmnbbccidaa", sum := "f4684d0c1070a612f89fcffca2f6fb6fcced61d7b7e135419738bc4b7c3c978a", func := "loop.example/g00926/laws.FnExactSowMove", spec := "fnExactSowMove", unfollowed := true, recurses := true, apart := false }
def FnExactSowMoveSaid : Prop := fnExactSowMoveRow.holds Try.pinned (OpenSpec.ofChange fnExactSowMoveSpec)

/-- ITS FALSE NEIGHBOUR: 'it returns false'. Refute it at one input. -/
def fnExactSowMoveWrong : ChangeSpec := { name := "fnExactSowMove", fn := fun _ => fun
  | [d1, d2, d3] => { results := [.lit (.bool false)], args := [d1, d2, d3] }
  | _ => none }
def FnExactSowMoveWrongFalsely : Prop := fnExactSowMoveRow.holds Try.pinned (OpenSpec.ofChange fnExactSowMoveWrong)

/-- 'laws.FnExactSowPath': WHATEVER THE INPUT: true; the input reads as it did. -/
def fnExactSowPathSpec : ChangeSpec := { name := "fnExactSowPath", fn := fun _ => fun
  | [d1, d2, d3] => { results := [.lit (.bool true)], args := [d1, d2, d3] }
  | _ => none }
def fnExactSowPathRow : OpenClaim := { program := "ythdgmmnbbccidaa", sum := "f4684d0c1070a612f89fcffca2f6fb6fcced61d7b7e135419738bc4b7c3c978a", func := "loop.example/g00926/laws.FnExactSowPath", spec := "fnExactSowPath", unfollowed := true, recurses := true, apart := false }
def FnExactSowPathSaid : Prop := fnExactSowPathRow.holds Try.pinned (OpenSpec.ofChange fnExactSowPathSpec)

/-- ITS FALSE NEIGHBOUR: 'it returns false'. Refute it at one input. -/
def fnExactSowPathWrong : ChangeSpec := { name := "fnExactSowPath", fn := fun _ => fun
  | [d1, d2, d3] => { results := [.lit (.bool false)], args := [d1, d2, d3] }
  | _ => none }
def FnExactSowPathWrongFalsely : Prop := fnExactSowPathRow.holds Try.pinned (OpenSpec.ofChange fnExactSowPathWrong)

/-- 'laws.FnExactIsEndless': WHATEVER THE INPUT: true; the input reads as it did. -/
def fnExactIsEndlessSpec : ChangeSpec := { name := "fnExactIsEndless", fn := fun _ => fun
  | [d1, d2, d3] => { results := [.lit (.bool true)], args := [d1, d2, d3] }
  | _ => none }
def fnExactIsEndlessRow : OpenClaim := { program := "ythdgmmnbbccidaa", sum := "f4684d0c1070a612f89fcffca2f6fb6fcced61d7b7e135419738bc4b7c3c978a", func := "loop.example/g00926/laws.FnExactIsEndless", spec := "fnExactIsEndless", unfollowed := true, recurses := true, apart := false }
def FnExactIsEndlessSaid : Prop := fnExactIsEndlessRow.holds Try.pinned (OpenSpec.ofChange fnExactIsEndlessSpec)

/-- ITS FALSE NEIGHBOUR: 'it returns false'. Refute it at one input. -/
def fnExactIsEndlessWrong : ChangeSpec := { name := "fnExactIsEndless", fn := fun _ => fun
  | [d1, d2, d3] => { results := [.lit (.bool false)], args := [d1, d2, d3] }
  | _ => none }
def FnExactIsEndlessWrongFalsely : Prop := fnExactIsEndlessRow.holds Try.pinned (OpenSpec.ofChange fnExactIsEndlessWrong)

/-- 'laws.FnSowing': WHATEVER THE INPUT: true; the input reads as it did. -/
def fnSowingSpec : ChangeSpec := { name := "fnSowing", fn := fun _ => fun
  | [d1, d2] => { results := [.lit (.bool true)], args := [d1, d2] }
  | _ => none }
def fnSowingRow : OpenClaim := { program := "ythdgmmnbbccidaa", sum := "f4684d0c1070a612f89fcffca2f6fb6fcced61d7b7e135419738bc4b7c3c978a", func := "loop.example/g00926/laws.FnSowing", spec := "fnSowing", unfollowed := true, recurses := true, apart := false }
def FnSowingSaid : Prop := fnSowingRow.holds Try.pinned (OpenSpec.ofChange fnSowingSpec)

/-- ITS FALSE NEIGHBOUR: 'it returns false'. Refute it at one input. -/
def fnSowingWrong : ChangeSpec := { name := "fnSowing", fn := fun _ => fun
  | [d1, d2] => { results := [.lit (.bool false)], args := [d1, d2] }
  | _ => none }
def FnSowingWrongFalsely : Prop := fnSowingRow.holds Try.pinned (OpenSpec.ofChange fnSowingWrong)

/-- 'laws.FnExactTakeCaptures': WHATEVER THE INPUT: true; the input reads as it did. -/
def fnExactTakeCapturesSpec : ChangeSpec := { name := "fnExactTakeCaptures", fn := fun _ => fun
  | [d1, d2, d3] => { results := [.lit (.bool true)], args := [d1, d2, d3] }
  | _ => none }
def fnExactTakeCapturesRow : OpenClaim := { program := "ythdgmmnbbccidaa", sum := "f4684d0c1070a612f89fcffca2f6fb6fcced61d7b7e135419738bc4b7c3c978a", func := "loop.example/g00926/laws.FnExactTakeCaptures", spec := "fnExactTakeCaptures", unfollowed := true, recurses := true, apart := false }
def FnExactTakeCapturesSaid : Prop := fnExactTakeCapturesRow.holds Try.pinned (OpenSpec.ofChange fnExactTakeCapturesSpec)

/-- ITS FALSE NEIGHBOUR: 'it returns false'. Refute it at one input. -/
def fnExactTakeCapturesWrong : ChangeSpec := { name := "fnExactTakeCaptures", fn := fun _ => fun
  | [d1, d2, d3] => { results := [.lit (.bool false)], args := [d1, d2, d3] }
  | _ => none }
def FnExactTakeCapturesWrongFalsely : Prop := fnExactTakeCapturesRow.holds Try.pinned (OpenSpec.ofChange fnExactTakeCapturesWrong)

/-- 'laws.FnCaptures': WHATEVER THE INPUT: true; the input reads as it did. -/
def fnCapturesSpec : ChangeSpec := { name := "fnCaptures", fn := fun _ => fun
  | [d] => { results := [.lit (.bool true)], args := [d] }
  | _ => none }
def fnCapturesRow : OpenClaim := { program := "ythdgmmnbbccidaa", sum := "f4684d0c1070a612f89fcffca2f6fb6fcced61d7b7e135419738bc4b7c3c978a", func := "loop.example/g00926/laws.FnCaptures", spec := "fnCaptures", unfollowed := true, recurses := true, apart := false }
def FnCapturesSaid : Prop := fnCapturesRow.holds Try.pinned (OpenSpec.ofChange fnCapturesSpec)

/-- ITS FALSE NEIGHBOUR: 'it returns false'. Refute it at one input. -/
def fnCapturesWrong : ChangeSpec := { name := "fnCaptures", fn := fun _ => fun
  | [d] => { results := [.lit (.bool false)], args := [d] }
  | _ => none }
def FnCapturesWrongFalsely : Prop := fnCapturesRow.holds Try.pinned (OpenSpec.ofChange fnCapturesWrong)

/-- 'laws.FnCaptureNames': WHATEVER THE INPUT: true; the input reads as it did. -/
def fnCaptureNamesSpec : ChangeSpec := { name := "fnCaptureNames", fn := fun _ => fun
  | [d] => { results := [.lit (.bool true)], args := [d] }
  | _ => none }
def fnCaptureNamesRow : OpenClaim := { program := "ythdgmmnbbccidaa", sum := "f4684d0c1070a612f89fcffca2f6fb6fcced61d7b7e135419738bc4b7c3c978a", func := "loop.example/g00926/laws.FnCaptureNames", spec := "fnCaptureNames", unfollowed := true, recurses := true, apart := false }
def FnCaptureNamesSaid : Prop := fnCaptureNamesRow.holds Try.pinned (OpenSpec.ofChange fnCaptureNamesSpec)

/-- ITS FALSE NEIGHBOUR: 'it returns false'. Refute it at one input. -/
def fnCaptureNamesWrong : ChangeSpec := { name := "fnCaptureNames", fn := fun _ => fun
  | [d] => { results := [.lit (.bool false)], args := [d] }
  | _ => none }
def FnCaptureNamesWrongFalsely : Prop := fnCaptureNamesRow.holds Try.pinned (OpenSpec.ofChange fnCaptureNamesWrong)

/-- 'laws.FnExactMustFeed': WHATEVER THE INPUT: true; the input reads as it did. -/
def fnExactMustFeedSpec : ChangeSpec := { name := "fnExactMustFeed", fn := fun _ => fun
  | [d1, d2] => { results := [.lit (.bool true)], args := [d1, d2] }
  | _ => none }
def fnExactMustFeedRow : OpenClaim := { program := "ythdgmmnbbccidaa", sum := "f4684d0c1070a612f89fcffca2f6fb6fcced61d7b7e135419738bc4b7c3c978a", func := "loop.example/g00926/laws.FnExactMustFeed", spec := "fnExactMustFeed", unfollowed := true, recurses := true, apart := false }
def FnExactMustFeedSaid : Prop := fnExactMustFeedRow.holds Try.pinned (OpenSpec.ofChange fnExactMustFeedSpec)

/-- ITS FALSE NEIGHBOUR: 'it returns false'. Refute it at one input. -/
def fnExactMustFeedWrong : ChangeSpec := { name := "fnExactMustFeed", fn := fun _ => fun
  | [d1, d2] => { results := [.lit (.bool false)], args := [d1, d2] }
  | _ => none }
def FnExactMustFeedWrongFalsely : Prop := fnExactMustFeedRow.holds Try.pinned (OpenSpec.ofChange fnExactMustFeedWrong)

/-- 'laws.FnExactSameResults': WHATEVER THE INPUT: true; the input reads as it did. -/
def fnExactSameResultsSpec : ChangeSpec := { name := "fnExactSameResults", fn := fun _ => fun
  | [d1, d2] => { results := [.lit (.bool true)], args := [d1, d2] }
  | _ => none }
def fnExactSameResultsRow : OpenClaim := { program := "ythdgmmnbbccidaa", sum := "f4684d0c1070a612f89fcffca2f6fb6fcced61d7b7e135419738bc4b7c3c978a", func := "loop.example/g00926/laws.FnExactSameResults", spec := "fnExactSameResults", unfollowed := true, recurses := true, apart := false }
def FnExactSameResultsSaid : Prop := fnExactSameResultsRow.holds Try.pinned (OpenSpec.ofChange fnExactSameResultsSpec)

/-- ITS FALSE NEIGHBOUR: 'it returns false'. Refute it at one input. -/
def fnExactSameResultsWrong : ChangeSpec := { name := "fnExactSameResults", fn := fun _ => fun
  | [d1, d2] => { results := [.lit (.bool false)], args := [d1, d2] }
  | _ => none }
def FnExactSameResultsWrongFalsely : Prop := fnExactSameResultsRow.holds Try.pinned (OpenSpec.ofChange fnExactSameResultsWrong)

/- THE SECOND FORM. 'bulk': how many values and letters a reading holds, each counted each time it is reached (what is shared counts as often as it is met; a slice's spare places count too). A statement '..UptoSaid' is the law's where the arguments, and the package variables that the reading takes, are together of bulk at most 1048576: NARROWER than '..Said'. Prove '..Said' where nothing that the law and all that it calls make is longer than what came in: it says more and counts as full. Else prove '..UptoSaid'. A law counts once. -/
mutual
def uptoBulk {H : Type} : DataW H → Nat
  | .lit (.string bytes) => bytes.length + 1
  | .lit _ => 1
  | .nil => 1
  | .ptr d => uptoBulk d + 1
  | .slice elems spare => uptoBulkAll elems + uptoBulkAll spare + 1
  | .agg parts => uptoBulkAll parts + 1
  | .iface _ d => uptoBulk d + 1
  | .map entries => uptoBulkEntries entries + 1
  | .held _ => 1
def uptoBulkAll {H : Type} : List (DataW H) → Nat
  | [] => 0
  | d :: r => uptoBulk d + uptoBulkAll r
def uptoBulkEntries {H : Type} : List (Lit × DataW H) → Nat
  | [] => 0
  | x :: r => uptoBulkEntry x + uptoBulkEntries r
def uptoBulkEntry {H : Type} : Lit × DataW H → Nat
  | (.string bytes, d) => bytes.length + uptoBulk d + 1
  | (_, d) => uptoBulk d + 1
 end
def uptoSmall : (H : Type) → List (DataW H) → Bool := fun _ ds => decide (uptoBulkAll ds ≤ 1048576)
def OpenSpec.upto (s : _root_.Go.ChangeSpec) : _root_.Go.OpenSpec := { _root_.Go.OpenSpec.ofChange s with cond := some uptoSmall }

/-- 'laws.FnExactSowLap', WHERE WHAT IT READS IS OF BULK AT MOST 1048576: true; the input reads as it did. -/
def fnExactSowLapUptoRow : OpenClaim := { program := "ythdgmmnbbccidaa", sum := "f4684d0c1070a612f89fcffca2f6fb6fcced61d7b7e135419738bc4b7c3c978a", func := "loop.example/g00926/laws.FnExactSowLap", spec := "fnExactSowLap", unfollowed := true, recurses := true, apart := false, narrowed := true }
def FnExactSowLapUptoSaid : Prop := fnExactSowLapUptoRow.holds Try.pinned (OpenSpec.upto fnExactSowLapSpec)

/-- 'laws.FnExactSowMove', WHERE WHAT IT READS IS OF BULK AT MOST 1048576: true; the input reads as it did. -/
def fnExactSowMoveUptoRow : OpenClaim := { program := "ythdgmmnbbccidaa", sum := "f4684d0c1070a612f89fcffca2f6fb6fcced61d7b7e135419738bc4b7c3c978a", func := "loop.example/g00926/laws.FnExactSowMove", spec := "fnExactSowMove", unfollowed := true, recurses := true, apart := false, narrowed := true }
def FnExactSowMoveUptoSaid : Prop := fnExactSowMoveUptoRow.holds Try.pinned (OpenSpec.upto fnExactSowMoveSpec)

/-- 'laws.FnExactSowPath', WHERE WHAT IT READS IS OF BULK AT MOST 1048576: true; the input reads as it did. -/
def fnExactSowPathUptoRow : OpenClaim := { program := "ythdgmmnbbccidaa", sum := "f4684d0c1070a612f89fcffca2f6fb6fcced61d7b7e135419738bc4b7c3c978a", func := "loop.example/g00926/laws.FnExactSowPath", spec := "fnExactSowPath", unfollowed := true, recurses := true, apart := false, narrowed := true }
def FnExactSowPathUptoSaid : Prop := fnExactSowPathUptoRow.holds Try.pinned (OpenSpec.upto fnExactSowPathSpec)

/-- 'laws.FnExactIsEndless', WHERE WHAT IT READS IS OF BULK AT MOST 1048576: true; the input reads as it did. -/
def fnExactIsEndlessUptoRow : OpenClaim := { program := "ythdgmmnbbccidaa", sum := "f4684d0c1070a612f89fcffca2f6fb6fcced61d7b7e135419738bc4b7c3c978a", func := "loop.example/g00926/laws.FnExactIsEndless", spec := "fnExactIsEndless", unfollowed := true, recurses := true, apart := false, narrowed := true }
def FnExactIsEndlessUptoSaid : Prop := fnExactIsEndlessUptoRow.holds Try.pinned (OpenSpec.upto fnExactIsEndlessSpec)

/-- 'laws.FnSowing', WHERE WHAT IT READS IS OF BULK AT MOST 1048576: true; the input reads as it did. -/
def fnSowingUptoRow : OpenClaim := { program := "ythdgmmnbbccidaa", sum := "f4684d0c1070a612f89fcffca2f6fb6fcced61d7b7e135419738bc4b7c3c978a", func := "loop.example/g00926/laws.FnSowing", spec := "fnSowing", unfollowed := true, recurses := true, apart := false, narrowed := true }
def FnSowingUptoSaid : Prop := fnSowingUptoRow.holds Try.pinned (OpenSpec.upto fnSowingSpec)

/-- 'laws.FnExactTakeCaptures', WHERE WHAT IT READS IS OF BULK AT MOST 1048576: true; the input reads as it did. -/
def fnExactTakeCapturesUptoRow : OpenClaim := { program := "ythdgmmnbbccidaa", sum := "f4684d0c1070a612f89fcffca2f6fb6fcced61d7b7e135419738bc4b7c3c978a", func := "loop.example/g00926/laws.FnExactTakeCaptures", spec := "fnExactTakeCaptures", unfollowed := true, recurses := true, apart := false, narrowed := true }
def FnExactTakeCapturesUptoSaid : Prop := fnExactTakeCapturesUptoRow.holds Try.pinned (OpenSpec.upto fnExactTakeCapturesSpec)

/-- 'laws.FnCaptures', WHERE WHAT IT READS IS OF BULK AT MOST 1048576: true; the input reads as it did. -/
def fnCapturesUptoRow : OpenClaim := { program := "ythdgmmnbbccidaa", sum := "f4684d0c1070a612f89fcffca2f6fb6fcced61d7b7e135419738bc4b7c3c978a", func := "loop.example/g00926/laws.FnCaptures", spec := "fnCaptures", unfollowed := true, recurses := true, apart := false, narrowed := true }
def FnCapturesUptoSaid : Prop := fnCapturesUptoRow.holds Try.pinned (OpenSpec.upto fnCapturesSpec)

/-- 'laws.FnCaptureNames', WHERE WHAT IT READS IS OF BULK AT MOST 1048576: true; the input reads as it did. -/
def fnCaptureNamesUptoRow : OpenClaim := { program := "ythdgmmnbbccidaa", sum := "f4684d0c1070a612f89fcffca2f6fb6fcced61d7b7e135419738bc4b7c3c978a", func := "loop.example/g00926/laws.FnCaptureNames", spec := "fnCaptureNames", unfollowed := true, recurses := true, apart := false, narrowed := true }
def FnCaptureNamesUptoSaid : Prop := fnCaptureNamesUptoRow.holds Try.pinned (OpenSpec.upto fnCaptureNamesSpec)

/-- 'laws.FnExactMustFeed', WHERE WHAT IT READS IS OF BULK AT MOST 1048576: true; the input reads as it did. -/
def fnExactMustFeedUptoRow : OpenClaim := { program := "ythdgmmnbbccidaa", sum := "f4684d0c1070a612f89fcffca2f6fb6fcced61d7b7e135419738bc4b7c3c978a", func := "loop.example/g00926/laws.FnExactMustFeed", spec := "fnExactMustFeed", unfollowed := true, recurses := true, apart := false, narrowed := true }
def FnExactMustFeedUptoSaid : Prop := fnExactMustFeedUptoRow.holds Try.pinned (OpenSpec.upto fnExactMustFeedSpec)

/-- 'laws.FnExactSameResults', WHERE WHAT IT READS IS OF BULK AT MOST 1048576: true; the input reads as it did. -/
def fnExactSameResultsUptoRow : OpenClaim := { program := "ythdgmmnbbccidaa", sum := "f4684d0c1070a612f89fcffca2f6fb6fcced61d7b7e135419738bc4b7c3c978a", func := "loop.example/g00926/laws.FnExactSameResults", spec := "fnExactSameResults", unfollowed := true, recurses := true, apart := false, narrowed := true }
def FnExactSameResultsUptoSaid : Prop := fnExactSameResultsUptoRow.holds Try.pinned (OpenSpec.upto fnExactSameResultsSpec)

end Rows
end Go.Proofs.Ythdgmmnbbccidaa
