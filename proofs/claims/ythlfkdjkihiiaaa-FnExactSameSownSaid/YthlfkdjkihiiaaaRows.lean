/-
  No cell of these rows narrows 'for every input' (looked for: loops, veiled, ifaces, maps, wideKeys, modest, calm, conditions, laid).
  DERIVED. THE GIVEN ROWS OF THIS SEAT. 10 by the template 'for every input the law returns true; each argument reads behind the call as it read before'; 0 by the template 'total and deterministic' (their statements: YthlfkdjkihiiaaaTotals.lean).
  GIVEN WITH THE SEED: the statements are not yours to turn. If you find one false, say at which input.
  Laid BY PROGRAM, IN A SANDBOX (cutbox-rows.mjs): the forced cells as the released guide's own fill.sh prints them over the translation 1663f6273ce48285… (all of the seat's roots in one cut). By AI agents, Wed Nov 11 2026. No macro, syntax, notation, axiom, sorry.
-/
import Derived.Test.YthlfkdjkihiiaaaChecked
import GoSem.Claim
import GoSem.ClaimJoined
import GoSem.ClaimMapViews
import Derived.JoinedTies
import Derived.KernelRfl
namespace Go.Proofs.Ythlfkdjkihiiaaa
/- THE CELL 'sum', in the pinned program and in every row, IS THE sha256 OF THE DUMP (.gsa) THAT YthlfkdjkihiiaaaProg.lean LOADS. Nothing in Lean hashes anything: it is a label: what it is worth is what the hold of that sum in a sandbox is worth. -/
noncomputable def Try.pinned : Pinned := { name := "ythlfkdjkihiiaaa", sum := "1663f6273ce482855fc6b3cf3a762ed26d9e73af748ccac1952b4ffd21bd1d05", checked := Try.checked }
namespace Rows
def none {H : Type} : Left H := { results := [], args := [] }

/-- 'laws.FnSowing': WHATEVER THE INPUT: true; the input reads as it did. -/
def fnSowingSpec : ChangeSpec := { name := "fnSowing", fn := fun _ => fun
  | [d1, d2] => { results := [.lit (.bool true)], args := [d1, d2] }
  | _ => none }
def fnSowingRow : OpenClaim := { program := "ythlfkdjkihiiaaa", sum := "1663f6273ce482855fc6b3cf3a762ed26d9e73af748ccac1952b4ffd21bd1d05", func := "loop.example/g00926/laws.FnSowing", spec := "fnSowing", unfollowed := true, recurses := true, apart := false }
def FnSowingSaid : Prop := fnSowingRow.holds Try.pinned (OpenSpec.ofChange fnSowingSpec)

/-- ITS FALSE NEIGHBOUR: 'it returns false'. Refute it at one input. -/
def fnSowingWrong : ChangeSpec := { name := "fnSowing", fn := fun _ => fun
  | [d1, d2] => { results := [.lit (.bool false)], args := [d1, d2] }
  | _ => none }
def FnSowingWrongFalsely : Prop := fnSowingRow.holds Try.pinned (OpenSpec.ofChange fnSowingWrong)

/-- 'laws.FnLaps': WHATEVER THE INPUT: true; the input reads as it did. -/
def fnLapsSpec : ChangeSpec := { name := "fnLaps", fn := fun _ => fun
  | [d1, d2] => { results := [.lit (.bool true)], args := [d1, d2] }
  | _ => none }
def fnLapsRow : OpenClaim := { program := "ythlfkdjkihiiaaa", sum := "1663f6273ce482855fc6b3cf3a762ed26d9e73af748ccac1952b4ffd21bd1d05", func := "loop.example/g00926/laws.FnLaps", spec := "fnLaps", unfollowed := true, recurses := true, apart := false }
def FnLapsSaid : Prop := fnLapsRow.holds Try.pinned (OpenSpec.ofChange fnLapsSpec)

/-- ITS FALSE NEIGHBOUR: 'it returns false'. Refute it at one input. -/
def fnLapsWrong : ChangeSpec := { name := "fnLaps", fn := fun _ => fun
  | [d1, d2] => { results := [.lit (.bool false)], args := [d1, d2] }
  | _ => none }
def FnLapsWrongFalsely : Prop := fnLapsRow.holds Try.pinned (OpenSpec.ofChange fnLapsWrong)

/-- 'laws.FnExactSameSown': WHATEVER THE INPUT: true; the input reads as it did. -/
def fnExactSameSownSpec : ChangeSpec := { name := "fnExactSameSown", fn := fun _ => fun
  | [d1, d2] => { results := [.lit (.bool true)], args := [d1, d2] }
  | _ => none }
def fnExactSameSownRow : OpenClaim := { program := "ythlfkdjkihiiaaa", sum := "1663f6273ce482855fc6b3cf3a762ed26d9e73af748ccac1952b4ffd21bd1d05", func := "loop.example/g00926/laws.FnExactSameSown", spec := "fnExactSameSown", apart := false }
def FnExactSameSownSaid : Prop := fnExactSameSownRow.holds Try.pinned (OpenSpec.ofChange fnExactSameSownSpec)

/-- ITS FALSE NEIGHBOUR: 'it returns false'. Refute it at one input. -/
def fnExactSameSownWrong : ChangeSpec := { name := "fnExactSameSown", fn := fun _ => fun
  | [d1, d2] => { results := [.lit (.bool false)], args := [d1, d2] }
  | _ => none }
def FnExactSameSownWrongFalsely : Prop := fnExactSameSownRow.holds Try.pinned (OpenSpec.ofChange fnExactSameSownWrong)

/-- 'laws.FnExactSowLap': WHATEVER THE INPUT: true; the input reads as it did. -/
def fnExactSowLapSpec : ChangeSpec := { name := "fnExactSowLap", fn := fun _ => fun
  | [d1, d2, d3] => { results := [.lit (.bool true)], args := [d1, d2, d3] }
  | _ => none }
def fnExactSowLapRow : OpenClaim := { program := "ythlfkdjkihiiaaa", sum := "1663f6273ce482855fc6b3cf3a762ed26d9e73af748ccac1952b4ffd21bd1d05", func := "loop.example/g00926/laws.FnExactSowLap", spec := "fnExactSowLap", unfollowed := true, recurses := true, apart := false }
def FnExactSowLapSaid : Prop := fnExactSowLapRow.holds Try.pinned (OpenSpec.ofChange fnExactSowLapSpec)

/-- ITS FALSE NEIGHBOUR: 'it returns false'. Refute it at one input. -/
def fnExactSowLapWrong : ChangeSpec := { name := "fnExactSowLap", fn := fun _ => fun
  | [d1, d2, d3] => { results := [.lit (.bool false)], args := [d1, d2, d3] }
  | _ => none }
def FnExactSowLapWrongFalsely : Prop := fnExactSowLapRow.holds Try.pinned (OpenSpec.ofChange fnExactSowLapWrong)

/-- 'laws.FnExactSowMove': WHATEVER THE INPUT: true; the input reads as it did. -/
def fnExactSowMoveSpec : ChangeSpec := { name := "fnExactSowMove", fn := fun _ => fun
  | [d1, d2, d3] => { results := [.lit (.bool true)], args := [d1, d2, d3] }
  | _ => none }
def fnExactSowMoveRow : OpenClaim := { program := "ythlfkdjkihiiaaa", sum := "1663f6273ce482855fc6b3cf3a762ed26d9e73af748ccac1952b4ffd21bd1d05", func := "loop.example/g00926/laws.FnExactSowMove", spec := "fnExactSowMove", unfollowed := true, recurses := true, apart := false }
def FnExactSowMoveSaid : Prop := fnExactSowMoveRow.holds Try.pinned (OpenSpec.ofChange fnExactSowMoveSpec)

/-- ITS FALSE NEIGHBOUR: 'it returns false'. Refute it at one input. -/
def fnExactSowMoveWrong : ChangeSpec := { name := "fnExactSowMove", fn := fun _ => fun
  | [d1, d2, d3] => { results := [.lit (.bool false)], args := [d1, d2, d3] }
  | _ => none }
def FnExactSowMoveWrongFalsely : Prop := fnExactSowMoveRow.holds Try.pinned (OpenSpec.ofChange fnExactSowMoveWrong)

/-- 'laws.FnExactSowPath': WHATEVER THE INPUT: true; the input reads as it did. -/
def fnExactSowPathSpec : ChangeSpec := { name := "fnExactSowPath", fn := fun _ => fun
  | [d1, d2, d3] => { results := [.lit (.bool true)], args := [d1, d2, d3] }
  | _ => none }
def fnExactSowPathRow : OpenClaim := { program := "ythlfkdjkihiiaaa", sum := "1663f6273ce482855fc6b3cf3a762ed26d9e73af748ccac1952b4ffd21bd1d05", func := "loop.example/g00926/laws.FnExactSowPath", spec := "fnExactSowPath", unfollowed := true, recurses := true, apart := false }
def FnExactSowPathSaid : Prop := fnExactSowPathRow.holds Try.pinned (OpenSpec.ofChange fnExactSowPathSpec)

/-- ITS FALSE NEIGHBOUR: 'it returns false'. Refute it at one input. -/
def fnExactSowPathWrong : ChangeSpec := { name := "fnExactSowPath", fn := fun _ => fun
  | [d1, d2, d3] => { results := [.lit (.bool false)], args := [d1, d2, d3] }
  | _ => none }
def FnExactSowPathWrongFalsely : Prop := fnExactSowPathRow.holds Try.pinned (OpenSpec.ofChange fnExactSowPathWrong)

/-- 'laws.FnExactIsEndless': WHATEVER THE INPUT: true; the input reads as it did. -/
def fnExactIsEndlessSpec : ChangeSpec := { name := "fnExactIsEndless", fn := fun _ => fun
  | [d1, d2, d3] => { results := [.lit (.bool true)], args := [d1, d2, d3] }
  | _ => none }
def fnExactIsEndlessRow : OpenClaim := { program := "ythlfkdjkihiiaaa", sum := "1663f6273ce482855fc6b3cf3a762ed26d9e73af748ccac1952b4ffd21bd1d05", func := "loop.example/g00926/laws.FnExactIsEndless", spec := "fnExactIsEndless", unfollowed := true, recurses := true, apart := false }
def FnExactIsEndlessSaid : Prop := fnExactIsEndlessRow.holds Try.pinned (OpenSpec.ofChange fnExactIsEndlessSpec)

/-- ITS FALSE NEIGHBOUR: 'it returns false'. Refute it at one input. -/
def fnExactIsEndlessWrong : ChangeSpec := { name := "fnExactIsEndless", fn := fun _ => fun
  | [d1, d2, d3] => { results := [.lit (.bool false)], args := [d1, d2, d3] }
  | _ => none }
def FnExactIsEndlessWrongFalsely : Prop := fnExactIsEndlessRow.holds Try.pinned (OpenSpec.ofChange fnExactIsEndlessWrong)

/-- 'laws.FnExactSownSeeds': WHATEVER THE INPUT: true; the input reads as it did. -/
def fnExactSownSeedsSpec : ChangeSpec := { name := "fnExactSownSeeds", fn := fun _ => fun
  | [d] => { results := [.lit (.bool true)], args := [d] }
  | _ => none }
def fnExactSownSeedsRow : OpenClaim := { program := "ythlfkdjkihiiaaa", sum := "1663f6273ce482855fc6b3cf3a762ed26d9e73af748ccac1952b4ffd21bd1d05", func := "loop.example/g00926/laws.FnExactSownSeeds", spec := "fnExactSownSeeds", apart := false }
def FnExactSownSeedsSaid : Prop := fnExactSownSeedsRow.holds Try.pinned (OpenSpec.ofChange fnExactSownSeedsSpec)

/-- ITS FALSE NEIGHBOUR: 'it returns false'. Refute it at one input. -/
def fnExactSownSeedsWrong : ChangeSpec := { name := "fnExactSownSeeds", fn := fun _ => fun
  | [d] => { results := [.lit (.bool false)], args := [d] }
  | _ => none }
def FnExactSownSeedsWrongFalsely : Prop := fnExactSownSeedsRow.holds Try.pinned (OpenSpec.ofChange fnExactSownSeedsWrong)

/-- 'laws.FnExactLapLength': WHATEVER THE INPUT: true; the input reads as it did. -/
def fnExactLapLengthSpec : ChangeSpec := { name := "fnExactLapLength", fn := fun _ => fun
  | [d] => { results := [.lit (.bool true)], args := [d] }
  | _ => none }
def fnExactLapLengthRow : OpenClaim := { program := "ythlfkdjkihiiaaa", sum := "1663f6273ce482855fc6b3cf3a762ed26d9e73af748ccac1952b4ffd21bd1d05", func := "loop.example/g00926/laws.FnExactLapLength", spec := "fnExactLapLength", apart := false }
def FnExactLapLengthSaid : Prop := fnExactLapLengthRow.holds Try.pinned (OpenSpec.ofChange fnExactLapLengthSpec)

/-- ITS FALSE NEIGHBOUR: 'it returns false'. Refute it at one input. -/
def fnExactLapLengthWrong : ChangeSpec := { name := "fnExactLapLength", fn := fun _ => fun
  | [d] => { results := [.lit (.bool false)], args := [d] }
  | _ => none }
def FnExactLapLengthWrongFalsely : Prop := fnExactLapLengthRow.holds Try.pinned (OpenSpec.ofChange fnExactLapLengthWrong)

/-- 'laws.FnExactLastPlace': WHATEVER THE INPUT: true; the input reads as it did. -/
def fnExactLastPlaceSpec : ChangeSpec := { name := "fnExactLastPlace", fn := fun _ => fun
  | [d1, d2, d3, d4] => { results := [.lit (.bool true)], args := [d1, d2, d3, d4] }
  | _ => none }
def fnExactLastPlaceRow : OpenClaim := { program := "ythlfkdjkihiiaaa", sum := "1663f6273ce482855fc6b3cf3a762ed26d9e73af748ccac1952b4ffd21bd1d05", func := "loop.example/g00926/laws.FnExactLastPlace", spec := "fnExactLastPlace", unfollowed := true, recurses := true, apart := false }
def FnExactLastPlaceSaid : Prop := fnExactLastPlaceRow.holds Try.pinned (OpenSpec.ofChange fnExactLastPlaceSpec)

/-- ITS FALSE NEIGHBOUR: 'it returns false'. Refute it at one input. -/
def fnExactLastPlaceWrong : ChangeSpec := { name := "fnExactLastPlace", fn := fun _ => fun
  | [d1, d2, d3, d4] => { results := [.lit (.bool false)], args := [d1, d2, d3, d4] }
  | _ => none }
def FnExactLastPlaceWrongFalsely : Prop := fnExactLastPlaceRow.holds Try.pinned (OpenSpec.ofChange fnExactLastPlaceWrong)

/- THE SECOND FORM. 'bulk': how many values and letters a reading holds, each counted each time it is reached (what is shared counts as often as it is met; a slice's spare places count too). A statement '..UptoSaid' is the law's where the arguments, and the package variables that the reading takes, are together of bulk at most 1048576: NARROWER than '..Said'. Prove '..Said' where nothing that the law and all that it calls make is longer than what came in: it says more and counts as full. Else prove '..UptoSaid'. A law counts once. -/
mutual
def uptoBulk {H : Type} : DataW H → Nat
  | .lit (.string bytes) => bytes.length + 1
  | .lit _ => 1
  | .nil => 1
  | .ptr d => uptoBulk d + 1
  | .slice elems spare => uptoBulkAll elems + uptoBulkAll spare + 1
  | .agg parts => uptoBulkAll parts + 1
  | .iface _ d => uptoBulk d + 1
  | .map entries => uptoBulkEntries entries + 1
  | .held _ => 1
def uptoBulkAll {H : Type} : List (DataW H) → Nat
  | [] => 0
  | d :: r => uptoBulk d + uptoBulkAll r
def uptoBulkEntries {H : Type} : List (Lit × DataW H) → Nat
  | [] => 0
  | x :: r => uptoBulkEntry x + uptoBulkEntries r
def uptoBulkEntry {H : Type} : Lit × DataW H → Nat
  | (.string bytes, d) => bytes.length + uptoBulk d + 1
  | (_, d) => uptoBulk d + 1
 end
def uptoSmall : (H : Type) → List (DataW H) → Bool := fun _ ds => decide (uptoBulkAll ds ≤ 1048576)
def OpenSpec.upto (s : _root_.Go.ChangeSpec) : _root_.Go.OpenSpec := { _root_.Go.OpenSpec.ofChange s with cond := some uptoSmall }

/-- 'laws.FnSowing', WHERE WHAT IT READS IS OF BULK AT MOST 1048576: true; the input reads as it did. -/
def fnSowingUptoRow : OpenClaim := { program := "ythlfkdjkihiiaaa", sum := "1663f6273ce482855fc6b3cf3a762ed26d9e73af748ccac1952b4ffd21bd1d05", func := "loop.example/g00926/laws.FnSowing", spec := "fnSowing", unfollowed := true, recurses := true, apart := false, narrowed := true }
def FnSowingUptoSaid : Prop := fnSowingUptoRow.holds Try.pinned (OpenSpec.upto fnSowingSpec)

/-- 'laws.FnLaps', WHERE WHAT IT READS IS OF BULK AT MOST 1048576: true; the input reads as it did. -/
def fnLapsUptoRow : OpenClaim := { program := "ythlfkdjkihiiaaa", sum := "1663f6273ce482855fc6b3cf3a762ed26d9e73af748ccac1952b4ffd21bd1d05", func := "loop.example/g00926/laws.FnLaps", spec := "fnLaps", unfollowed := true, recurses := true, apart := false, narrowed := true }
def FnLapsUptoSaid : Prop := fnLapsUptoRow.holds Try.pinned (OpenSpec.upto fnLapsSpec)

/-- 'laws.FnExactSameSown', WHERE WHAT IT READS IS OF BULK AT MOST 1048576: true; the input reads as it did. -/
def fnExactSameSownUptoRow : OpenClaim := { program := "ythlfkdjkihiiaaa", sum := "1663f6273ce482855fc6b3cf3a762ed26d9e73af748ccac1952b4ffd21bd1d05", func := "loop.example/g00926/laws.FnExactSameSown", spec := "fnExactSameSown", apart := false, narrowed := true }
def FnExactSameSownUptoSaid : Prop := fnExactSameSownUptoRow.holds Try.pinned (OpenSpec.upto fnExactSameSownSpec)

/-- 'laws.FnExactSowLap', WHERE WHAT IT READS IS OF BULK AT MOST 1048576: true; the input reads as it did. -/
def fnExactSowLapUptoRow : OpenClaim := { program := "ythlfkdjkihiiaaa", sum := "1663f6273ce482855fc6b3cf3a762ed26d9e73af748ccac1952b4ffd21bd1d05", func := "loop.example/g00926/laws.FnExactSowLap", spec := "fnExactSowLap", unfollowed := true, recurses := true, apart := false, narrowed := true }
def FnExactSowLapUptoSaid : Prop := fnExactSowLapUptoRow.holds Try.pinned (OpenSpec.upto fnExactSowLapSpec)

/-- 'laws.FnExactSowMove', WHERE WHAT IT READS IS OF BULK AT MOST 1048576: true; the input reads as it did. -/
def fnExactSowMoveUptoRow : OpenClaim := { program := "ythlfkdjkihiiaaa", sum := "1663f6273ce482855fc6b3cf3a762ed26d9e73af748ccac1952b4ffd21bd1d05", func := "loop.example/g00926/laws.FnExactSowMove", spec := "fnExactSowMove", unfollowed := true, recurses := true, apart := false, narrowed := true }
def FnExactSowMoveUptoSaid : Prop := fnExactSowMoveUptoRow.holds Try.pinned (OpenSpec.upto fnExactSowMoveSpec)

/-- 'laws.FnExactSowPath', WHERE WHAT IT READS IS OF BULK AT MOST 1048576: true; the input reads as it did. -/
def fnExactSowPathUptoRow : OpenClaim := { program := "ythlfkdjkihiiaaa", sum := "1663f6273ce482855fc6b3cf3a762ed26d9e73af748ccac1952b4ffd21bd1d05", func := "loop.example/g00926/laws.FnExactSowPath", spec := "fnExactSowPath", unfollowed := true, recurses := true, apart := false, narrowed := true }
def FnExactSowPathUptoSaid : Prop := fnExactSowPathUptoRow.holds Try.pinned (OpenSpec.upto fnExactSowPathSpec)

/-- 'laws.FnExactIsEndless', WHERE WHAT IT READS IS OF BULK AT MOST 1048576: true; the input reads as it did. -/
def fnExactIsEndlessUptoRow : OpenClaim := { program := "ythlfkdjkihiiaaa", sum := "1663f6273ce482855fc6b3cf3a762ed26d9e73af748ccac1952b4ffd21bd1d05", func := "loop.example/g00926/laws.FnExactIsEndless", spec := "fnExactIsEndless", unfollowed := true, recurses := true, apart := false, narrowed := true }
def FnExactIsEndlessUptoSaid : Prop := fnExactIsEndlessUptoRow.holds Try.pinned (OpenSpec.upto fnExactIsEndlessSpec)

/-- 'laws.FnExactSownSeeds', WHERE WHAT IT READS IS OF BULK AT MOST 1048576: true; the input reads as it did. -/
def fnExactSownSeedsUptoRow : OpenClaim := { program := "ythlfkdjkihiiaaa", sum := "1663f6273ce482855fc6b3cf3a762ed26d9e73af748ccac1952b4ffd21bd1d05", func := "loop.example/g00926/laws.FnExactSownSeeds", spec := "fnExactSownSeeds", apart := false, narrowed := true }
def FnExactSownSeedsUptoSaid : Prop := fnExactSownSeedsUptoRow.holds Try.pinned (OpenSpec.upto fnExactSownSeedsSpec)

/-- 'laws.FnExactLapLength', WHERE WHAT IT READS IS OF BULK AT MOST 1048576: true; the input reads as it did. -/
def fnExactLapLengthUptoRow : OpenClaim := { program := "ythlfkdjkihiiaaa", sum := "1663f6273ce482855fc6b3cf3a762ed26d9e73af748ccac1952b4ffd21bd1d05", func := "loop.example/g00926/laws.FnExactLapLength", spec := "fnExactLapLength", apart := false, narrowed := true }
def FnExactLapLengthUptoSaid : Prop := fnExactLapLengthUptoRow.holds Try.pinned (OpenSpec.upto fnExactLapLengthSpec)

/-- 'laws.FnExactLastPlace', WHERE WHAT IT READS IS OF BULK AT MOST 1048576: true; the input reads as it did. -/
def fnExactLastPlaceUptoRow : OpenClaim := { program := "ythlfkdjkihiiaaa", sum := "1663f6273ce482855fc6b3cf3a762ed26d9e73af748ccac1952b4ffd21bd1d05", func := "loop.example/g00926/laws.FnExactLastPlace", spec := "fnExactLastPlace", unfollowed := true, recurses := true, apart := false, narrowed := true }
def FnExactLastPlaceUptoSaid : Prop := fnExactLastPlaceUptoRow.holds Try.pinned (OpenSpec.upto fnExactLastPlaceSpec)

end Rows
end Go.Proofs.Ythlfkdjkihiiaaa
