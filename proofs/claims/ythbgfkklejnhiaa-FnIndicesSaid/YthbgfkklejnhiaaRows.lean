/-
  No cell of these rows narrows 'for every input' (looked for: loops, veiled, ifaces, maps, wideKeys, modest, calm, conditions, laid).
  DERIVED. THE GIVEN ROWS OF THIS SEAT. 8 by the template 'for every input the law returns true; each argument reads behind the call as it read before'; 0 by the template 'total and deterministic' (their statements: YthbgfkklejnhiaaTotals.lean).
  GIVEN WITH THE SEED: the statements are not yours to turn. If you find one false, say at which input.
  Laid BY PROGRAM, IN A SANDBOX (cutbox-rows.mjs): the forced cells as the released guide's own fill.sh prints them over the translation ca9c26050eb4b48f… (all of the seat's roots in one cut). By AI agents, Wed Nov 11 2026. No macro, syntax, notation, axiom, sorry.
-/
import Derived.Test.YthbgfkklejnhiaaChecked
import GoSem.Claim
import GoSem.ClaimJoined
import GoSem.ClaimMapViews
import Derived.JoinedTies
import Derived.KernelRfl
namespace Go.Proofs.Ythbgfkklejnhiaa
/- THE CELL 'sum', in the pinned program and in every row, IS THE sha256 OF THE DUMP (.gsa) THAT YthbgfkklejnhiaaProg.lean LOADS. Nothing in Lean hashes anything: it is a label: what it is worth is what the hold of that sum in a sandbox is worth. -/
noncomputable def Try.pinned : Pinned := { name := "ythbgfkklejnhiaa", sum := "ca9c26050eb4b48f959cd17c5727917a6d02ee11647570f316d984019eb898f6", checked := Try.checked }
namespace Rows
def none {H : Type} : Left H := { results := [], args := [] }

/-- 'laws.FnIndices': WHATEVER THE INPUT: true; the input reads as it did. -/
def fnIndicesSpec : ChangeSpec := { name := "fnIndices", fn := fun _ => fun
  | [d1, d2] => { results := [.lit (.bool true)], args := [d1, d2] }
  | _ => none }
def fnIndicesRow : OpenClaim := { program := "ythbgfkklejnhiaa", sum := "ca9c26050eb4b48f959cd17c5727917a6d02ee11647570f316d984019eb898f6", func := "loop.example/g00926/laws.FnIndices", spec := "fnIndices", unfollowed := true, recurses := true, apart := false }
def FnIndicesSaid : Prop := fnIndicesRow.holds Try.pinned (OpenSpec.ofChange fnIndicesSpec)

/-- ITS FALSE NEIGHBOUR: 'it returns false'. Refute it at one input. -/
def fnIndicesWrong : ChangeSpec := { name := "fnIndices", fn := fun _ => fun
  | [d1, d2] => { results := [.lit (.bool false)], args := [d1, d2] }
  | _ => none }
def FnIndicesWrongFalsely : Prop := fnIndicesRow.holds Try.pinned (OpenSpec.ofChange fnIndicesWrong)

/-- 'laws.FnExactCountPositions': WHATEVER THE INPUT: true; the input reads as it did. -/
def fnExactCountPositionsSpec : ChangeSpec := { name := "fnExactCountPositions", fn := fun _ => fun
  | [d1, d2] => { results := [.lit (.bool true)], args := [d1, d2] }
  | _ => none }
def fnExactCountPositionsRow : OpenClaim := { program := "ythbgfkklejnhiaa", sum := "ca9c26050eb4b48f959cd17c5727917a6d02ee11647570f316d984019eb898f6", func := "loop.example/g00926/laws.FnExactCountPositions", spec := "fnExactCountPositions", apart := false }
def FnExactCountPositionsSaid : Prop := fnExactCountPositionsRow.holds Try.pinned (OpenSpec.ofChange fnExactCountPositionsSpec)

/-- ITS FALSE NEIGHBOUR: 'it returns false'. Refute it at one input. -/
def fnExactCountPositionsWrong : ChangeSpec := { name := "fnExactCountPositions", fn := fun _ => fun
  | [d1, d2] => { results := [.lit (.bool false)], args := [d1, d2] }
  | _ => none }
def FnExactCountPositionsWrongFalsely : Prop := fnExactCountPositionsRow.holds Try.pinned (OpenSpec.ofChange fnExactCountPositionsWrong)

/-- 'laws.FnExactNumberOf': WHATEVER THE INPUT: true; the input reads as it did. -/
def fnExactNumberOfSpec : ChangeSpec := { name := "fnExactNumberOf", fn := fun _ => fun
  | [d1, d2] => { results := [.lit (.bool true)], args := [d1, d2] }
  | _ => none }
def fnExactNumberOfRow : OpenClaim := { program := "ythbgfkklejnhiaa", sum := "ca9c26050eb4b48f959cd17c5727917a6d02ee11647570f316d984019eb898f6", func := "loop.example/g00926/laws.FnExactNumberOf", spec := "fnExactNumberOf", unfollowed := true, recurses := true, apart := false }
def FnExactNumberOfSaid : Prop := fnExactNumberOfRow.holds Try.pinned (OpenSpec.ofChange fnExactNumberOfSpec)

/-- ITS FALSE NEIGHBOUR: 'it returns false'. Refute it at one input. -/
def fnExactNumberOfWrong : ChangeSpec := { name := "fnExactNumberOf", fn := fun _ => fun
  | [d1, d2] => { results := [.lit (.bool false)], args := [d1, d2] }
  | _ => none }
def FnExactNumberOfWrongFalsely : Prop := fnExactNumberOfRow.holds Try.pinned (OpenSpec.ofChange fnExactNumberOfWrong)

/-- 'laws.FnExactPositionAt': WHATEVER THE INPUT: true; the input reads as it did. -/
def fnExactPositionAtSpec : ChangeSpec := { name := "fnExactPositionAt", fn := fun _ => fun
  | [d1, d2, d3] => { results := [.lit (.bool true)], args := [d1, d2, d3] }
  | _ => none }
def fnExactPositionAtRow : OpenClaim := { program := "ythbgfkklejnhiaa", sum := "ca9c26050eb4b48f959cd17c5727917a6d02ee11647570f316d984019eb898f6", func := "loop.example/g00926/laws.FnExactPositionAt", spec := "fnExactPositionAt", apart := false }
def FnExactPositionAtSaid : Prop := fnExactPositionAtRow.holds Try.pinned (OpenSpec.ofChange fnExactPositionAtSpec)

/-- ITS FALSE NEIGHBOUR: 'it returns false'. Refute it at one input. -/
def fnExactPositionAtWrong : ChangeSpec := { name := "fnExactPositionAt", fn := fun _ => fun
  | [d1, d2, d3] => { results := [.lit (.bool false)], args := [d1, d2, d3] }
  | _ => none }
def FnExactPositionAtWrongFalsely : Prop := fnExactPositionAtRow.holds Try.pinned (OpenSpec.ofChange fnExactPositionAtWrong)

/-- 'laws.FnExactFirstIndex': WHATEVER THE INPUT: true; the input reads as it did. -/
def fnExactFirstIndexSpec : ChangeSpec := { name := "fnExactFirstIndex", fn := fun _ => fun
  | [d1, d2] => { results := [.lit (.bool true)], args := [d1, d2] }
  | _ => none }
def fnExactFirstIndexRow : OpenClaim := { program := "ythbgfkklejnhiaa", sum := "ca9c26050eb4b48f959cd17c5727917a6d02ee11647570f316d984019eb898f6", func := "loop.example/g00926/laws.FnExactFirstIndex", spec := "fnExactFirstIndex", apart := false }
def FnExactFirstIndexSaid : Prop := fnExactFirstIndexRow.holds Try.pinned (OpenSpec.ofChange fnExactFirstIndexSpec)

/-- ITS FALSE NEIGHBOUR: 'it returns false'. Refute it at one input. -/
def fnExactFirstIndexWrong : ChangeSpec := { name := "fnExactFirstIndex", fn := fun _ => fun
  | [d1, d2] => { results := [.lit (.bool false)], args := [d1, d2] }
  | _ => none }
def FnExactFirstIndexWrongFalsely : Prop := fnExactFirstIndexRow.holds Try.pinned (OpenSpec.ofChange fnExactFirstIndexWrong)

/-- 'laws.FnExactIndexOf': WHATEVER THE INPUT: true; the input reads as it did. -/
def fnExactIndexOfSpec : ChangeSpec := { name := "fnExactIndexOf", fn := fun _ => fun
  | [d1, d2] => { results := [.lit (.bool true)], args := [d1, d2] }
  | _ => none }
def fnExactIndexOfRow : OpenClaim := { program := "ythbgfkklejnhiaa", sum := "ca9c26050eb4b48f959cd17c5727917a6d02ee11647570f316d984019eb898f6", func := "loop.example/g00926/laws.FnExactIndexOf", spec := "fnExactIndexOf", unfollowed := true, recurses := true, apart := false }
def FnExactIndexOfSaid : Prop := fnExactIndexOfRow.holds Try.pinned (OpenSpec.ofChange fnExactIndexOfSpec)

/-- ITS FALSE NEIGHBOUR: 'it returns false'. Refute it at one input. -/
def fnExactIndexOfWrong : ChangeSpec := { name := "fnExactIndexOf", fn := fun _ => fun
  | [d1, d2] => { results := [.lit (.bool false)], args := [d1, d2] }
  | _ => none }
def FnExactIndexOfWrongFalsely : Prop := fnExactIndexOfRow.holds Try.pinned (OpenSpec.ofChange fnExactIndexOfWrong)

/-- 'laws.FnExactAtIndex': WHATEVER THE INPUT: true; the input reads as it did. -/
def fnExactAtIndexSpec : ChangeSpec := { name := "fnExactAtIndex", fn := fun _ => fun
  | [d1, d2] => { results := [.lit (.bool true)], args := [d1, d2] }
  | _ => none }
def fnExactAtIndexRow : OpenClaim := { program := "ythbgfkklejnhiaa", sum := "ca9c26050eb4b48f959cd17c5727917a6d02ee11647570f316d984019eb898f6", func := "loop.example/g00926/laws.FnExactAtIndex", spec := "fnExactAtIndex", apart := false }
def FnExactAtIndexSaid : Prop := fnExactAtIndexRow.holds Try.pinned (OpenSpec.ofChange fnExactAtIndexSpec)

/-- ITS FALSE NEIGHBOUR: 'it returns false'. Refute it at one input. -/
def fnExactAtIndexWrong : ChangeSpec := { name := "fnExactAtIndex", fn := fun _ => fun
  | [d1, d2] => { results := [.lit (.bool false)], args := [d1, d2] }
  | _ => none }
def FnExactAtIndexWrongFalsely : Prop := fnExactAtIndexRow.holds Try.pinned (OpenSpec.ofChange fnExactAtIndexWrong)

/-- 'laws.FnExactSameNumber': WHATEVER THE INPUT: true; the input reads as it did. -/
def fnExactSameNumberSpec : ChangeSpec := { name := "fnExactSameNumber", fn := fun _ => fun
  | [d1, d2, d3] => { results := [.lit (.bool true)], args := [d1, d2, d3] }
  | _ => none }
def fnExactSameNumberRow : OpenClaim := { program := "ythbgfkklejnhiaa", sum := "ca9c26050eb4b48f959cd17c5727917a6d02ee11647570f316d984019eb898f6", func := "loop.example/g00926/laws.FnExactSameNumber", spec := "fnExactSameNumber", unfollowed := true, recurses := true, apart := false }
def FnExactSameNumberSaid : Prop := fnExactSameNumberRow.holds Try.pinned (OpenSpec.ofChange fnExactSameNumberSpec)

/-- ITS FALSE NEIGHBOUR: 'it returns false'. Refute it at one input. -/
def fnExactSameNumberWrong : ChangeSpec := { name := "fnExactSameNumber", fn := fun _ => fun
  | [d1, d2, d3] => { results := [.lit (.bool false)], args := [d1, d2, d3] }
  | _ => none }
def FnExactSameNumberWrongFalsely : Prop := fnExactSameNumberRow.holds Try.pinned (OpenSpec.ofChange fnExactSameNumberWrong)

/- THE SECOND FORM. 'bulk': how many values and letters a reading holds, each counted each time it is reached (what is shared counts as often as it is met; a slice's spare places count too). A statement '..UptoSaid' is the law's where the arguments, and the package variables that the reading takes, are together of bulk at most 1048576: NARROWER than '..Said'. Prove '..Said' where nothing that the law and all that it calls make is longer than what came in: it says more and counts as full. Else prove '..UptoSaid'. A law counts once. -/
mutual
def uptoBulk {H : Type} : DataW H → Nat
  | .lit (.string bytes) => bytes.length + 1
  | .lit _ => 1
  | .nil => 1
  | .ptr d => uptoBulk d + 1
  | .slice elems spare => uptoBulkAll elems + uptoBulkAll spare + 1
  | .agg parts => uptoBulkAll parts + 1
  | .iface _ d => uptoBulk d + 1
  | .map entries => uptoBulkEntries entries + 1
  | .held _ => 1
def uptoBulkAll {H : Type} : List (DataW H) → Nat
  | [] => 0
  | d :: r => uptoBulk d + uptoBulkAll r
def uptoBulkEntries {H : Type} : List (Lit × DataW H) → Nat
  | [] => 0
  | x :: r => uptoBulkEntry x + uptoBulkEntries r
def uptoBulkEntry {H : Type} : Lit × DataW H → Nat
  | (.string bytes, d) => bytes.length + uptoBulk d + 1
  | (_, d) => uptoBulk d + 1
 end
def uptoSmall : (H : Type) → List (DataW H) → Bool := fun _ ds => decide (uptoBulkAll ds ≤ 1048576)
def OpenSpec.upto (s : _root_.Go.ChangeSpec) : _root_.Go.OpenSpec := { _root_.Go.OpenSpec.ofChange s with cond := some uptoSmall }

/-- 'laws.FnIndices', WHERE WHAT IT READS IS OF BULK AT MOST 1048576: true; the input reads as it did. -/
def fnIndicesUptoRow : OpenClaim := { program := "ythbgfkklejnhiaa", sum := "ca9c26050eb4b48f959cd17c5727917a6d02ee11647570f316d984019eb898f6", func := "loop.example/g00926/laws.FnIndices", spec := "fnIndices", unfollowed := true, recurses := true, apart := false, narrowed := true }
def FnIndicesUptoSaid : Prop := fnIndicesUptoRow.holds Try.pinned (OpenSpec.upto fnIndicesSpec)

/-- 'laws.FnExactCountPositions', WHERE WHAT IT READS IS OF BULK AT MOST 1048576: true; the input reads as it did. -/
def fnExactCountPositionsUptoRow : OpenClaim := { program := "ythbgfkklejnhiaa", sum := "ca9c26050eb4b48f959cd17c5727917a6d02ee11647570f316d984019eb898f6", func := "loop.example/g00926/laws.FnExactCountPositions", spec := "fnExactCountPositions", apart := false, narrowed := true }
def FnExactCountPositionsUptoSaid : Prop := fnExactCountPositionsUptoRow.holds Try.pinned (OpenSpec.upto fnExactCountPositionsSpec)

/-- 'laws.FnExactNumberOf', WHERE WHAT IT READS IS OF BULK AT MOST 1048576: true; the input reads as it did. -/
def fnExactNumberOfUptoRow : OpenClaim := { program := "ythbgfkklejnhiaa", sum := "ca9c26050eb4b48f959cd17c5727917a6d02ee11647570f316d984019eb898f6", func := "loop.example/g00926/laws.FnExactNumberOf", spec := "fnExactNumberOf", unfollowed := true, recurses := true, apart := false, narrowed := true }
def FnExactNumberOfUptoSaid : Prop := fnExactNumberOfUptoRow.holds Try.pinned (OpenSpec.upto fnExactNumberOfSpec)

/-- 'laws.FnExactPositionAt', WHERE WHAT IT READS IS OF BULK AT MOST 1048576: true; the input reads as it did. -/
def fnExactPositionAtUptoRow : OpenClaim := { program := "ythbgfkklejnhiaa", sum := "ca9c26050eb4b48f959cd17c5727917a6d02ee11647570f316d984019eb898f6", func := "loop.example/g00926/laws.FnExactPositionAt", spec := "fnExactPositionAt", apart := false, narrowed := true }
def FnExactPositionAtUptoSaid : Prop := fnExactPositionAtUptoRow.holds Try.pinned (OpenSpec.upto fnExactPositionAtSpec)

/-- 'laws.FnExactFirstIndex', WHERE WHAT IT READS IS OF BULK AT MOST 1048576: true; the input reads as it did. -/
def fnExactFirstIndexUptoRow : OpenClaim := { program := "ythbgfkklejnhiaa", sum := "ca9c26050eb4b48f959cd17c5727917a6d02ee11647570f316d984019eb898f6", func := "loop.example/g00926/laws.FnExactFirstIndex", spec := "fnExactFirstIndex", apart := false, narrowed := true }
def FnExactFirstIndexUptoSaid : Prop := fnExactFirstIndexUptoRow.holds Try.pinned (OpenSpec.upto fnExactFirstIndexSpec)

/-- 'laws.FnExactIndexOf', WHERE WHAT IT READS IS OF BULK AT MOST 1048576: true; the input reads as it did. -/
def fnExactIndexOfUptoRow : OpenClaim := { program := "ythbgfkklejnhiaa", sum := "ca9c26050eb4b48f959cd17c5727917a6d02ee11647570f316d984019eb898f6", func := "loop.example/g00926/laws.FnExactIndexOf", spec := "fnExactIndexOf", unfollowed := true, recurses := true, apart := false, narrowed := true }
def FnExactIndexOfUptoSaid : Prop := fnExactIndexOfUptoRow.holds Try.pinned (OpenSpec.upto fnExactIndexOfSpec)

/-- 'laws.FnExactAtIndex', WHERE WHAT IT READS IS OF BULK AT MOST 1048576: true; the input reads as it did. -/
def fnExactAtIndexUptoRow : OpenClaim := { program := "ythbgfkklejnhiaa", sum := "ca9c26050eb4b48f959cd17c5727917a6d02ee11647570f316d984019eb898f6", func := "loop.example/g00926/laws.FnExactAtIndex", spec := "fnExactAtIndex", apart := false, narrowed := true }
def FnExactAtIndexUptoSaid : Prop := fnExactAtIndexUptoRow.holds Try.pinned (OpenSpec.upto fnExactAtIndexSpec)

/-- 'laws.FnExactSameNumber', WHERE WHAT IT READS IS OF BULK AT MOST 1048576: true; the input reads as it did. -/
def fnExactSameNumberUptoRow : OpenClaim := { program := "ythbgfkklejnhiaa", sum := "ca9c26050eb4b48f959cd17c5727917a6d02ee11647570f316d984019eb898f6", func := "loop.example/g00926/laws.FnExactSameNumber", spec := "fnExactSameNumber", unfollowed := true, recurses := true, apart := false, narrowed := true }
def FnExactSameNumberUptoSaid : Prop := fnExactSameNumberUptoRow.holds Try.pinned (OpenSpec.upto fnExactSameNumberSpec)

end Rows
end Go.Proofs.Ythbgfkklejnhiaa
