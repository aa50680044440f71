/-
  No cell of these rows narrows 'for every input' (looked for: loops, veiled, ifaces, maps, wideKeys, modest, calm, conditions, laid).
  DERIVED. THE GIVEN ROWS OF THIS SEAT. 5 by the template 'for every input the law returns true; each argument reads behind the call as it read before'; 0 by the template 'total and deterministic' (their statements: YtmngmbpdiaocjaaTotals.lean).
  GIVEN WITH THE SEED: the statements are not yours to turn. If you find one false, say at which input.
  Laid BY PROGRAM, IN A SANDBOX (cutbox-rows.mjs): the forced cells as the released guide's own fill.sh prints them over the translation 1c0f7f8ae3ab273c… (all of the seat's roots in one cut). By AI agents, Wed Nov 11 2026. No macro, syntax, notation, axiom, sorry.
-/
import Derived.Test.YtmngmbpdiaocjaaChecked
import GoSem.Claim
import GoSem.ClaimJoined
import GoSem.ClaimMapViews
import Derived.JoinedTies
import Derived.KernelRfl
namespace Go.Proofs.Ytmngmbpdiaocjaa
/- THE CELL 'sum', in the pinned program and in every row, IS THE sha256 OF THE DUMP (.gsa) THAT YtmngmbpdiaocjaaProg.lean LOADS. Nothing in Lean hashes anything: it is a label: what it is worth is what the hold of that sum in a sandbox is worth. -/
noncomputable def Try.pinned : Pinned := { name := "ytmngmbpdiaocjaa", sum := "1c0f7f8ae3ab273cf977e475eda4f1977a3866a2687309d47d30e69dd498f7bc", checked := Try.checked }
namespace Rows
def none {H : Type} : Left H := { results := [], args := [] }

/-- 'laws.FnExactValidGame': WHATEVER THE INPUT: true; the input reads as it did. -/
def fnExactValidGameSpec : ChangeSpec := { name := "fnExactValidGame", fn := fun _ => fun
  | [d] => { results := [.lit (.bool true)], args := [d] }
  | _ => none }
def fnExactValidGameRow : OpenClaim := { program := "ytmngmbpdiaocjaa", sum := "1c0f7f8ae3ab273cf977e475eda4f1977a3866a2687309d47d30e69dd498f7bc", func := "loop.example/g00926/laws.FnExactValidGame", spec := "fnExactValidGame", unfollowed := true, recurses := true, apart := false }
def FnExactValidGameSaid : Prop := fnExactValidGameRow.holds Try.pinned (OpenSpec.ofChange fnExactValidGameSpec)

/-- ITS FALSE NEIGHBOUR: 'it returns false'. Refute it at one input. -/
def fnExactValidGameWrong : ChangeSpec := { name := "fnExactValidGame", fn := fun _ => fun
  | [d] => { results := [.lit (.bool false)], args := [d] }
  | _ => none }
def FnExactValidGameWrongFalsely : Prop := fnExactValidGameRow.holds Try.pinned (OpenSpec.ofChange fnExactValidGameWrong)

/-- 'laws.FnExactGameFrom': WHATEVER THE INPUT: true; the input reads as it did. -/
def fnExactGameFromSpec : ChangeSpec := { name := "fnExactGameFrom", fn := fun _ => fun
  | [d1, d2] => { results := [.lit (.bool true)], args := [d1, d2] }
  | _ => none }
def fnExactGameFromRow : OpenClaim := { program := "ytmngmbpdiaocjaa", sum := "1c0f7f8ae3ab273cf977e475eda4f1977a3866a2687309d47d30e69dd498f7bc", func := "loop.example/g00926/laws.FnExactGameFrom", spec := "fnExactGameFrom", unfollowed := true, recurses := true, apart := false }
def FnExactGameFromSaid : Prop := fnExactGameFromRow.holds Try.pinned (OpenSpec.ofChange fnExactGameFromSpec)

/-- ITS FALSE NEIGHBOUR: 'it returns false'. Refute it at one input. -/
def fnExactGameFromWrong : ChangeSpec := { name := "fnExactGameFrom", fn := fun _ => fun
  | [d1, d2] => { results := [.lit (.bool false)], args := [d1, d2] }
  | _ => none }
def FnExactGameFromWrongFalsely : Prop := fnExactGameFromRow.holds Try.pinned (OpenSpec.ofChange fnExactGameFromWrong)

/-- 'laws.FnExactMoversOf': WHATEVER THE INPUT: true; the input reads as it did. -/
def fnExactMoversOfSpec : ChangeSpec := { name := "fnExactMoversOf", fn := fun _ => fun
  | [d] => { results := [.lit (.bool true)], args := [d] }
  | _ => none }
def fnExactMoversOfRow : OpenClaim := { program := "ytmngmbpdiaocjaa", sum := "1c0f7f8ae3ab273cf977e475eda4f1977a3866a2687309d47d30e69dd498f7bc", func := "loop.example/g00926/laws.FnExactMoversOf", spec := "fnExactMoversOf", unfollowed := true, recurses := true, apart := false }
def FnExactMoversOfSaid : Prop := fnExactMoversOfRow.holds Try.pinned (OpenSpec.ofChange fnExactMoversOfSpec)

/-- ITS FALSE NEIGHBOUR: 'it returns false'. Refute it at one input. -/
def fnExactMoversOfWrong : ChangeSpec := { name := "fnExactMoversOf", fn := fun _ => fun
  | [d] => { results := [.lit (.bool false)], args := [d] }
  | _ => none }
def FnExactMoversOfWrongFalsely : Prop := fnExactMoversOfRow.holds Try.pinned (OpenSpec.ofChange fnExactMoversOfWrong)

/-- 'laws.FnExactGainsOf': WHATEVER THE INPUT: true; the input reads as it did. -/
def fnExactGainsOfSpec : ChangeSpec := { name := "fnExactGainsOf", fn := fun _ => fun
  | [d] => { results := [.lit (.bool true)], args := [d] }
  | _ => none }
def fnExactGainsOfRow : OpenClaim := { program := "ytmngmbpdiaocjaa", sum := "1c0f7f8ae3ab273cf977e475eda4f1977a3866a2687309d47d30e69dd498f7bc", func := "loop.example/g00926/laws.FnExactGainsOf", spec := "fnExactGainsOf", unfollowed := true, recurses := true, apart := false }
def FnExactGainsOfSaid : Prop := fnExactGainsOfRow.holds Try.pinned (OpenSpec.ofChange fnExactGainsOfSpec)

/-- ITS FALSE NEIGHBOUR: 'it returns false'. Refute it at one input. -/
def fnExactGainsOfWrong : ChangeSpec := { name := "fnExactGainsOf", fn := fun _ => fun
  | [d] => { results := [.lit (.bool false)], args := [d] }
  | _ => none }
def FnExactGainsOfWrongFalsely : Prop := fnExactGainsOfRow.holds Try.pinned (OpenSpec.ofChange fnExactGainsOfWrong)

/-- 'laws.FnExactRepeatsOf': WHATEVER THE INPUT: true; the input reads as it did. -/
def fnExactRepeatsOfSpec : ChangeSpec := { name := "fnExactRepeatsOf", fn := fun _ => fun
  | [d] => { results := [.lit (.bool true)], args := [d] }
  | _ => none }
def fnExactRepeatsOfRow : OpenClaim := { program := "ytmngmbpdiaocjaa", sum := "1c0f7f8ae3ab273cf977e475eda4f1977a3866a2687309d47d30e69dd498f7bc", func := "loop.example/g00926/laws.FnExactRepeatsOf", spec := "fnExactRepeatsOf", unfollowed := true, recurses := true, apart := false }
def FnExactRepeatsOfSaid : Prop := fnExactRepeatsOfRow.holds Try.pinned (OpenSpec.ofChange fnExactRepeatsOfSpec)

/-- ITS FALSE NEIGHBOUR: 'it returns false'. Refute it at one input. -/
def fnExactRepeatsOfWrong : ChangeSpec := { name := "fnExactRepeatsOf", fn := fun _ => fun
  | [d] => { results := [.lit (.bool false)], args := [d] }
  | _ => none }
def FnExactRepeatsOfWrongFalsely : Prop := fnExactRepeatsOfRow.holds Try.pinned (OpenSpec.ofChange fnExactRepeatsOfWrong)

/- THE SECOND FORM. 'bulk': how many values and letters a reading holds, each counted each time it is reached (what is shared counts as often as it is met; a slice's spare places count too). A statement '..UptoSaid' is the law's where the arguments, and the package variables that the reading takes, are together of bulk at most 1048576: NARROWER than '..Said'. Prove '..Said' where nothing that the law and all that it calls make is longer than what came in: it says more and counts as full. Else prove '..UptoSaid'. A law counts once. -/
mutual
def uptoBulk {H : Type} : DataW H → Nat
  | .lit (.string bytes) => bytes.length + 1
  | .lit _ => 1
  | .nil => 1
  | .ptr d => uptoBulk d + 1
  | .slice elems spare => uptoBulkAll elems + uptoBulkAll spare + 1
  | .agg parts => uptoBulkAll parts + 1
  | .iface _ d => uptoBulk d + 1
  | .map entries => uptoBulkEntries entries + 1
  | .held _ => 1
def uptoBulkAll {H : Type} : List (DataW H) → Nat
  | [] => 0
  | d :: r => uptoBulk d + uptoBulkAll r
def uptoBulkEntries {H : Type} : List (Lit × DataW H) → Nat
  | [] => 0
  | x :: r => uptoBulkEntry x + uptoBulkEntries r
def uptoBulkEntry {H : Type} : Lit × DataW H → Nat
  | (.string bytes, d) => bytes.length + uptoBulk d + 1
  | (_, d) => uptoBulk d + 1
 end
def uptoSmall : (H : Type) → List (DataW H) → Bool := fun _ ds => decide (uptoBulkAll ds ≤ 1048576)
def OpenSpec.upto (s : _root_.Go.ChangeSpec) : _root_.Go.OpenSpec := { _root_.Go.OpenSpec.ofChange s with cond := some uptoSmall }

/-- 'laws.FnExactValidGame', WHERE WHAT IT READS IS OF BULK AT MOST 1048576: true; the input reads as it did. -/
def fnExactValidGameUptoRow : OpenClaim := { program := "ytmngmbpdiaocjaa", sum := "1c0f7f8ae3ab273cf977e475eda4f1977a3866a2687309d47d30e69dd498f7bc", func := "loop.example/g00926/laws.FnExactValidGame", spec := "fnExactValidGame", unfollowed := true, recurses := true, apart := false, narrowed := true }
def FnExactValidGameUptoSaid : Prop := fnExactValidGameUptoRow.holds Try.pinned (OpenSpec.upto fnExactValidGameSpec)

/-- 'laws.FnExactGameFrom', WHERE WHAT IT READS IS OF BULK AT MOST 1048576: true; the input reads as it did. -/
def fnExactGameFromUptoRow : OpenClaim := { program := "ytmngmbpdiaocjaa", sum := "1c0f7f8ae3ab273cf977e475eda4f1977a3866a2687309d47d30e69dd498f7bc", func := "loop.example/g00926/laws.FnExactGameFrom", spec := "fnExactGameFrom", unfollowed := true, recurses := true, apart := false, narrowed := true }
def FnExactGameFromUptoSaid : Prop := fnExactGameFromUptoRow.holds Try.pinned (OpenSpec.upto fnExactGameFromSpec)

/-- 'laws.FnExactMoversOf', WHERE WHAT IT READS IS OF BULK AT MOST 1048576: true; the input reads as it did. -/
def fnExactMoversOfUptoRow : OpenClaim := { program := "ytmngmbpdiaocjaa", sum := "1c0f7f8ae3ab273cf977e475eda4f1977a3866a2687309d47d30e69dd498f7bc", func := "loop.example/g00926/laws.FnExactMoversOf", spec := "fnExactMoversOf", unfollowed := true, recurses := true, apart := false, narrowed := true }
def FnExactMoversOfUptoSaid : Prop := fnExactMoversOfUptoRow.holds Try.pinned (OpenSpec.upto fnExactMoversOfSpec)

/-- 'laws.FnExactGainsOf', WHERE WHAT IT READS IS OF BULK AT MOST 1048576: true; the input reads as it did. -/
def fnExactGainsOfUptoRow : OpenClaim := { program := "ytmngmbpdiaocjaa", sum := "1c0f7f8ae3ab273cf977e475eda4f1977a3866a2687309d47d30e69dd498f7bc", func := "loop.example/g00926/laws.FnExactGainsOf", spec := "fnExactGainsOf", unfollowed := true, recurses := true, apart := false, narrowed := true }
def FnExactGainsOfUptoSaid : Prop := fnExactGainsOfUptoRow.holds Try.pinned (OpenSpec.upto fnExactGainsOfSpec)

/-- 'laws.FnExactRepeatsOf', WHERE WHAT IT READS IS OF BULK AT MOST 1048576: true; the input reads as it did. -/
def fnExactRepeatsOfUptoRow : OpenClaim := { program := "ytmngmbpdiaocjaa", sum := "1c0f7f8ae3ab273cf977e475eda4f1977a3866a2687309d47d30e69dd498f7bc", func := "loop.example/g00926/laws.FnExactRepeatsOf", spec := "fnExactRepeatsOf", unfollowed := true, recurses := true, apart := false, narrowed := true }
def FnExactRepeatsOfUptoSaid : Prop := fnExactRepeatsOfUptoRow.holds Try.pinned (OpenSpec.upto fnExactRepeatsOfSpec)

end Rows
end Go.Proofs.Ytmngmbpdiaocjaa
