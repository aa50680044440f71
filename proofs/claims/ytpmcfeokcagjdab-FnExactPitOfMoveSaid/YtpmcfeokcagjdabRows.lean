/-
  No cell of these rows narrows 'for every input' (looked for: loops, veiled, ifaces, maps, wideKeys, modest, calm, conditions, laid).
  DERIVED. THE GIVEN ROWS OF THIS SEAT. 4 by the template 'for every input the law returns true; each argument reads behind the call as it read before'; 0 by the template 'total and deterministic' (their statements: YtpmcfeokcagjdabTotals.lean).
  GIVEN WITH THE SEED: the statements are not yours to turn. If you find one false, say at which input.
  Laid BY PROGRAM, IN A SANDBOX (cutbox-rows.mjs): the forced cells as the released guide's own fill.sh prints them over the translation 5c23fd8607f68bd5… (all of the seat's roots in one cut). By AI agents, Wed Nov 11 2026. No macro, syntax, notation, axiom, sorry.
-/
import Derived.Test.YtpmcfeokcagjdabChecked
import GoSem.Claim
import GoSem.ClaimJoined
import GoSem.ClaimMapViews
import Derived.JoinedTies
import Derived.KernelRfl
namespace Go.Proofs.Ytpmcfeokcagjdab
/- THE CELL 'sum', in the pinned program and in every row, IS THE sha256 OF THE DUMP (.gsa) THAT YtpmcfeokcagjdabProg.lean LOADS. Nothing in Lean hashes anything: it is a label: what it is worth is what the hold of that sum in a sandbox is worth. -/
noncomputable def Try.pinned : Pinned := { name := "ytpmcfeokcagjdab", sum := "5c23fd8607f68bd5ae1785266dc3cf791594300497724e448e7297a33e7bec6d", checked := Try.checked }
namespace Rows
def none {H : Type} : Left H := { results := [], args := [] }

/-- 'laws.FnExactNextPit': WHATEVER THE INPUT: true; the input reads as it did. -/
def fnExactNextPitSpec : ChangeSpec := { name := "fnExactNextPit", fn := fun _ => fun
  | [d1, d2] => { results := [.lit (.bool true)], args := [d1, d2] }
  | _ => none }
def fnExactNextPitRow : OpenClaim := { program := "ytpmcfeokcagjdab", sum := "5c23fd8607f68bd5ae1785266dc3cf791594300497724e448e7297a33e7bec6d", func := "loop.example/g00926/laws.FnExactNextPit", spec := "fnExactNextPit", apart := false }
def FnExactNextPitSaid : Prop := fnExactNextPitRow.holds Try.pinned (OpenSpec.ofChange fnExactNextPitSpec)

/-- ITS FALSE NEIGHBOUR: 'it returns false'. Refute it at one input. -/
def fnExactNextPitWrong : ChangeSpec := { name := "fnExactNextPit", fn := fun _ => fun
  | [d1, d2] => { results := [.lit (.bool false)], args := [d1, d2] }
  | _ => none }
def FnExactNextPitWrongFalsely : Prop := fnExactNextPitRow.holds Try.pinned (OpenSpec.ofChange fnExactNextPitWrong)

/-- 'laws.FnExactOppositePit': WHATEVER THE INPUT: true; the input reads as it did. -/
def fnExactOppositePitSpec : ChangeSpec := { name := "fnExactOppositePit", fn := fun _ => fun
  | [d1, d2] => { results := [.lit (.bool true)], args := [d1, d2] }
  | _ => none }
def fnExactOppositePitRow : OpenClaim := { program := "ytpmcfeokcagjdab", sum := "5c23fd8607f68bd5ae1785266dc3cf791594300497724e448e7297a33e7bec6d", func := "loop.example/g00926/laws.FnExactOppositePit", spec := "fnExactOppositePit", apart := false }
def FnExactOppositePitSaid : Prop := fnExactOppositePitRow.holds Try.pinned (OpenSpec.ofChange fnExactOppositePitSpec)

/-- ITS FALSE NEIGHBOUR: 'it returns false'. Refute it at one input. -/
def fnExactOppositePitWrong : ChangeSpec := { name := "fnExactOppositePit", fn := fun _ => fun
  | [d1, d2] => { results := [.lit (.bool false)], args := [d1, d2] }
  | _ => none }
def FnExactOppositePitWrongFalsely : Prop := fnExactOppositePitRow.holds Try.pinned (OpenSpec.ofChange fnExactOppositePitWrong)

/-- 'laws.FnExactPitOfMove': WHATEVER THE INPUT: true; the input reads as it did. -/
def fnExactPitOfMoveSpec : ChangeSpec := { name := "fnExactPitOfMove", fn := fun _ => fun
  | [d1, d2, d3] => { results := [.lit (.bool true)], args := [d1, d2, d3] }
  | _ => none }
def fnExactPitOfMoveRow : OpenClaim := { program := "ytpmcfeokcagjdab", sum := "5c23fd8607f68bd5ae1785266dc3cf791594300497724e448e7297a33e7bec6d", func := "loop.example/g00926/laws.FnExactPitOfMove", spec := "fnExactPitOfMove", apart := false }
def FnExactPitOfMoveSaid : Prop := fnExactPitOfMoveRow.holds Try.pinned (OpenSpec.ofChange fnExactPitOfMoveSpec)

/-- ITS FALSE NEIGHBOUR: 'it returns false'. Refute it at one input. -/
def fnExactPitOfMoveWrong : ChangeSpec := { name := "fnExactPitOfMove", fn := fun _ => fun
  | [d1, d2, d3] => { results := [.lit (.bool false)], args := [d1, d2, d3] }
  | _ => none }
def FnExactPitOfMoveWrongFalsely : Prop := fnExactPitOfMoveRow.holds Try.pinned (OpenSpec.ofChange fnExactPitOfMoveWrong)

/-- 'laws.FnExactMoveOfPit': WHATEVER THE INPUT: true; the input reads as it did. -/
def fnExactMoveOfPitSpec : ChangeSpec := { name := "fnExactMoveOfPit", fn := fun _ => fun
  | [d1, d2] => { results := [.lit (.bool true)], args := [d1, d2] }
  | _ => none }
def fnExactMoveOfPitRow : OpenClaim := { program := "ytpmcfeokcagjdab", sum := "5c23fd8607f68bd5ae1785266dc3cf791594300497724e448e7297a33e7bec6d", func := "loop.example/g00926/laws.FnExactMoveOfPit", spec := "fnExactMoveOfPit", apart := false }
def FnExactMoveOfPitSaid : Prop := fnExactMoveOfPitRow.holds Try.pinned (OpenSpec.ofChange fnExactMoveOfPitSpec)

/-- ITS FALSE NEIGHBOUR: 'it returns false'. Refute it at one input. -/
def fnExactMoveOfPitWrong : ChangeSpec := { name := "fnExactMoveOfPit", fn := fun _ => fun
  | [d1, d2] => { results := [.lit (.bool false)], args := [d1, d2] }
  | _ => none }
def FnExactMoveOfPitWrongFalsely : Prop := fnExactMoveOfPitRow.holds Try.pinned (OpenSpec.ofChange fnExactMoveOfPitWrong)

/- THE SECOND FORM. 'bulk': how many values and letters a reading holds, each counted each time it is reached (what is shared counts as often as it is met; a slice's spare places count too). A statement '..UptoSaid' is the law's where the arguments, and the package variables that the reading takes, are together of bulk at most 1048576: NARROWER than '..Said'. Prove '..Said' where nothing that the law and all that it calls make is longer than what came in: it says more and counts as full. Else prove '..UptoSaid'. A law counts once. -/
mutual
def uptoBulk {H : Type} : DataW H → Nat
  | .lit (.string bytes) => bytes.length + 1
  | .lit _ => 1
  | .nil => 1
  | .ptr d => uptoBulk d + 1
  | .slice elems spare => uptoBulkAll elems + uptoBulkAll spare + 1
  | .agg parts => uptoBulkAll parts + 1
  | .iface _ d => uptoBulk d + 1
  | .map entries => uptoBulkEntries entries + 1
  | .held _ => 1
def uptoBulkAll {H : Type} : List (DataW H) → Nat
  | [] => 0
  | d :: r => uptoBulk d + uptoBulkAll r
def uptoBulkEntries {H : Type} : List (Lit × DataW H) → Nat
  | [] => 0
  | x :: r => uptoBulkEntry x + uptoBulkEntries r
def uptoBulkEntry {H : Type} : Lit × DataW H → Nat
  | (.string bytes, d) => bytes.length + uptoBulk d + 1
  | (_, d) => uptoBulk d + 1
 end
def uptoSmall : (H : Type) → List (DataW H) → Bool := fun _ ds => decide (uptoBulkAll ds ≤ 1048576)
def OpenSpec.upto (s : _root_.Go.ChangeSpec) : _root_.Go.OpenSpec := { _root_.Go.OpenSpec.ofChange s with cond := some uptoSmall }

/-- 'laws.FnExactNextPit', WHERE WHAT IT READS IS OF BULK AT MOST 1048576: true; the input reads as it did. -/
def fnExactNextPitUptoRow : OpenClaim := { program := "ytpmcfeokcagjdab", sum := "5c23fd8607f68bd5ae1785266dc3cf791594300497724e448e7297a33e7bec6d", func := "loop.example/g00926/laws.FnExactNextPit", spec := "fnExactNextPit", apart := false, narrowed := true }
def FnExactNextPitUptoSaid : Prop := fnExactNextPitUptoRow.holds Try.pinned (OpenSpec.upto fnExactNextPitSpec)

/-- 'laws.FnExactOppositePit', WHERE WHAT IT READS IS OF BULK AT MOST 1048576: true; the input reads as it did. -/
def fnExactOppositePitUptoRow : OpenClaim := { program := "ytpmcfeokcagjdab", sum := "5c23fd8607f68bd5ae1785266dc3cf791594300497724e448e7297a33e7bec6d", func := "loop.example/g00926/laws.FnExactOppositePit", spec := "fnExactOppositePit", apart := false, narrowed := true }
def FnExactOppositePitUptoSaid : Prop := fnExactOppositePitUptoRow.holds Try.pinned (OpenSpec.upto fnExactOppositePitSpec)

/-- 'laws.FnExactPitOfMove', WHERE WHAT IT READS IS OF BULK AT MOST 1048576: true; the input reads as it did. -/
def fnExactPitOfMoveUptoRow : OpenClaim := { program := "ytpmcfeokcagjdab", sum := "5c23fd8607f68bd5ae1785266dc3cf791594300497724e448e7297a33e7bec6d", func := "loop.example/g00926/laws.FnExactPitOfMove", spec := "fnExactPitOfMove", apart := false, narrowed := true }
def FnExactPitOfMoveUptoSaid : Prop := fnExactPitOfMoveUptoRow.holds Try.pinned (OpenSpec.upto fnExactPitOfMoveSpec)

/-- 'laws.FnExactMoveOfPit', WHERE WHAT IT READS IS OF BULK AT MOST 1048576: true; the input reads as it did. -/
def fnExactMoveOfPitUptoRow : OpenClaim := { program := "ytpmcfeokcagjdab", sum := "5c23fd8607f68bd5ae1785266dc3cf791594300497724e448e7297a33e7bec6d", func := "loop.example/g00926/laws.FnExactMoveOfPit", spec := "fnExactMoveOfPit", apart := false, narrowed := true }
def FnExactMoveOfPitUptoSaid : Prop := fnExactMoveOfPitUptoRow.holds Try.pinned (OpenSpec.upto fnExactMoveOfPitSpec)

end Rows
end Go.Proofs.Ytpmcfeokcagjdab
