/-
  No cell of these rows narrows 'for every input' (looked for: loops, veiled, ifaces, maps, wideKeys, modest, calm, conditions, laid).
  DERIVED. THE GIVEN ROWS OF THIS SEAT. 8 by the template 'for every input the law returns true; each argument reads behind the call as it read before'; 0 by the template 'total and deterministic' (their statements: YtipmhddkdmagnaaTotals.lean).
  GIVEN WITH THE SEED: the statements are not yours to turn. If you find one false, say at which input.
  Laid BY PROGRAM, IN A SANDBOX (cutbox-rows.mjs): the forced cells as the released guide's own fill.sh prints them over the translation 272c7f97d5c3ef74… (all of the seat's roots in one cut). By AI agents, Wed Nov 11 2026. No macro, syntax, notation, axiom, sorry.
-/
import Derived.Test.YtipmhddkdmagnaaChecked
import GoSem.Claim
import GoSem.ClaimJoined
import GoSem.ClaimMapViews
import Derived.JoinedTies
import Derived.KernelRfl
namespace Go.Proofs.Ytipmhddkdmagnaa
/- THE CELL 'sum', in the pinned program and in every row, IS THE sha256 OF THE DUMP (.gsa) THAT YtipmhddkdmagnaaProg.lean LOADS. Nothing in Lean hashes anything: it is a label: what it is worth is what the hold of that sum in a sandbox is worth. -/
noncomputable def Try.pinned : Pinned := { name := "ytipmhddkdmagnaa", sum := "272c7f97d5c3ef7402589cfba2e5d1bb84439250bcae3a5925853db15ec916e3", checked := Try.checked }
namespace Rows
def none {H : Type} : Left H := { results := [], args := [] }

/-- 'laws.FnExactEndName': WHATEVER THE INPUT: true; the input reads as it did. -/
def fnExactEndNameSpec : ChangeSpec := { name := "fnExactEndName", fn := fun _ => fun
  | [d] => { results := [.lit (.bool true)], args := [d] }
  | _ => none }
def fnExactEndNameRow : OpenClaim := { program := "ytipmhddkdmagnaa", sum := "272c7f97d5c3ef7402589cfba2e5d1bb84439250bcae3a5925853db15ec916e3", func := "loop.example/g00926/laws.FnExactEndName", spec := "fnExactEndName", apart := false }
def FnExactEndNameSaid : Prop := fnExactEndNameRow.holds Try.pinned (OpenSpec.ofChange fnExactEndNameSpec)

/-- ITS FALSE NEIGHBOUR: 'it returns false'. Refute it at one input. -/
def fnExactEndNameWrong : ChangeSpec := { name := "fnExactEndName", fn := fun _ => fun
  | [d] => { results := [.lit (.bool false)], args := [d] }
  | _ => none }
def FnExactEndNameWrongFalsely : Prop := fnExactEndNameRow.holds Try.pinned (OpenSpec.ofChange fnExactEndNameWrong)

/-- 'laws.FnExactMajorityOf': WHATEVER THE INPUT: true; the input reads as it did. -/
def fnExactMajorityOfSpec : ChangeSpec := { name := "fnExactMajorityOf", fn := fun _ => fun
  | [d1, d2] => { results := [.lit (.bool true)], args := [d1, d2] }
  | _ => none }
def fnExactMajorityOfRow : OpenClaim := { program := "ytipmhddkdmagnaa", sum := "272c7f97d5c3ef7402589cfba2e5d1bb84439250bcae3a5925853db15ec916e3", func := "loop.example/g00926/laws.FnExactMajorityOf", spec := "fnExactMajorityOf", unfollowed := true, recurses := true, apart := false }
def FnExactMajorityOfSaid : Prop := fnExactMajorityOfRow.holds Try.pinned (OpenSpec.ofChange fnExactMajorityOfSpec)

/-- ITS FALSE NEIGHBOUR: 'it returns false'. Refute it at one input. -/
def fnExactMajorityOfWrong : ChangeSpec := { name := "fnExactMajorityOf", fn := fun _ => fun
  | [d1, d2] => { results := [.lit (.bool false)], args := [d1, d2] }
  | _ => none }
def FnExactMajorityOfWrongFalsely : Prop := fnExactMajorityOfRow.holds Try.pinned (OpenSpec.ofChange fnExactMajorityOfWrong)

/-- 'laws.FnExactNeededFor': WHATEVER THE INPUT: true; the input reads as it did. -/
def fnExactNeededForSpec : ChangeSpec := { name := "fnExactNeededFor", fn := fun _ => fun
  | [d1, d2, d3] => { results := [.lit (.bool true)], args := [d1, d2, d3] }
  | _ => none }
def fnExactNeededForRow : OpenClaim := { program := "ytipmhddkdmagnaa", sum := "272c7f97d5c3ef7402589cfba2e5d1bb84439250bcae3a5925853db15ec916e3", func := "loop.example/g00926/laws.FnExactNeededFor", spec := "fnExactNeededFor", unfollowed := true, recurses := true, apart := false }
def FnExactNeededForSaid : Prop := fnExactNeededForRow.holds Try.pinned (OpenSpec.ofChange fnExactNeededForSpec)

/-- ITS FALSE NEIGHBOUR: 'it returns false'. Refute it at one input. -/
def fnExactNeededForWrong : ChangeSpec := { name := "fnExactNeededFor", fn := fun _ => fun
  | [d1, d2, d3] => { results := [.lit (.bool false)], args := [d1, d2, d3] }
  | _ => none }
def FnExactNeededForWrongFalsely : Prop := fnExactNeededForRow.holds Try.pinned (OpenSpec.ofChange fnExactNeededForWrong)

/-- 'laws.FnExactSettlePosition': WHATEVER THE INPUT: true; the input reads as it did. -/
def fnExactSettlePositionSpec : ChangeSpec := { name := "fnExactSettlePosition", fn := fun _ => fun
  | [d1, d2] => { results := [.lit (.bool true)], args := [d1, d2] }
  | _ => none }
def fnExactSettlePositionRow : OpenClaim := { program := "ytipmhddkdmagnaa", sum := "272c7f97d5c3ef7402589cfba2e5d1bb84439250bcae3a5925853db15ec916e3", func := "loop.example/g00926/laws.FnExactSettlePosition", spec := "fnExactSettlePosition", unfollowed := true, recurses := true, apart := false }
def FnExactSettlePositionSaid : Prop := fnExactSettlePositionRow.holds Try.pinned (OpenSpec.ofChange fnExactSettlePositionSpec)

/-- ITS FALSE NEIGHBOUR: 'it returns false'. Refute it at one input. -/
def fnExactSettlePositionWrong : ChangeSpec := { name := "fnExactSettlePosition", fn := fun _ => fun
  | [d1, d2] => { results := [.lit (.bool false)], args := [d1, d2] }
  | _ => none }
def FnExactSettlePositionWrongFalsely : Prop := fnExactSettlePositionRow.holds Try.pinned (OpenSpec.ofChange fnExactSettlePositionWrong)

/-- 'laws.FnExactGivePosition': WHATEVER THE INPUT: true; the input reads as it did. -/
def fnExactGivePositionSpec : ChangeSpec := { name := "fnExactGivePosition", fn := fun _ => fun
  | [d1, d2, d3] => { results := [.lit (.bool true)], args := [d1, d2, d3] }
  | _ => none }
def fnExactGivePositionRow : OpenClaim := { program := "ytipmhddkdmagnaa", sum := "272c7f97d5c3ef7402589cfba2e5d1bb84439250bcae3a5925853db15ec916e3", func := "loop.example/g00926/laws.FnExactGivePosition", spec := "fnExactGivePosition", unfollowed := true, recurses := true, apart := false }
def FnExactGivePositionSaid : Prop := fnExactGivePositionRow.holds Try.pinned (OpenSpec.ofChange fnExactGivePositionSpec)

/-- ITS FALSE NEIGHBOUR: 'it returns false'. Refute it at one input. -/
def fnExactGivePositionWrong : ChangeSpec := { name := "fnExactGivePosition", fn := fun _ => fun
  | [d1, d2, d3] => { results := [.lit (.bool false)], args := [d1, d2, d3] }
  | _ => none }
def FnExactGivePositionWrongFalsely : Prop := fnExactGivePositionRow.holds Try.pinned (OpenSpec.ofChange fnExactGivePositionWrong)

/-- 'laws.FnExactLeadOf': WHATEVER THE INPUT: true; the input reads as it did. -/
def fnExactLeadOfSpec : ChangeSpec := { name := "fnExactLeadOf", fn := fun _ => fun
  | [d1, d2] => { results := [.lit (.bool true)], args := [d1, d2] }
  | _ => none }
def fnExactLeadOfRow : OpenClaim := { program := "ytipmhddkdmagnaa", sum := "272c7f97d5c3ef7402589cfba2e5d1bb84439250bcae3a5925853db15ec916e3", func := "loop.example/g00926/laws.FnExactLeadOf", spec := "fnExactLeadOf", unfollowed := true, recurses := true, apart := false }
def FnExactLeadOfSaid : Prop := fnExactLeadOfRow.holds Try.pinned (OpenSpec.ofChange fnExactLeadOfSpec)

/-- ITS FALSE NEIGHBOUR: 'it returns false'. Refute it at one input. -/
def fnExactLeadOfWrong : ChangeSpec := { name := "fnExactLeadOf", fn := fun _ => fun
  | [d1, d2] => { results := [.lit (.bool false)], args := [d1, d2] }
  | _ => none }
def FnExactLeadOfWrongFalsely : Prop := fnExactLeadOfRow.holds Try.pinned (OpenSpec.ofChange fnExactLeadOfWrong)

/-- 'laws.FnSettled': WHATEVER THE INPUT: true; the input reads as it did. -/
def fnSettledSpec : ChangeSpec := { name := "fnSettled", fn := fun _ => fun
  | [d] => { results := [.lit (.bool true)], args := [d] }
  | _ => none }
def fnSettledRow : OpenClaim := { program := "ytipmhddkdmagnaa", sum := "272c7f97d5c3ef7402589cfba2e5d1bb84439250bcae3a5925853db15ec916e3", func := "loop.example/g00926/laws.FnSettled", spec := "fnSettled", unfollowed := true, recurses := true, apart := false }
def FnSettledSaid : Prop := fnSettledRow.holds Try.pinned (OpenSpec.ofChange fnSettledSpec)

/-- ITS FALSE NEIGHBOUR: 'it returns false'. Refute it at one input. -/
def fnSettledWrong : ChangeSpec := { name := "fnSettled", fn := fun _ => fun
  | [d] => { results := [.lit (.bool false)], args := [d] }
  | _ => none }
def FnSettledWrongFalsely : Prop := fnSettledRow.holds Try.pinned (OpenSpec.ofChange fnSettledWrong)

/-- 'laws.FnExactResultsOf': WHATEVER THE INPUT: true; the input reads as it did. -/
def fnExactResultsOfSpec : ChangeSpec := { name := "fnExactResultsOf", fn := fun _ => fun
  | [d1, d2] => { results := [.lit (.bool true)], args := [d1, d2] }
  | _ => none }
def fnExactResultsOfRow : OpenClaim := { program := "ytipmhddkdmagnaa", sum := "272c7f97d5c3ef7402589cfba2e5d1bb84439250bcae3a5925853db15ec916e3", func := "loop.example/g00926/laws.FnExactResultsOf", spec := "fnExactResultsOf", unfollowed := true, recurses := true, apart := false }
def FnExactResultsOfSaid : Prop := fnExactResultsOfRow.holds Try.pinned (OpenSpec.ofChange fnExactResultsOfSpec)

/-- ITS FALSE NEIGHBOUR: 'it returns false'. Refute it at one input. -/
def fnExactResultsOfWrong : ChangeSpec := { name := "fnExactResultsOf", fn := fun _ => fun
  | [d1, d2] => { results := [.lit (.bool false)], args := [d1, d2] }
  | _ => none }
def FnExactResultsOfWrongFalsely : Prop := fnExactResultsOfRow.holds Try.pinned (OpenSpec.ofChange fnExactResultsOfWrong)

/- THE SECOND FORM. 'bulk': how many values and letters a reading holds, each counted each time it is reached (what is shared counts as often as it is met; a slice's spare places count too). A statement '..UptoSaid' is the law's where the arguments, and the package variables that the reading takes, are together of bulk at most 1048576: NARROWER than '..Said'. Prove '..Said' where nothing that the law and all that it calls make is longer than what came in: it says more and counts as full. Else prove '..UptoSaid'. A law counts once. -/
mutual
def uptoBulk {H : Type} : DataW H → Nat
  | .lit (.string bytes) => bytes.length + 1
  | .lit _ => 1
  | .nil => 1
  | .ptr d => uptoBulk d + 1
  | .slice elems spare => uptoBulkAll elems + uptoBulkAll spare + 1
  | .agg parts => uptoBulkAll parts + 1
  | .iface _ d => uptoBulk d + 1
  | .map entries => uptoBulkEntries entries + 1
  | .held _ => 1
def uptoBulkAll {H : Type} : List (DataW H) → Nat
  | [] => 0
  | d :: r => uptoBulk d + uptoBulkAll r
def uptoBulkEntries {H : Type} : List (Lit × DataW H) → Nat
  | [] => 0
  | x :: r => uptoBulkEntry x + uptoBulkEntries r
def uptoBulkEntry {H : Type} : Lit × DataW H → Nat
  | (.string bytes, d) => bytes.length + uptoBulk d + 1
  | (_, d) => uptoBulk d + 1
 end
def uptoSmall : (H : Type) → List (DataW H) → Bool := fun _ ds => decide (uptoBulkAll ds ≤ 1048576)
def OpenSpec.upto (s : _root_.Go.ChangeSpec) : _root_.Go.OpenSpec := { _root_.Go.OpenSpec.ofChange s with cond := some uptoSmall }

/-- 'laws.FnExactEndName', WHERE WHAT IT READS IS OF BULK AT MOST 1048576: true; the input reads as it did. -/
def fnExactEndNameUptoRow : OpenClaim := { program := "ytipmhddkdmagnaa", sum := "272c7f97d5c3ef7402589cfba2e5d1bb84439250bcae3a5925853db15ec916e3", func := "loop.example/g00926/laws.FnExactEndName", spec := "fnExactEndName", apart := false, narrowed := true }
def FnExactEndNameUptoSaid : Prop := fnExactEndNameUptoRow.holds Try.pinned (OpenSpec.upto fnExactEndNameSpec)

/-- 'laws.FnExactMajorityOf', WHERE WHAT IT READS IS OF BULK AT MOST 1048576: true; the input reads as it did. -/
def fnExactMajorityOfUptoRow : OpenClaim := { program := "ytipmhddkdmagnaa", sum := "272c7f97d5c3ef7402589cfba2e5d1bb84439250bcae3a5925853db15ec916e3", func := "loop.example/g00926/laws.FnExactMajorityOf", spec := "fnExactMajorityOf", unfollowed := true, recurses := true, apart := false, narrowed := true }
def FnExactMajorityOfUptoSaid : Prop := fnExactMajorityOfUptoRow.holds Try.pinned (OpenSpec.upto fnExactMajorityOfSpec)

/-- 'laws.FnExactNeededFor', WHERE WHAT IT READS IS OF BULK AT MOST 1048576: true; the input reads as it did. -/
def fnExactNeededForUptoRow : OpenClaim := { program := "ytipmhddkdmagnaa", sum := "272c7f97d5c3ef7402589cfba2e5d1bb84439250bcae3a5925853db15ec916e3", func := "loop.example/g00926/laws.FnExactNeededFor", spec := "fnExactNeededFor", unfollowed := true, recurses := true, apart := false, narrowed := true }
def FnExactNeededForUptoSaid : Prop := fnExactNeededForUptoRow.holds Try.pinned (OpenSpec.upto fnExactNeededForSpec)

/-- 'laws.FnExactSettlePosition', WHERE WHAT IT READS IS OF BULK AT MOST 1048576: true; the input reads as it did. -/
def fnExactSettlePositionUptoRow : OpenClaim := { program := "ytipmhddkdmagnaa", sum := "272c7f97d5c3ef7402589cfba2e5d1bb84439250bcae3a5925853db15ec916e3", func := "loop.example/g00926/laws.FnExactSettlePosition", spec := "fnExactSettlePosition", unfollowed := true, recurses := true, apart := false, narrowed := true }
def FnExactSettlePositionUptoSaid : Prop := fnExactSettlePositionUptoRow.holds Try.pinned (OpenSpec.upto fnExactSettlePositionSpec)

/-- 'laws.FnExactGivePosition', WHERE WHAT IT READS IS OF BULK AT MOST 1048576: true; the input reads as it did. -/
def fnExactGivePositionUptoRow : OpenClaim := { program := "ytipmhddkdmagnaa", sum := "272c7f97d5c3ef7402589cfba2e5d1bb84439250bcae3a5925853db15ec916e3", func := "loop.example/g00926/laws.FnExactGivePosition", spec := "fnExactGivePosition", unfollowed := true, recurses := true, apart := false, narrowed := true }
def FnExactGivePositionUptoSaid : Prop := fnExactGivePositionUptoRow.holds Try.pinned (OpenSpec.upto fnExactGivePositionSpec)

/-- 'laws.FnExactLeadOf', WHERE WHAT IT READS IS OF BULK AT MOST 1048576: true; the input reads as it did. -/
def fnExactLeadOfUptoRow : OpenClaim := { program := "ytipmhddkdmagnaa", sum := "272c7f97d5c3ef7402589cfba2e5d1bb84439250bcae3a5925853db15ec916e3", func := "loop.example/g00926/laws.FnExactLeadOf", spec := "fnExactLeadOf", unfollowed := true, recurses := true, apart := false, narrowed := true }
def FnExactLeadOfUptoSaid : Prop := fnExactLeadOfUptoRow.holds Try.pinned (OpenSpec.upto fnExactLeadOfSpec)

/-- 'laws.FnSettled', WHERE WHAT IT READS IS OF BULK AT MOST 1048576: true; the input reads as it did. -/
def fnSettledUptoRow : OpenClaim := { program := "ytipmhddkdmagnaa", sum := "272c7f97d5c3ef7402589cfba2e5d1bb84439250bcae3a5925853db15ec916e3", func := "loop.example/g00926/laws.FnSettled", spec := "fnSettled", unfollowed := true, recurses := true, apart := false, narrowed := true }
def FnSettledUptoSaid : Prop := fnSettledUptoRow.holds Try.pinned (OpenSpec.upto fnSettledSpec)

/-- 'laws.FnExactResultsOf', WHERE WHAT IT READS IS OF BULK AT MOST 1048576: true; the input reads as it did. -/
def fnExactResultsOfUptoRow : OpenClaim := { program := "ytipmhddkdmagnaa", sum := "272c7f97d5c3ef7402589cfba2e5d1bb84439250bcae3a5925853db15ec916e3", func := "loop.example/g00926/laws.FnExactResultsOf", spec := "fnExactResultsOf", unfollowed := true, recurses := true, apart := false, narrowed := true }
def FnExactResultsOfUptoSaid : Prop := fnExactResultsOfUptoRow.holds Try.pinned (OpenSpec.upto fnExactResultsOfSpec)

end Rows
end Go.Proofs.Ytipmhddkdmagnaa
