/-
  No cell of these rows narrows 'for every input' (looked for: loops, veiled, ifaces, maps, wideKeys, modest, calm, conditions, laid).
  DERIVED. THE GIVEN ROWS OF THIS SEAT. 9 by the template 'for every input the law returns true; each argument reads behind the call as it read before'; 0 by the template 'total and deterministic' (their statements: YtpmcfeokcagjdaaTotals.lean).
  GIVEN WITH THE SEED: the statements are not yours to turn. If you find one false, say at which input.
  Laid BY PROGRAM, IN A SANDBOX (cutbox-rows.mjs): the forced cells as the released guide's own fill.sh prints them over the translation 227b4774f5f39e9f… (all of the seat's roots in one cut). By AI agents, Wed Nov 11 2026. No macro, syntax, notation, axiom, sorry.
-/
import Derived.Test.YtpmcfeokcagjdaaChecked
import GoSem.Claim
import GoSem.ClaimJoined
import GoSem.ClaimMapViews
import Derived.JoinedTies
import Derived.KernelRfl
namespace Go.Proofs.Ytpmcfeokcagjdaa
/- THE CELL 'sum', in the pinned program and in every row, IS THE sha256 OF THE DUMP (.gsa) THAT YtpmcfeokcagjdaaProg.lean LOADS. Nothing in Lean hashes anything: it is a label: what it is worth is what the hold of that sum in a sandbox is worth. -/
noncomputable def Try.pinned : Pinned := { name := "ytpmcfeokcagjdaa", sum := "227b4774f5f39e9f30c4adcdeaeea55ef260af5dcdedb0e35d90493f89bb4b09", checked := Try.checked }
namespace Rows
def none {H : Type} : Left H := { results := [], args := [] }

/-- 'laws.FnPits': WHATEVER THE INPUT: true; the input reads as it did. -/
def fnPitsSpec : ChangeSpec := { name := "fnPits", fn := fun _ => fun
  | [d1, d2] => { results := [.lit (.bool true)], args := [d1, d2] }
  | _ => none }
def fnPitsRow : OpenClaim := { program := "ytpmcfeokcagjdaa", sum := "227b4774f5f39e9f30c4adcdeaeea55ef260af5dcdedb0e35d90493f89bb4b09", func := "loop.example/g00926/laws.FnPits", spec := "fnPits", apart := false }
def FnPitsSaid : Prop := fnPitsRow.holds Try.pinned (OpenSpec.ofChange fnPitsSpec)

/-- ITS FALSE NEIGHBOUR: 'it returns false'. Refute it at one input. -/
def fnPitsWrong : ChangeSpec := { name := "fnPits", fn := fun _ => fun
  | [d1, d2] => { results := [.lit (.bool false)], args := [d1, d2] }
  | _ => none }
def FnPitsWrongFalsely : Prop := fnPitsRow.holds Try.pinned (OpenSpec.ofChange fnPitsWrong)

/-- 'laws.FnExactIsName': WHATEVER THE INPUT: true; the input reads as it did. -/
def fnExactIsNameSpec : ChangeSpec := { name := "fnExactIsName", fn := fun _ => fun
  | [d] => { results := [.lit (.bool true)], args := [d] }
  | _ => none }
def fnExactIsNameRow : OpenClaim := { program := "ytpmcfeokcagjdaa", sum := "227b4774f5f39e9f30c4adcdeaeea55ef260af5dcdedb0e35d90493f89bb4b09", func := "loop.example/g00926/laws.FnExactIsName", spec := "fnExactIsName", apart := false }
def FnExactIsNameSaid : Prop := fnExactIsNameRow.holds Try.pinned (OpenSpec.ofChange fnExactIsNameSpec)

/-- ITS FALSE NEIGHBOUR: 'it returns false'. Refute it at one input. -/
def fnExactIsNameWrong : ChangeSpec := { name := "fnExactIsName", fn := fun _ => fun
  | [d] => { results := [.lit (.bool false)], args := [d] }
  | _ => none }
def FnExactIsNameWrongFalsely : Prop := fnExactIsNameRow.holds Try.pinned (OpenSpec.ofChange fnExactIsNameWrong)

/-- 'laws.FnExactSplitWords': WHATEVER THE INPUT: true; the input reads as it did. -/
def fnExactSplitWordsSpec : ChangeSpec := { name := "fnExactSplitWords", fn := fun _ => fun
  | [d] => { results := [.lit (.bool true)], args := [d] }
  | _ => none }
def fnExactSplitWordsRow : OpenClaim := { program := "ytpmcfeokcagjdaa", sum := "227b4774f5f39e9f30c4adcdeaeea55ef260af5dcdedb0e35d90493f89bb4b09", func := "loop.example/g00926/laws.FnExactSplitWords", spec := "fnExactSplitWords", unfollowed := true, recurses := true, apart := false }
def FnExactSplitWordsSaid : Prop := fnExactSplitWordsRow.holds Try.pinned (OpenSpec.ofChange fnExactSplitWordsSpec)

/-- ITS FALSE NEIGHBOUR: 'it returns false'. Refute it at one input. -/
def fnExactSplitWordsWrong : ChangeSpec := { name := "fnExactSplitWords", fn := fun _ => fun
  | [d] => { results := [.lit (.bool false)], args := [d] }
  | _ => none }
def FnExactSplitWordsWrongFalsely : Prop := fnExactSplitWordsRow.holds Try.pinned (OpenSpec.ofChange fnExactSplitWordsWrong)

/-- 'laws.FnExactValidRules': WHATEVER THE INPUT: true; the input reads as it did. -/
def fnExactValidRulesSpec : ChangeSpec := { name := "fnExactValidRules", fn := fun _ => fun
  | [d] => { results := [.lit (.bool true)], args := [d] }
  | _ => none }
def fnExactValidRulesRow : OpenClaim := { program := "ytpmcfeokcagjdaa", sum := "227b4774f5f39e9f30c4adcdeaeea55ef260af5dcdedb0e35d90493f89bb4b09", func := "loop.example/g00926/laws.FnExactValidRules", spec := "fnExactValidRules", apart := false }
def FnExactValidRulesSaid : Prop := fnExactValidRulesRow.holds Try.pinned (OpenSpec.ofChange fnExactValidRulesSpec)

/-- ITS FALSE NEIGHBOUR: 'it returns false'. Refute it at one input. -/
def fnExactValidRulesWrong : ChangeSpec := { name := "fnExactValidRules", fn := fun _ => fun
  | [d] => { results := [.lit (.bool false)], args := [d] }
  | _ => none }
def FnExactValidRulesWrongFalsely : Prop := fnExactValidRulesRow.holds Try.pinned (OpenSpec.ofChange fnExactValidRulesWrong)

/-- 'laws.FnExactStandardNames': WHATEVER THE INPUT: true; the input reads as it did. -/
def fnExactStandardNamesSpec : ChangeSpec := { name := "fnExactStandardNames", fn := fun _ => fun
  | [] => { results := [.lit (.bool true)], args := [] }
  | _ => none }
def fnExactStandardNamesRow : OpenClaim := { program := "ytpmcfeokcagjdaa", sum := "227b4774f5f39e9f30c4adcdeaeea55ef260af5dcdedb0e35d90493f89bb4b09", func := "loop.example/g00926/laws.FnExactStandardNames", spec := "fnExactStandardNames", apart := false }
def FnExactStandardNamesSaid : Prop := fnExactStandardNamesRow.holds Try.pinned (OpenSpec.ofChange fnExactStandardNamesSpec)

/-- ITS FALSE NEIGHBOUR: 'it returns false'. Refute it at one input. -/
def fnExactStandardNamesWrong : ChangeSpec := { name := "fnExactStandardNames", fn := fun _ => fun
  | [] => { results := [.lit (.bool false)], args := [] }
  | _ => none }
def FnExactStandardNamesWrongFalsely : Prop := fnExactStandardNamesRow.holds Try.pinned (OpenSpec.ofChange fnExactStandardNamesWrong)

/-- 'laws.FnExactStandardRules': WHATEVER THE INPUT: true; the input reads as it did. -/
def fnExactStandardRulesSpec : ChangeSpec := { name := "fnExactStandardRules", fn := fun _ => fun
  | [d] => { results := [.lit (.bool true)], args := [d] }
  | _ => none }
def fnExactStandardRulesRow : OpenClaim := { program := "ytpmcfeokcagjdaa", sum := "227b4774f5f39e9f30c4adcdeaeea55ef260af5dcdedb0e35d90493f89bb4b09", func := "loop.example/g00926/laws.FnExactStandardRules", spec := "fnExactStandardRules", apart := false }
def FnExactStandardRulesSaid : Prop := fnExactStandardRulesRow.holds Try.pinned (OpenSpec.ofChange fnExactStandardRulesSpec)

/-- ITS FALSE NEIGHBOUR: 'it returns false'. Refute it at one input. -/
def fnExactStandardRulesWrong : ChangeSpec := { name := "fnExactStandardRules", fn := fun _ => fun
  | [d] => { results := [.lit (.bool false)], args := [d] }
  | _ => none }
def FnExactStandardRulesWrongFalsely : Prop := fnExactStandardRulesRow.holds Try.pinned (OpenSpec.ofChange fnExactStandardRulesWrong)

/-- 'laws.FnExactStandardName': WHATEVER THE INPUT: true; the input reads as it did. -/
def fnExactStandardNameSpec : ChangeSpec := { name := "fnExactStandardName", fn := fun _ => fun
  | [d] => { results := [.lit (.bool true)], args := [d] }
  | _ => none }
def fnExactStandardNameRow : OpenClaim := { program := "ytpmcfeokcagjdaa", sum := "227b4774f5f39e9f30c4adcdeaeea55ef260af5dcdedb0e35d90493f89bb4b09", func := "loop.example/g00926/laws.FnExactStandardName", spec := "fnExactStandardName", apart := false }
def FnExactStandardNameSaid : Prop := fnExactStandardNameRow.holds Try.pinned (OpenSpec.ofChange fnExactStandardNameSpec)

/-- ITS FALSE NEIGHBOUR: 'it returns false'. Refute it at one input. -/
def fnExactStandardNameWrong : ChangeSpec := { name := "fnExactStandardName", fn := fun _ => fun
  | [d] => { results := [.lit (.bool false)], args := [d] }
  | _ => none }
def FnExactStandardNameWrongFalsely : Prop := fnExactStandardNameRow.holds Try.pinned (OpenSpec.ofChange fnExactStandardNameWrong)

/-- 'laws.FnExactTotalSeeds': WHATEVER THE INPUT: true; the input reads as it did. -/
def fnExactTotalSeedsSpec : ChangeSpec := { name := "fnExactTotalSeeds", fn := fun _ => fun
  | [d] => { results := [.lit (.bool true)], args := [d] }
  | _ => none }
def fnExactTotalSeedsRow : OpenClaim := { program := "ytpmcfeokcagjdaa", sum := "227b4774f5f39e9f30c4adcdeaeea55ef260af5dcdedb0e35d90493f89bb4b09", func := "loop.example/g00926/laws.FnExactTotalSeeds", spec := "fnExactTotalSeeds", apart := false }
def FnExactTotalSeedsSaid : Prop := fnExactTotalSeedsRow.holds Try.pinned (OpenSpec.ofChange fnExactTotalSeedsSpec)

/-- ITS FALSE NEIGHBOUR: 'it returns false'. Refute it at one input. -/
def fnExactTotalSeedsWrong : ChangeSpec := { name := "fnExactTotalSeeds", fn := fun _ => fun
  | [d] => { results := [.lit (.bool false)], args := [d] }
  | _ => none }
def FnExactTotalSeedsWrongFalsely : Prop := fnExactTotalSeedsRow.holds Try.pinned (OpenSpec.ofChange fnExactTotalSeedsWrong)

/-- 'laws.FnExactOwnerOf': WHATEVER THE INPUT: true; the input reads as it did. -/
def fnExactOwnerOfSpec : ChangeSpec := { name := "fnExactOwnerOf", fn := fun _ => fun
  | [d1, d2] => { results := [.lit (.bool true)], args := [d1, d2] }
  | _ => none }
def fnExactOwnerOfRow : OpenClaim := { program := "ytpmcfeokcagjdaa", sum := "227b4774f5f39e9f30c4adcdeaeea55ef260af5dcdedb0e35d90493f89bb4b09", func := "loop.example/g00926/laws.FnExactOwnerOf", spec := "fnExactOwnerOf", apart := false }
def FnExactOwnerOfSaid : Prop := fnExactOwnerOfRow.holds Try.pinned (OpenSpec.ofChange fnExactOwnerOfSpec)

/-- ITS FALSE NEIGHBOUR: 'it returns false'. Refute it at one input. -/
def fnExactOwnerOfWrong : ChangeSpec := { name := "fnExactOwnerOf", fn := fun _ => fun
  | [d1, d2] => { results := [.lit (.bool false)], args := [d1, d2] }
  | _ => none }
def FnExactOwnerOfWrongFalsely : Prop := fnExactOwnerOfRow.holds Try.pinned (OpenSpec.ofChange fnExactOwnerOfWrong)

/- THE SECOND FORM. 'bulk': how many values and letters a reading holds, each counted each time it is reached (what is shared counts as often as it is met; a slice's spare places count too). A statement '..UptoSaid' is the law's where the arguments, and the package variables that the reading takes, are together of bulk at most 1048576: NARROWER than '..Said'. Prove '..Said' where nothing that the law and all that it calls make is longer than what came in: it says more and counts as full. Else prove '..UptoSaid'. A law counts once. -/
mutual
def uptoBulk {H : Type} : DataW H → Nat
  | .lit (.string bytes) => bytes.length + 1
  | .lit _ => 1
  | .nil => 1
  | .ptr d => uptoBulk d + 1
  | .slice elems spare => uptoBulkAll elems + uptoBulkAll spare + 1
  | .agg parts => uptoBulkAll parts + 1
  | .iface _ d => uptoBulk d + 1
  | .map entries => uptoBulkEntries entries + 1
  | .held _ => 1
def uptoBulkAll {H : Type} : List (DataW H) → Nat
  | [] => 0
  | d :: r => uptoBulk d + uptoBulkAll r
def uptoBulkEntries {H : Type} : List (Lit × DataW H) → Nat
  | [] => 0
  | x :: r => uptoBulkEntry x + uptoBulkEntries r
def uptoBulkEntry {H : Type} : Lit × DataW H → Nat
  | (.string bytes, d) => bytes.length + uptoBulk d + 1
  | (_, d) => uptoBulk d + 1
 end
def uptoSmall : (H : Type) → List (DataW H) → Bool := fun _ ds => decide (uptoBulkAll ds ≤ 1048576)
def OpenSpec.upto (s : _root_.Go.ChangeSpec) : _root_.Go.OpenSpec := { _root_.Go.OpenSpec.ofChange s with cond := some uptoSmall }

/-- 'laws.FnPits', WHERE WHAT IT READS IS OF BULK AT MOST 1048576: true; the input reads as it did. -/
def fnPitsUptoRow : OpenClaim := { program := "ytpmcfeokcagjdaa", sum := "227b4774f5f39e9f30c4adcdeaeea55ef260af5dcdedb0e35d90493f89bb4b09", func := "loop.example/g00926/laws.FnPits", spec := "fnPits", apart := false, narrowed := true }
def FnPitsUptoSaid : Prop := fnPitsUptoRow.holds Try.pinned (OpenSpec.upto fnPitsSpec)

/-- 'laws.FnExactIsName', WHERE WHAT IT READS IS OF BULK AT MOST 1048576: true; the input reads as it did. -/
def fnExactIsNameUptoRow : OpenClaim := { program := "ytpmcfeokcagjdaa", sum := "227b4774f5f39e9f30c4adcdeaeea55ef260af5dcdedb0e35d90493f89bb4b09", func := "loop.example/g00926/laws.FnExactIsName", spec := "fnExactIsName", apart := false, narrowed := true }
def FnExactIsNameUptoSaid : Prop := fnExactIsNameUptoRow.holds Try.pinned (OpenSpec.upto fnExactIsNameSpec)

/-- 'laws.FnExactSplitWords', WHERE WHAT IT READS IS OF BULK AT MOST 1048576: true; the input reads as it did. -/
def fnExactSplitWordsUptoRow : OpenClaim := { program := "ytpmcfeokcagjdaa", sum := "227b4774f5f39e9f30c4adcdeaeea55ef260af5dcdedb0e35d90493f89bb4b09", func := "loop.example/g00926/laws.FnExactSplitWords", spec := "fnExactSplitWords", unfollowed := true, recurses := true, apart := false, narrowed := true }
def FnExactSplitWordsUptoSaid : Prop := fnExactSplitWordsUptoRow.holds Try.pinned (OpenSpec.upto fnExactSplitWordsSpec)

/-- 'laws.FnExactValidRules', WHERE WHAT IT READS IS OF BULK AT MOST 1048576: true; the input reads as it did. -/
def fnExactValidRulesUptoRow : OpenClaim := { program := "ytpmcfeokcagjdaa", sum := "227b4774f5f39e9f30c4adcdeaeea55ef260af5dcdedb0e35d90493f89bb4b09", func := "loop.example/g00926/laws.FnExactValidRules", spec := "fnExactValidRules", apart := false, narrowed := true }
def FnExactValidRulesUptoSaid : Prop := fnExactValidRulesUptoRow.holds Try.pinned (OpenSpec.upto fnExactValidRulesSpec)

/-- 'laws.FnExactStandardNames', WHERE WHAT IT READS IS OF BULK AT MOST 1048576: true; the input reads as it did. -/
def fnExactStandardNamesUptoRow : OpenClaim := { program := "ytpmcfeokcagjdaa", sum := "227b4774f5f39e9f30c4adcdeaeea55ef260af5dcdedb0e35d90493f89bb4b09", func := "loop.example/g00926/laws.FnExactStandardNames", spec := "fnExactStandardNames", apart := false, narrowed := true }
def FnExactStandardNamesUptoSaid : Prop := fnExactStandardNamesUptoRow.holds Try.pinned (OpenSpec.upto fnExactStandardNamesSpec)

/-- 'laws.FnExactStandardRules', WHERE WHAT IT READS IS OF BULK AT MOST 1048576: true; the input reads as it did. -/
def fnExactStandardRulesUptoRow : OpenClaim := { program := "ytpmcfeokcagjdaa", sum := "227b4774f5f39e9f30c4adcdeaeea55ef260af5dcdedb0e35d90493f89bb4b09", func := "loop.example/g00926/laws.FnExactStandardRules", spec := "fnExactStandardRules", apart := false, narrowed := true }
def FnExactStandardRulesUptoSaid : Prop := fnExactStandardRulesUptoRow.holds Try.pinned (OpenSpec.upto fnExactStandardRulesSpec)

/-- 'laws.FnExactStandardName', WHERE WHAT IT READS IS OF BULK AT MOST 1048576: true; the input reads as it did. -/
def fnExactStandardNameUptoRow : OpenClaim := { program := "ytpmcfeokcagjdaa", sum := "227b4774f5f39e9f30c4adcdeaeea55ef260af5dcdedb0e35d90493f89bb4b09", func := "loop.example/g00926/laws.FnExactStandardName", spec := "fnExactStandardName", apart := false, narrowed := true }
def FnExactStandardNameUptoSaid : Prop := fnExactStandardNameUptoRow.holds Try.pinned (OpenSpec.upto fnExactStandardNameSpec)

/-- 'laws.FnExactTotalSeeds', WHERE WHAT IT READS IS OF BULK AT MOST 1048576: true; the input reads as it did. -/
def fnExactTotalSeedsUptoRow : OpenClaim := { program := "ytpmcfeokcagjdaa", sum := "227b4774f5f39e9f30c4adcdeaeea55ef260af5dcdedb0e35d90493f89bb4b09", func := "loop.example/g00926/laws.FnExactTotalSeeds", spec := "fnExactTotalSeeds", apart := false, narrowed := true }
def FnExactTotalSeedsUptoSaid : Prop := fnExactTotalSeedsUptoRow.holds Try.pinned (OpenSpec.upto fnExactTotalSeedsSpec)

/-- 'laws.FnExactOwnerOf', WHERE WHAT IT READS IS OF BULK AT MOST 1048576: true; the input reads as it did. -/
def fnExactOwnerOfUptoRow : OpenClaim := { program := "ytpmcfeokcagjdaa", sum := "227b4774f5f39e9f30c4adcdeaeea55ef260af5dcdedb0e35d90493f89bb4b09", func := "loop.example/g00926/laws.FnExactOwnerOf", spec := "fnExactOwnerOf", apart := false, narrowed := true }
def FnExactOwnerOfUptoSaid : Prop := fnExactOwnerOfUptoRow.holds Try.pinned (OpenSpec.upto fnExactOwnerOfSpec)

end Rows
end Go.Proofs.Ytpmcfeokcagjdaa
