/-
  No cell of these rows narrows 'for every input' (looked for: loops, veiled, ifaces, maps, wideKeys, modest, calm, conditions, laid).
  DERIVED. THE GIVEN ROWS OF THIS SEAT. 10 by the template 'for every input the law returns true; each argument reads behind the call as it read before'; 0 by the template 'total and deterministic' (their statements: YtcgckpnkmmjljaaTotals.lean).
  GIVEN WITH THE SEED: the statements are not yours to turn. If you find one false, say at which input.
  Laid BY PROGRAM, IN A SANDBOX (cutbox-rows.mjs): the forced cells as the released guide's own fill.sh prints them over the translation 3efe30dbdc5bf825… (all of the seat's roots in one cut). By AI agents, Wed Nov 11 2026. No macro, syntax, notation, axiom, sorry.
-/
import Derived.Test.YtcgckpnkmmjljaaChecked
import GoSem.Claim
import GoSem.ClaimJoined
import GoSem.ClaimMapViews
import Derived.JoinedTies
import Derived.KernelRfl
namespace Go.Proofs.Ytcgckpnkmmjljaa
/- THE CELL 'sum', in the pinned program and in every row, IS THE sha256 OF THE DUMP (.gsa) THAT YtcgckpnkmmjljaaProg.lean LOADS. Nothing in Lean hashes anything: it is a label: what it is worth is what the hold of that sum in a sandbox is worth. -/
noncomputable def Try.pinned : Pinned := { name := "ytcgckpnkmmjljaa", sum := "3efe30dbdc5bf82593687cff8d1338153f7183a092cd5ad668a98accb51cc951", checked := Try.checked }
namespace Rows
def none {H : Type} : Left H := { results := [], args := [] }

/-- 'laws.FnRanks': WHATEVER THE INPUT: true; the input reads as it did. -/
def fnRanksSpec : ChangeSpec := { name := "fnRanks", fn := fun _ => fun
  | [d1, d2] => { results := [.lit (.bool true)], args := [d1, d2] }
  | _ => none }
def fnRanksRow : OpenClaim := { program := "ytcgckpnkmmjljaa", sum := "3efe30dbdc5bf82593687cff8d1338153f7183a092cd5ad668a98accb51cc951", func := "loop.example/g00926/laws.FnRanks", spec := "fnRanks", unfollowed := true, recurses := true, apart := false }
def FnRanksSaid : Prop := fnRanksRow.holds Try.pinned (OpenSpec.ofChange fnRanksSpec)

/-- ITS FALSE NEIGHBOUR: 'it returns false'. Refute it at one input. -/
def fnRanksWrong : ChangeSpec := { name := "fnRanks", fn := fun _ => fun
  | [d1, d2] => { results := [.lit (.bool false)], args := [d1, d2] }
  | _ => none }
def FnRanksWrongFalsely : Prop := fnRanksRow.holds Try.pinned (OpenSpec.ofChange fnRanksWrong)

/-- 'laws.FnChoose': WHATEVER THE INPUT: true; the input reads as it did. -/
def fnChooseSpec : ChangeSpec := { name := "fnChoose", fn := fun _ => fun
  | [d1, d2] => { results := [.lit (.bool true)], args := [d1, d2] }
  | _ => none }
def fnChooseRow : OpenClaim := { program := "ytcgckpnkmmjljaa", sum := "3efe30dbdc5bf82593687cff8d1338153f7183a092cd5ad668a98accb51cc951", func := "loop.example/g00926/laws.FnChoose", spec := "fnChoose", unfollowed := true, recurses := true, apart := false }
def FnChooseSaid : Prop := fnChooseRow.holds Try.pinned (OpenSpec.ofChange fnChooseSpec)

/-- ITS FALSE NEIGHBOUR: 'it returns false'. Refute it at one input. -/
def fnChooseWrong : ChangeSpec := { name := "fnChoose", fn := fun _ => fun
  | [d1, d2] => { results := [.lit (.bool false)], args := [d1, d2] }
  | _ => none }
def FnChooseWrongFalsely : Prop := fnChooseRow.holds Try.pinned (OpenSpec.ofChange fnChooseWrong)

/-- 'laws.FnExactChoose': WHATEVER THE INPUT: true; the input reads as it did. -/
def fnExactChooseSpec : ChangeSpec := { name := "fnExactChoose", fn := fun _ => fun
  | [d1, d2] => { results := [.lit (.bool true)], args := [d1, d2] }
  | _ => none }
def fnExactChooseRow : OpenClaim := { program := "ytcgckpnkmmjljaa", sum := "3efe30dbdc5bf82593687cff8d1338153f7183a092cd5ad668a98accb51cc951", func := "loop.example/g00926/laws.FnExactChoose", spec := "fnExactChoose", apart := false }
def FnExactChooseSaid : Prop := fnExactChooseRow.holds Try.pinned (OpenSpec.ofChange fnExactChooseSpec)

/-- ITS FALSE NEIGHBOUR: 'it returns false'. Refute it at one input. -/
def fnExactChooseWrong : ChangeSpec := { name := "fnExactChoose", fn := fun _ => fun
  | [d1, d2] => { results := [.lit (.bool false)], args := [d1, d2] }
  | _ => none }
def FnExactChooseWrongFalsely : Prop := fnExactChooseRow.holds Try.pinned (OpenSpec.ofChange fnExactChooseWrong)

/-- 'laws.FnExactCountSeeds': WHATEVER THE INPUT: true; the input reads as it did. -/
def fnExactCountSeedsSpec : ChangeSpec := { name := "fnExactCountSeeds", fn := fun _ => fun
  | [d1, d2] => { results := [.lit (.bool true)], args := [d1, d2] }
  | _ => none }
def fnExactCountSeedsRow : OpenClaim := { program := "ytcgckpnkmmjljaa", sum := "3efe30dbdc5bf82593687cff8d1338153f7183a092cd5ad668a98accb51cc951", func := "loop.example/g00926/laws.FnExactCountSeeds", spec := "fnExactCountSeeds", apart := false }
def FnExactCountSeedsSaid : Prop := fnExactCountSeedsRow.holds Try.pinned (OpenSpec.ofChange fnExactCountSeedsSpec)

/-- ITS FALSE NEIGHBOUR: 'it returns false'. Refute it at one input. -/
def fnExactCountSeedsWrong : ChangeSpec := { name := "fnExactCountSeeds", fn := fun _ => fun
  | [d1, d2] => { results := [.lit (.bool false)], args := [d1, d2] }
  | _ => none }
def FnExactCountSeedsWrongFalsely : Prop := fnExactCountSeedsRow.holds Try.pinned (OpenSpec.ofChange fnExactCountSeedsWrong)

/-- 'laws.FnExactRankSeeds': WHATEVER THE INPUT: true; the input reads as it did. -/
def fnExactRankSeedsSpec : ChangeSpec := { name := "fnExactRankSeeds", fn := fun _ => fun
  | [d] => { results := [.lit (.bool true)], args := [d] }
  | _ => none }
def fnExactRankSeedsRow : OpenClaim := { program := "ytcgckpnkmmjljaa", sum := "3efe30dbdc5bf82593687cff8d1338153f7183a092cd5ad668a98accb51cc951", func := "loop.example/g00926/laws.FnExactRankSeeds", spec := "fnExactRankSeeds", unfollowed := true, recurses := true, apart := false }
def FnExactRankSeedsSaid : Prop := fnExactRankSeedsRow.holds Try.pinned (OpenSpec.ofChange fnExactRankSeedsSpec)

/-- ITS FALSE NEIGHBOUR: 'it returns false'. Refute it at one input. -/
def fnExactRankSeedsWrong : ChangeSpec := { name := "fnExactRankSeeds", fn := fun _ => fun
  | [d] => { results := [.lit (.bool false)], args := [d] }
  | _ => none }
def FnExactRankSeedsWrongFalsely : Prop := fnExactRankSeedsRow.holds Try.pinned (OpenSpec.ofChange fnExactRankSeedsWrong)

/-- 'laws.FnExactUnrankSeeds': WHATEVER THE INPUT: true; the input reads as it did. -/
def fnExactUnrankSeedsSpec : ChangeSpec := { name := "fnExactUnrankSeeds", fn := fun _ => fun
  | [d1, d2, d3] => { results := [.lit (.bool true)], args := [d1, d2, d3] }
  | _ => none }
def fnExactUnrankSeedsRow : OpenClaim := { program := "ytcgckpnkmmjljaa", sum := "3efe30dbdc5bf82593687cff8d1338153f7183a092cd5ad668a98accb51cc951", func := "loop.example/g00926/laws.FnExactUnrankSeeds", spec := "fnExactUnrankSeeds", apart := false }
def FnExactUnrankSeedsSaid : Prop := fnExactUnrankSeedsRow.holds Try.pinned (OpenSpec.ofChange fnExactUnrankSeedsSpec)

/-- ITS FALSE NEIGHBOUR: 'it returns false'. Refute it at one input. -/
def fnExactUnrankSeedsWrong : ChangeSpec := { name := "fnExactUnrankSeeds", fn := fun _ => fun
  | [d1, d2, d3] => { results := [.lit (.bool false)], args := [d1, d2, d3] }
  | _ => none }
def FnExactUnrankSeedsWrongFalsely : Prop := fnExactUnrankSeedsRow.holds Try.pinned (OpenSpec.ofChange fnExactUnrankSeedsWrong)

/-- 'laws.FnExactNextSeeds': WHATEVER THE INPUT: true; the input reads as it did. -/
def fnExactNextSeedsSpec : ChangeSpec := { name := "fnExactNextSeeds", fn := fun _ => fun
  | [d] => { results := [.lit (.bool true)], args := [d] }
  | _ => none }
def fnExactNextSeedsRow : OpenClaim := { program := "ytcgckpnkmmjljaa", sum := "3efe30dbdc5bf82593687cff8d1338153f7183a092cd5ad668a98accb51cc951", func := "loop.example/g00926/laws.FnExactNextSeeds", spec := "fnExactNextSeeds", unfollowed := true, recurses := true, apart := false }
def FnExactNextSeedsSaid : Prop := fnExactNextSeedsRow.holds Try.pinned (OpenSpec.ofChange fnExactNextSeedsSpec)

/-- ITS FALSE NEIGHBOUR: 'it returns false'. Refute it at one input. -/
def fnExactNextSeedsWrong : ChangeSpec := { name := "fnExactNextSeeds", fn := fun _ => fun
  | [d] => { results := [.lit (.bool false)], args := [d] }
  | _ => none }
def FnExactNextSeedsWrongFalsely : Prop := fnExactNextSeedsRow.holds Try.pinned (OpenSpec.ofChange fnExactNextSeedsWrong)

/-- 'laws.FnExactLastSeeds': WHATEVER THE INPUT: true; the input reads as it did. -/
def fnExactLastSeedsSpec : ChangeSpec := { name := "fnExactLastSeeds", fn := fun _ => fun
  | [d] => { results := [.lit (.bool true)], args := [d] }
  | _ => none }
def fnExactLastSeedsRow : OpenClaim := { program := "ytcgckpnkmmjljaa", sum := "3efe30dbdc5bf82593687cff8d1338153f7183a092cd5ad668a98accb51cc951", func := "loop.example/g00926/laws.FnExactLastSeeds", spec := "fnExactLastSeeds", unfollowed := true, recurses := true, apart := false }
def FnExactLastSeedsSaid : Prop := fnExactLastSeedsRow.holds Try.pinned (OpenSpec.ofChange fnExactLastSeedsSpec)

/-- ITS FALSE NEIGHBOUR: 'it returns false'. Refute it at one input. -/
def fnExactLastSeedsWrong : ChangeSpec := { name := "fnExactLastSeeds", fn := fun _ => fun
  | [d] => { results := [.lit (.bool false)], args := [d] }
  | _ => none }
def FnExactLastSeedsWrongFalsely : Prop := fnExactLastSeedsRow.holds Try.pinned (OpenSpec.ofChange fnExactLastSeedsWrong)

/-- 'laws.FnExactAllSeeds': WHATEVER THE INPUT: true; the input reads as it did. -/
def fnExactAllSeedsSpec : ChangeSpec := { name := "fnExactAllSeeds", fn := fun _ => fun
  | [d1, d2] => { results := [.lit (.bool true)], args := [d1, d2] }
  | _ => none }
def fnExactAllSeedsRow : OpenClaim := { program := "ytcgckpnkmmjljaa", sum := "3efe30dbdc5bf82593687cff8d1338153f7183a092cd5ad668a98accb51cc951", func := "loop.example/g00926/laws.FnExactAllSeeds", spec := "fnExactAllSeeds", unfollowed := true, recurses := true, apart := false }
def FnExactAllSeedsSaid : Prop := fnExactAllSeedsRow.holds Try.pinned (OpenSpec.ofChange fnExactAllSeedsSpec)

/-- ITS FALSE NEIGHBOUR: 'it returns false'. Refute it at one input. -/
def fnExactAllSeedsWrong : ChangeSpec := { name := "fnExactAllSeeds", fn := fun _ => fun
  | [d1, d2] => { results := [.lit (.bool false)], args := [d1, d2] }
  | _ => none }
def FnExactAllSeedsWrongFalsely : Prop := fnExactAllSeedsRow.holds Try.pinned (OpenSpec.ofChange fnExactAllSeedsWrong)

/-- 'laws.FnExactValidSeeds': WHATEVER THE INPUT: true; the input reads as it did. -/
def fnExactValidSeedsSpec : ChangeSpec := { name := "fnExactValidSeeds", fn := fun _ => fun
  | [d] => { results := [.lit (.bool true)], args := [d] }
  | _ => none }
def fnExactValidSeedsRow : OpenClaim := { program := "ytcgckpnkmmjljaa", sum := "3efe30dbdc5bf82593687cff8d1338153f7183a092cd5ad668a98accb51cc951", func := "loop.example/g00926/laws.FnExactValidSeeds", spec := "fnExactValidSeeds", unfollowed := true, recurses := true, apart := false }
def FnExactValidSeedsSaid : Prop := fnExactValidSeedsRow.holds Try.pinned (OpenSpec.ofChange fnExactValidSeedsSpec)

/-- ITS FALSE NEIGHBOUR: 'it returns false'. Refute it at one input. -/
def fnExactValidSeedsWrong : ChangeSpec := { name := "fnExactValidSeeds", fn := fun _ => fun
  | [d] => { results := [.lit (.bool false)], args := [d] }
  | _ => none }
def FnExactValidSeedsWrongFalsely : Prop := fnExactValidSeedsRow.holds Try.pinned (OpenSpec.ofChange fnExactValidSeedsWrong)

/- THE SECOND FORM. 'bulk': how many values and letters a reading holds, each counted each time it is reached (what is shared counts as often as it is met; a slice's spare places count too). A statement '..UptoSaid' is the law's where the arguments, and the package variables that the reading takes, are together of bulk at most 1048576: NARROWER than '..Said'. Prove '..Said' where nothing that the law and all that it calls make is longer than what came in: it says more and counts as full. Else prove '..UptoSaid'. A law counts once. -/
mutual
def uptoBulk {H : Type} : DataW H → Nat
  | .lit (.string bytes) => bytes.length + 1
  | .lit _ => 1
  | .nil => 1
  | .ptr d => uptoBulk d + 1
  | .slice elems spare => uptoBulkAll elems + uptoBulkAll spare + 1
  | .agg parts => uptoBulkAll parts + 1
  | .iface _ d => uptoBulk d + 1
  | .map entries => uptoBulkEntries entries + 1
  | .held _ => 1
def uptoBulkAll {H : Type} : List (DataW H) → Nat
  | [] => 0
  | d :: r => uptoBulk d + uptoBulkAll r
def uptoBulkEntries {H : Type} : List (Lit × DataW H) → Nat
  | [] => 0
  | x :: r => uptoBulkEntry x + uptoBulkEntries r
def uptoBulkEntry {H : Type} : Lit × DataW H → Nat
  | (.string bytes, d) => bytes.length + uptoBulk d + 1
  | (_, d) => uptoBulk d + 1
 end
def uptoSmall : (H : Type) → List (DataW H) → Bool := fun _ ds => decide (uptoBulkAll ds ≤ 1048576)
def OpenSpec.upto (s : _root_.Go.ChangeSpec) : _root_.Go.OpenSpec := { _root_.Go.OpenSpec.ofChange s with cond := some uptoSmall }

/-- 'laws.FnRanks', WHERE WHAT IT READS IS OF BULK AT MOST 1048576: true; the input reads as it did. -/
def fnRanksUptoRow : OpenClaim := { program := "ytcgckpnkmmjljaa", sum := "3efe30dbdc5bf82593687cff8d1338153f7183a092cd5ad668a98accb51cc951", func := "loop.example/g00926/laws.FnRanks", spec := "fnRanks", unfollowed := true, recurses := true, apart := false, narrowed := true }
def FnRanksUptoSaid : Prop := fnRanksUptoRow.holds Try.pinned (OpenSpec.upto fnRanksSpec)

/-- 'laws.FnChoose', WHERE WHAT IT READS IS OF BULK AT MOST 1048576: true; the input reads as it did. -/
def fnChooseUptoRow : OpenClaim := { program := "ytcgckpnkmmjljaa", sum := "3efe30dbdc5bf82593687cff8d1338153f7183a092cd5ad668a98accb51cc951", func := "loop.example/g00926/laws.FnChoose", spec := "fnChoose", unfollowed := true, recurses := true, apart := false, narrowed := true }
def FnChooseUptoSaid : Prop := fnChooseUptoRow.holds Try.pinned (OpenSpec.upto fnChooseSpec)

/-- 'laws.FnExactChoose', WHERE WHAT IT READS IS OF BULK AT MOST 1048576: true; the input reads as it did. -/
def fnExactChooseUptoRow : OpenClaim := { program := "ytcgckpnkmmjljaa", sum := "3efe30dbdc5bf82593687cff8d1338153f7183a092cd5ad668a98accb51cc951", func := "loop.example/g00926/laws.FnExactChoose", spec := "fnExactChoose", apart := false, narrowed := true }
def FnExactChooseUptoSaid : Prop := fnExactChooseUptoRow.holds Try.pinned (OpenSpec.upto fnExactChooseSpec)

/-- 'laws.FnExactCountSeeds', WHERE WHAT IT READS IS OF BULK AT MOST 1048576: true; the input reads as it did. -/
def fnExactCountSeedsUptoRow : OpenClaim := { program := "ytcgckpnkmmjljaa", sum := "3efe30dbdc5bf82593687cff8d1338153f7183a092cd5ad668a98accb51cc951", func := "loop.example/g00926/laws.FnExactCountSeeds", spec := "fnExactCountSeeds", apart := false, narrowed := true }
def FnExactCountSeedsUptoSaid : Prop := fnExactCountSeedsUptoRow.holds Try.pinned (OpenSpec.upto fnExactCountSeedsSpec)

/-- 'laws.FnExactRankSeeds', WHERE WHAT IT READS IS OF BULK AT MOST 1048576: true; the input reads as it did. -/
def fnExactRankSeedsUptoRow : OpenClaim := { program := "ytcgckpnkmmjljaa", sum := "3efe30dbdc5bf82593687cff8d1338153f7183a092cd5ad668a98accb51cc951", func := "loop.example/g00926/laws.FnExactRankSeeds", spec := "fnExactRankSeeds", unfollowed := true, recurses := true, apart := false, narrowed := true }
def FnExactRankSeedsUptoSaid : Prop := fnExactRankSeedsUptoRow.holds Try.pinned (OpenSpec.upto fnExactRankSeedsSpec)

/-- 'laws.FnExactUnrankSeeds', WHERE WHAT IT READS IS OF BULK AT MOST 1048576: true; the input reads as it did. -/
def fnExactUnrankSeedsUptoRow : OpenClaim := { program := "ytcgckpnkmmjljaa", sum := "3efe30dbdc5bf82593687cff8d1338153f7183a092cd5ad668a98accb51cc951", func := "loop.example/g00926/laws.FnExactUnrankSeeds", spec := "fnExactUnrankSeeds", apart := false, narrowed := true }
def FnExactUnrankSeedsUptoSaid : Prop := fnExactUnrankSeedsUptoRow.holds Try.pinned (OpenSpec.upto fnExactUnrankSeedsSpec)

/-- 'laws.FnExactNextSeeds', WHERE WHAT IT READS IS OF BULK AT MOST 1048576: true; the input reads as it did. -/
def fnExactNextSeedsUptoRow : OpenClaim := { program := "ytcgckpnkmmjljaa", sum := "3efe30dbdc5bf82593687cff8d1338153f7183a092cd5ad668a98accb51cc951", func := "loop.example/g00926/laws.FnExactNextSeeds", spec := "fnExactNextSeeds", unfollowed := true, recurses := true, apart := false, narrowed := true }
def FnExactNextSeedsUptoSaid : Prop := fnExactNextSeedsUptoRow.holds Try.pinned (OpenSpec.upto fnExactNextSeedsSpec)

/-- 'laws.FnExactLastSeeds', WHERE WHAT IT READS IS OF BULK AT MOST 1048576: true; the input reads as it did. -/
def fnExactLastSeedsUptoRow : OpenClaim := { program := "ytcgckpnkmmjljaa", sum := "3efe30dbdc5bf82593687cff8d1338153f7183a092cd5ad668a98accb51cc951", func := "loop.example/g00926/laws.FnExactLastSeeds", spec := "fnExactLastSeeds", unfollowed := true, recurses := true, apart := false, narrowed := true }
def FnExactLastSeedsUptoSaid : Prop := fnExactLastSeedsUptoRow.holds Try.pinned (OpenSpec.upto fnExactLastSeedsSpec)

/-- 'laws.FnExactAllSeeds', WHERE WHAT IT READS IS OF BULK AT MOST 1048576: true; the input reads as it did. -/
def fnExactAllSeedsUptoRow : OpenClaim := { program := "ytcgckpnkmmjljaa", sum := "3efe30dbdc5bf82593687cff8d1338153f7183a092cd5ad668a98accb51cc951", func := "loop.example/g00926/laws.FnExactAllSeeds", spec := "fnExactAllSeeds", unfollowed := true, recurses := true, apart := false, narrowed := true }
def FnExactAllSeedsUptoSaid : Prop := fnExactAllSeedsUptoRow.holds Try.pinned (OpenSpec.upto fnExactAllSeedsSpec)

/-- 'laws.FnExactValidSeeds', WHERE WHAT IT READS IS OF BULK AT MOST 1048576: true; the input reads as it did. -/
def fnExactValidSeedsUptoRow : OpenClaim := { program := "ytcgckpnkmmjljaa", sum := "3efe30dbdc5bf82593687cff8d1338153f7183a092cd5ad668a98accb51cc951", func := "loop.example/g00926/laws.FnExactValidSeeds", spec := "fnExactValidSeeds", unfollowed := true, recurses := true, apart := false, narrowed := true }
def FnExactValidSeedsUptoSaid : Prop := fnExactValidSeedsUptoRow.holds Try.pinned (OpenSpec.upto fnExactValidSeedsSpec)

end Rows
end Go.Proofs.Ytcgckpnkmmjljaa
