/-
  No cell of these rows narrows 'for every input' (looked for: loops, veiled, ifaces, maps, wideKeys, modest, calm, conditions, laid).
  DERIVED. THE GIVEN ROWS OF THIS SEAT. 9 by the template 'for every input the law returns true; each argument reads behind the call as it read before'; 0 by the template 'total and deterministic' (their statements: YtgbaneildbdgdaaGreatTotals.lean).
  GIVEN WITH THE SEED: the statements are not yours to turn. If you find one false, say at which input.
  Laid BY PROGRAM, IN A SANDBOX (cutbox-rows.mjs): the forced cells as the released guide's own fill.sh prints them over the translation 7236f93e9a43d376… (all of the seat's roots in one cut). By AI agents, Wed Nov 11 2026. No macro, syntax, notation, axiom, sorry.
-/
import Derived.Test.YtgbaneildbdgdaaGreatChecked
import GoSem.Claim
import GoSem.ClaimJoined
import GoSem.ClaimMapViews
import Derived.JoinedTies
import Derived.KernelRfl
namespace Go.Proofs.YtgbaneildbdgdaaGreat
/- THE CELL 'sum', in the pinned program and in every row, IS THE sha256 OF THE DUMP (.gsa) THAT YtgbaneildbdgdaaGreatProg.lean LOADS. Nothing in Lean hashes anything: it is a label: what it is worth is what the hold of that sum in a sandbox is worth. -/
noncomputable def Tryz.pinned : Pinned := { name := "ytgbaneildbdgdaagreat", sum := "7236f93e9a43d376700663d07ed38f1948406ad12227618e502ce867ca11411c", checked := Tryz.checked }
namespace Rows
def none {H : Type} : Left H := { results := [], args := [] }

/-- 'laws.FnExactEndOf': WHATEVER THE INPUT: true; the input reads as it did. -/
def fnExactEndOfSpec : ChangeSpec := { name := "fnExactEndOf", fn := fun _ => fun
  | [d] => { results := [.lit (.bool true)], args := [d] }
  | _ => none }
def fnExactEndOfRow : OpenClaim := { program := "ytgbaneildbdgdaagreat", sum := "7236f93e9a43d376700663d07ed38f1948406ad12227618e502ce867ca11411c", func := "loop.example/g00926/laws.FnExactEndOf", spec := "fnExactEndOf", unfollowed := true, recurses := true, apart := false }
def FnExactEndOfSaid : Prop := fnExactEndOfRow.holds Tryz.pinned (OpenSpec.ofChange fnExactEndOfSpec)

/-- ITS FALSE NEIGHBOUR: 'it returns false'. Refute it at one input. -/
def fnExactEndOfWrong : ChangeSpec := { name := "fnExactEndOf", fn := fun _ => fun
  | [d] => { results := [.lit (.bool false)], args := [d] }
  | _ => none }
def FnExactEndOfWrongFalsely : Prop := fnExactEndOfRow.holds Tryz.pinned (OpenSpec.ofChange fnExactEndOfWrong)

/-- 'laws.FnExactWinnerOf': WHATEVER THE INPUT: true; the input reads as it did. -/
def fnExactWinnerOfSpec : ChangeSpec := { name := "fnExactWinnerOf", fn := fun _ => fun
  | [d] => { results := [.lit (.bool true)], args := [d] }
  | _ => none }
def fnExactWinnerOfRow : OpenClaim := { program := "ytgbaneildbdgdaagreat", sum := "7236f93e9a43d376700663d07ed38f1948406ad12227618e502ce867ca11411c", func := "loop.example/g00926/laws.FnExactWinnerOf", spec := "fnExactWinnerOf", unfollowed := true, recurses := true, apart := false }
def FnExactWinnerOfSaid : Prop := fnExactWinnerOfRow.holds Tryz.pinned (OpenSpec.ofChange fnExactWinnerOfSpec)

/-- ITS FALSE NEIGHBOUR: 'it returns false'. Refute it at one input. -/
def fnExactWinnerOfWrong : ChangeSpec := { name := "fnExactWinnerOf", fn := fun _ => fun
  | [d] => { results := [.lit (.bool false)], args := [d] }
  | _ => none }
def FnExactWinnerOfWrongFalsely : Prop := fnExactWinnerOfRow.holds Tryz.pinned (OpenSpec.ofChange fnExactWinnerOfWrong)

/-- 'laws.FnExactScoresOf': WHATEVER THE INPUT: true; the input reads as it did. -/
def fnExactScoresOfSpec : ChangeSpec := { name := "fnExactScoresOf", fn := fun _ => fun
  | [d] => { results := [.lit (.bool true)], args := [d] }
  | _ => none }
def fnExactScoresOfRow : OpenClaim := { program := "ytgbaneildbdgdaagreat", sum := "7236f93e9a43d376700663d07ed38f1948406ad12227618e502ce867ca11411c", func := "loop.example/g00926/laws.FnExactScoresOf", spec := "fnExactScoresOf", unfollowed := true, recurses := true, apart := false }
def FnExactScoresOfSaid : Prop := fnExactScoresOfRow.holds Tryz.pinned (OpenSpec.ofChange fnExactScoresOfSpec)

/-- ITS FALSE NEIGHBOUR: 'it returns false'. Refute it at one input. -/
def fnExactScoresOfWrong : ChangeSpec := { name := "fnExactScoresOf", fn := fun _ => fun
  | [d] => { results := [.lit (.bool false)], args := [d] }
  | _ => none }
def FnExactScoresOfWrongFalsely : Prop := fnExactScoresOfRow.holds Tryz.pinned (OpenSpec.ofChange fnExactScoresOfWrong)

/-- 'laws.FnExactFinalPosition': WHATEVER THE INPUT: true; the input reads as it did. -/
def fnExactFinalPositionSpec : ChangeSpec := { name := "fnExactFinalPosition", fn := fun _ => fun
  | [d] => { results := [.lit (.bool true)], args := [d] }
  | _ => none }
def fnExactFinalPositionRow : OpenClaim := { program := "ytgbaneildbdgdaagreat", sum := "7236f93e9a43d376700663d07ed38f1948406ad12227618e502ce867ca11411c", func := "loop.example/g00926/laws.FnExactFinalPosition", spec := "fnExactFinalPosition", unfollowed := true, recurses := true, apart := false }
def FnExactFinalPositionSaid : Prop := fnExactFinalPositionRow.holds Tryz.pinned (OpenSpec.ofChange fnExactFinalPositionSpec)

/-- ITS FALSE NEIGHBOUR: 'it returns false'. Refute it at one input. -/
def fnExactFinalPositionWrong : ChangeSpec := { name := "fnExactFinalPosition", fn := fun _ => fun
  | [d] => { results := [.lit (.bool false)], args := [d] }
  | _ => none }
def FnExactFinalPositionWrongFalsely : Prop := fnExactFinalPositionRow.holds Tryz.pinned (OpenSpec.ofChange fnExactFinalPositionWrong)

/-- 'laws.FnExactUndoMove': WHATEVER THE INPUT: true; the input reads as it did. -/
def fnExactUndoMoveSpec : ChangeSpec := { name := "fnExactUndoMove", fn := fun _ => fun
  | [d] => { results := [.lit (.bool true)], args := [d] }
  | _ => none }
def fnExactUndoMoveRow : OpenClaim := { program := "ytgbaneildbdgdaagreat", sum := "7236f93e9a43d376700663d07ed38f1948406ad12227618e502ce867ca11411c", func := "loop.example/g00926/laws.FnExactUndoMove", spec := "fnExactUndoMove", unfollowed := true, recurses := true, apart := false }
def FnExactUndoMoveSaid : Prop := fnExactUndoMoveRow.holds Tryz.pinned (OpenSpec.ofChange fnExactUndoMoveSpec)

/-- ITS FALSE NEIGHBOUR: 'it returns false'. Refute it at one input. -/
def fnExactUndoMoveWrong : ChangeSpec := { name := "fnExactUndoMove", fn := fun _ => fun
  | [d] => { results := [.lit (.bool false)], args := [d] }
  | _ => none }
def FnExactUndoMoveWrongFalsely : Prop := fnExactUndoMoveRow.holds Tryz.pinned (OpenSpec.ofChange fnExactUndoMoveWrong)

/-- 'laws.FnExactResignGame': WHATEVER THE INPUT: true; the input reads as it did. -/
def fnExactResignGameSpec : ChangeSpec := { name := "fnExactResignGame", fn := fun _ => fun
  | [d1, d2] => { results := [.lit (.bool true)], args := [d1, d2] }
  | _ => none }
def fnExactResignGameRow : OpenClaim := { program := "ytgbaneildbdgdaagreat", sum := "7236f93e9a43d376700663d07ed38f1948406ad12227618e502ce867ca11411c", func := "loop.example/g00926/laws.FnExactResignGame", spec := "fnExactResignGame", unfollowed := true, recurses := true, apart := false }
def FnExactResignGameSaid : Prop := fnExactResignGameRow.holds Tryz.pinned (OpenSpec.ofChange fnExactResignGameSpec)

/-- ITS FALSE NEIGHBOUR: 'it returns false'. Refute it at one input. -/
def fnExactResignGameWrong : ChangeSpec := { name := "fnExactResignGame", fn := fun _ => fun
  | [d1, d2] => { results := [.lit (.bool false)], args := [d1, d2] }
  | _ => none }
def FnExactResignGameWrongFalsely : Prop := fnExactResignGameRow.holds Tryz.pinned (OpenSpec.ofChange fnExactResignGameWrong)

/-- 'laws.FnExactPlayMove': WHATEVER THE INPUT: true; the input reads as it did. -/
def fnExactPlayMoveSpec : ChangeSpec := { name := "fnExactPlayMove", fn := fun _ => fun
  | [d1, d2] => { results := [.lit (.bool true)], args := [d1, d2] }
  | _ => none }
def fnExactPlayMoveRow : OpenClaim := { program := "ytgbaneildbdgdaagreat", sum := "7236f93e9a43d376700663d07ed38f1948406ad12227618e502ce867ca11411c", func := "loop.example/g00926/laws.FnExactPlayMove", spec := "fnExactPlayMove", unfollowed := true, recurses := true, apart := false }
def FnExactPlayMoveSaid : Prop := fnExactPlayMoveRow.holds Tryz.pinned (OpenSpec.ofChange fnExactPlayMoveSpec)

/-- ITS FALSE NEIGHBOUR: 'it returns false'. Refute it at one input. -/
def fnExactPlayMoveWrong : ChangeSpec := { name := "fnExactPlayMove", fn := fun _ => fun
  | [d1, d2] => { results := [.lit (.bool false)], args := [d1, d2] }
  | _ => none }
def FnExactPlayMoveWrongFalsely : Prop := fnExactPlayMoveRow.holds Tryz.pinned (OpenSpec.ofChange fnExactPlayMoveWrong)

/-- 'laws.FnExactCutGame': WHATEVER THE INPUT: true; the input reads as it did. -/
def fnExactCutGameSpec : ChangeSpec := { name := "fnExactCutGame", fn := fun _ => fun
  | [d] => { results := [.lit (.bool true)], args := [d] }
  | _ => none }
def fnExactCutGameRow : OpenClaim := { program := "ytgbaneildbdgdaagreat", sum := "7236f93e9a43d376700663d07ed38f1948406ad12227618e502ce867ca11411c", func := "loop.example/g00926/laws.FnExactCutGame", spec := "fnExactCutGame", unfollowed := true, recurses := true, apart := false }
def FnExactCutGameSaid : Prop := fnExactCutGameRow.holds Tryz.pinned (OpenSpec.ofChange fnExactCutGameSpec)

/-- ITS FALSE NEIGHBOUR: 'it returns false'. Refute it at one input. -/
def fnExactCutGameWrong : ChangeSpec := { name := "fnExactCutGame", fn := fun _ => fun
  | [d] => { results := [.lit (.bool false)], args := [d] }
  | _ => none }
def FnExactCutGameWrongFalsely : Prop := fnExactCutGameRow.holds Tryz.pinned (OpenSpec.ofChange fnExactCutGameWrong)

/-- 'laws.FnBegun': WHATEVER THE INPUT: true; the input reads as it did. -/
def fnBegunSpec : ChangeSpec := { name := "fnBegun", fn := fun _ => fun
  | [d] => { results := [.lit (.bool true)], args := [d] }
  | _ => none }
def fnBegunRow : OpenClaim := { program := "ytgbaneildbdgdaagreat", sum := "7236f93e9a43d376700663d07ed38f1948406ad12227618e502ce867ca11411c", func := "loop.example/g00926/laws.FnBegun", spec := "fnBegun", unfollowed := true, recurses := true, apart := false }
def FnBegunSaid : Prop := fnBegunRow.holds Tryz.pinned (OpenSpec.ofChange fnBegunSpec)

/-- ITS FALSE NEIGHBOUR: 'it returns false'. Refute it at one input. -/
def fnBegunWrong : ChangeSpec := { name := "fnBegun", fn := fun _ => fun
  | [d] => { results := [.lit (.bool false)], args := [d] }
  | _ => none }
def FnBegunWrongFalsely : Prop := fnBegunRow.holds Tryz.pinned (OpenSpec.ofChange fnBegunWrong)

/- THE SECOND FORM. 'bulk': how many values and letters a reading holds, each counted each time it is reached (what is shared counts as often as it is met; a slice's spare places count too). A statement '..UptoSaid' is the law's where the arguments, and the package variables that the reading takes, are together of bulk at most 1048576: NARROWER than '..Said'. Prove '..Said' where nothing that the law and all that it calls make is longer than what came in: it says more and counts as full. Else prove '..UptoSaid'. A law counts once. -/
mutual
def uptoBulk {H : Type} : DataW H → Nat
  | .lit (.string bytes) => bytes.length + 1
  | .lit _ => 1
  | .nil => 1
  | .ptr d => uptoBulk d + 1
  | .slice elems spare => uptoBulkAll elems + uptoBulkAll spare + 1
  | .agg parts => uptoBulkAll parts + 1
  | .iface _ d => uptoBulk d + 1
  | .map entries => uptoBulkEntries entries + 1
  | .held _ => 1
def uptoBulkAll {H : Type} : List (DataW H) → Nat
  | [] => 0
  | d :: r => uptoBulk d + uptoBulkAll r
def uptoBulkEntries {H : Type} : List (Lit × DataW H) → Nat
  | [] => 0
  | x :: r => uptoBulkEntry x + uptoBulkEntries r
def uptoBulkEntry {H : Type} : Lit × DataW H → Nat
  | (.string bytes, d) => bytes.length + uptoBulk d + 1
  | (_, d) => uptoBulk d + 1
 end
def uptoSmall : (H : Type) → List (DataW H) → Bool := fun _ ds => decide (uptoBulkAll ds ≤ 1048576)
def OpenSpec.upto (s : _root_.Go.ChangeSpec) : _root_.Go.OpenSpec := { _root_.Go.OpenSpec.ofChange s with cond := some uptoSmall }

/-- 'laws.FnExactEndOf', WHERE WHAT IT READS IS OF BULK AT MOST 1048576: true; the input reads as it did. -/
def fnExactEndOfUptoRow : OpenClaim := { program := "ytgbaneildbdgdaagreat", sum := "7236f93e9a43d376700663d07ed38f1948406ad12227618e502ce867ca11411c", func := "loop.example/g00926/laws.FnExactEndOf", spec := "fnExactEndOf", unfollowed := true, recurses := true, apart := false, narrowed := true }
def FnExactEndOfUptoSaid : Prop := fnExactEndOfUptoRow.holds Tryz.pinned (OpenSpec.upto fnExactEndOfSpec)

/-- 'laws.FnExactWinnerOf', WHERE WHAT IT READS IS OF BULK AT MOST 1048576: true; the input reads as it did. -/
def fnExactWinnerOfUptoRow : OpenClaim := { program := "ytgbaneildbdgdaagreat", sum := "7236f93e9a43d376700663d07ed38f1948406ad12227618e502ce867ca11411c", func := "loop.example/g00926/laws.FnExactWinnerOf", spec := "fnExactWinnerOf", unfollowed := true, recurses := true, apart := false, narrowed := true }
def FnExactWinnerOfUptoSaid : Prop := fnExactWinnerOfUptoRow.holds Tryz.pinned (OpenSpec.upto fnExactWinnerOfSpec)

/-- 'laws.FnExactScoresOf', WHERE WHAT IT READS IS OF BULK AT MOST 1048576: true; the input reads as it did. -/
def fnExactScoresOfUptoRow : OpenClaim := { program := "ytgbaneildbdgdaagreat", sum := "7236f93e9a43d376700663d07ed38f1948406ad12227618e502ce867ca11411c", func := "loop.example/g00926/laws.FnExactScoresOf", spec := "fnExactScoresOf", unfollowed := true, recurses := true, apart := false, narrowed := true }
def FnExactScoresOfUptoSaid : Prop := fnExactScoresOfUptoRow.holds Tryz.pinned (OpenSpec.upto fnExactScoresOfSpec)

/-- 'laws.FnExactFinalPosition', WHERE WHAT IT READS IS OF BULK AT MOST 1048576: true; the input reads as it did. -/
def fnExactFinalPositionUptoRow : OpenClaim := { program := "ytgbaneildbdgdaagreat", sum := "7236f93e9a43d376700663d07ed38f1948406ad12227618e502ce867ca11411c", func := "loop.example/g00926/laws.FnExactFinalPosition", spec := "fnExactFinalPosition", unfollowed := true, recurses := true, apart := false, narrowed := true }
def FnExactFinalPositionUptoSaid : Prop := fnExactFinalPositionUptoRow.holds Tryz.pinned (OpenSpec.upto fnExactFinalPositionSpec)

/-- 'laws.FnExactUndoMove', WHERE WHAT IT READS IS OF BULK AT MOST 1048576: true; the input reads as it did. -/
def fnExactUndoMoveUptoRow : OpenClaim := { program := "ytgbaneildbdgdaagreat", sum := "7236f93e9a43d376700663d07ed38f1948406ad12227618e502ce867ca11411c", func := "loop.example/g00926/laws.FnExactUndoMove", spec := "fnExactUndoMove", unfollowed := true, recurses := true, apart := false, narrowed := true }
def FnExactUndoMoveUptoSaid : Prop := fnExactUndoMoveUptoRow.holds Tryz.pinned (OpenSpec.upto fnExactUndoMoveSpec)

/-- 'laws.FnExactResignGame', WHERE WHAT IT READS IS OF BULK AT MOST 1048576: true; the input reads as it did. -/
def fnExactResignGameUptoRow : OpenClaim := { program := "ytgbaneildbdgdaagreat", sum := "7236f93e9a43d376700663d07ed38f1948406ad12227618e502ce867ca11411c", func := "loop.example/g00926/laws.FnExactResignGame", spec := "fnExactResignGame", unfollowed := true, recurses := true, apart := false, narrowed := true }
def FnExactResignGameUptoSaid : Prop := fnExactResignGameUptoRow.holds Tryz.pinned (OpenSpec.upto fnExactResignGameSpec)

/-- 'laws.FnExactPlayMove', WHERE WHAT IT READS IS OF BULK AT MOST 1048576: true; the input reads as it did. -/
def fnExactPlayMoveUptoRow : OpenClaim := { program := "ytgbaneildbdgdaagreat", sum := "7236f93e9a43d376700663d07ed38f1948406ad12227618e502ce867ca11411c", func := "loop.example/g00926/laws.FnExactPlayMove", spec := "fnExactPlayMove", unfollowed := true, recurses := true, apart := false, narrowed := true }
def FnExactPlayMoveUptoSaid : Prop := fnExactPlayMoveUptoRow.holds Tryz.pinned (OpenSpec.upto fnExactPlayMoveSpec)

/-- 'laws.FnExactCutGame', WHERE WHAT IT READS IS OF BULK AT MOST 1048576: true; the input reads as it did. -/
def fnExactCutGameUptoRow : OpenClaim := { program := "ytgbaneildbdgdaagreat", sum := "7236f93e9a43d376700663d07ed38f1948406ad12227618e502ce867ca11411c", func := "loop.example/g00926/laws.FnExactCutGame", spec := "fnExactCutGame", unfollowed := true, recurses := true, apart := false, narrowed := true }
def FnExactCutGameUptoSaid : Prop := fnExactCutGameUptoRow.holds Tryz.pinned (OpenSpec.upto fnExactCutGameSpec)

/-- 'laws.FnBegun', WHERE WHAT IT READS IS OF BULK AT MOST 1048576: true; the input reads as it did. -/
def fnBegunUptoRow : OpenClaim := { program := "ytgbaneildbdgdaagreat", sum := "7236f93e9a43d376700663d07ed38f1948406ad12227618e502ce867ca11411c", func := "loop.example/g00926/laws.FnBegun", spec := "fnBegun", unfollowed := true, recurses := true, apart := false, narrowed := true }
def FnBegunUptoSaid : Prop := fnBegunUptoRow.holds Tryz.pinned (OpenSpec.upto fnBegunSpec)

end Rows
end Go.Proofs.YtgbaneildbdgdaaGreat
