/- One round of a loop over a function. No conditions. -/
import Derived.Test.YtdhkfkfoibddnaaRng5
namespace Go.Proofs.Ytdhkfkfoibddnaa
open Go.RowKit
set_option linter.unusedVariables false
variable {n : Nat} {P : Program}

/-- What is asked behind the assignment to the loop's variables. -/
def Begins (m : Nat) (P : Program) (body : Code) (L : Nat) (R : LoopState → Option Code → Loop) (Post : Ending → World → Prop) (a : Act) (w : World) : Prop :=
  w.heap[L]? = some (.loop (R .ready none)) ∧ body.wpIn (Fence.wide.inRound L) m P (BodyQ L R Post) a (w.putObj L (.loop (R .busy none)))
theorem round_yield {fn : FuncId} {tmps : Array Value} {ps : Array Tmp} {assign body : Code} {D L m : Nat} {R : LoopState → Option Code → Loop} (hR : R = Lp fn tmps ps assign body D) {A : World} {args : Array Value} {Post : Ending → World → Prop}
    (hl : A.heap[L]? = some (.loop (R .ready none))) (hps : args.size = ps.size)
    (h : ∀ K : Act → World → Prop, (∀ a w, Begins m P body L R Post a w → K a w) → assign.wpIn (Fence.wide.inRound L) m P (Exit.then K (fun _ _ _ => False)) { tmps := (ps.zip args).foldl (fun t (p, v) => t.setIfInBounds p v) tmps, defers := [] } A) :
    YieldAt Fence.wide m P L args A Post := by
  subst hR
  have hy := run_yield (P := P) (args := args) hl hps
  refine ⟨fn, _, assign, body, hy, roundIn_of_wpIn trivial (h _ fun a w hb => ⟨_, run_beginRound hb.1 rfl, ?_⟩)⟩
  refine wpIn_mono hb.2 ?_
  rintro e a3 Z hp
  cases e with
  | normal => exact ⟨_, _, run_endRound (P := P) none hp.1, hp.2⟩
  | ret => exact ⟨_, _, run_endRound (P := P) (some .ret) hp.1, hp.2⟩
  | exit id => exact ⟨_, _, run_endRound (P := P) (some (.exit id)) hp.1, hp.2⟩
  | goto t => exact hp.elim
  | panic c => exact hp.elim
  | outgrown => exact hp.elim
end Go.Proofs.Ytdhkfkfoibddnaa
