/- One walk of a region's text serves every order, where each operation yields one value in every world of a class. No conditions. -/
import Derived.Deep.QuietTactic
import Derived.BigQuiet
import Derived.Test.YtgogjjkecbgbiaaBut
namespace Go.Proofs.Ytgogjjkecbgbiaa
open Go.RowKit
set_option linter.unusedVariables false

/-- The walk of the text, as a word that nothing lays open. -/
structure Lex (P : Program) (ops : Array Oper) (C : World → Prop) (Q : Act → Prop) (l : List Oper) (a : Act) : Prop where
  out : wpQuiet P ops C Q l a
section
variable {P : Program} {ops : Array Oper} {C : World → Prop} {Q : Act → Prop} {a : Act} {o : Oper} {rest : List Oper}
theorem step_skip (hw : Region.wanted o (yielded ops a.tmps) = false) (h : Lex P ops C Q rest (a.put o.dst undef)) : Lex P ops C Q (o :: rest) a :=
  ⟨wpQuiet_step fun K hK => by rw [if_neg (by rw [hw]; exact Bool.false_ne_true)]; exact hK _ h.out⟩
theorem step_val {v : Value} (hw : Region.wanted o (yielded ops a.tmps) = true) (hv : ∀ u, C u → (execOp a.eval o).run P u = .ok (.value v) u) (h : Lex P ops C Q rest (a.put o.dst v)) : Lex P ops C Q (o :: rest) a :=
  ⟨wpQuiet_step fun K hK => by
    rw [if_pos hw]
    exact ⟨v, fun u hu => by unfold Oper.quietAt; rw [hv u hu]; exact ⟨rfl, rfl⟩, hK _ h.out⟩⟩
theorem step_call {v : Value} {f : FuncId} {args : Array Value} (hw : Region.wanted o (yielded ops a.tmps) = true) (hr : ∀ u, (execOp a.eval o).run P u = .ok (.enter f args) u)
    (hc : ∀ u, C u → Calls P f args u fun e u' => e = .returned v ∧ C u') (h : Lex P ops C Q rest (a.put o.dst v)) : Lex P ops C Q (o :: rest) a :=
  ⟨wpQuiet_step fun K hK => by
    rw [if_pos hw]
    exact ⟨v, fun u hu => by unfold Oper.quietAt; rw [hr u]; exact ⟨rfl, hc u hu⟩, hK _ h.out⟩⟩
theorem step_nil (h : Q a) : Lex P ops C Q [] a := ⟨wpQuiet_nil h⟩
end
theorem region_class {P : Program} {id : Nat} {Q : Exit → Act → World → Prop} {a : Act} {w : World} {l : List Oper} (C : World → Prop) (hm : P.follows .mixedOrders = true) (hB : Region.lexB .any l.toArray = true) (hC : C w.drew)
    (h : Lex P l.toArray C (fun a' => ∀ w', C w' → Q .normal a' w') l a) : (Code.region id l.toArray true).wp P Q a w :=
  wp_region_quiet (C := C) hm hB hC (by simpa using h.out)
end Go.Proofs.Ytgogjjkecbgbiaa
