/- NewGame: the reference's and the program's. No conditions. -/
import Derived.Test.YtmngmbpdiaocjaaGame7
import Derived.Test.YtmngmbpdiaocjaaStart5
namespace Go.Proofs.Ytmngmbpdiaocjaa
open Go.Joins Go.ChangeShapes Go.WideShapes Go.ChangeAt Go.RowKit Go.Deep
set_option linter.unusedVariables false

section
variable {P : Program}
/-- The first field of a struct: a struct of 17 cells. -/
theorem run_field0 {xt T : TypeId} {fs : Array Field} {f : Field} {d : TypeDesc} (hu : P.underlying xt = some (.struct fs)) (hf : fs[0]? = some f) (ht : f.type = T) (ho : f.offset = 0) (hua : P.underlying T = some d) (hd : d.isRow = true) (hc : (P.info? T).map (·.size) = some 17) (xs : Array Value) (w : World) :
    (Instr.field xt (.agg xs) 0).run P w = .ok (.agg (xs.extract 0 17)) w := by
  cases hq : P.info? T with
  | none => simp [hq] at hc
  | some i =>
    have hagg : (isAgg T).run P w = .ok true w := by
      unfold isAgg
      rw [Sem.run_bind, run_underlying hua w]
      cases d <;> simp_all [TypeDesc.isRow]
    have hsz : (sizeOf T).run P w = .ok 17 w := by
      have h17 : i.size = 17 := by simpa [hq] using hc
      simp [sizeOf, run_typeInfo w hq, h17]
    unfold Instr.field
    rw [Sem.run_bind, run_underlying hu w]
    simp only [Result.andThen_ok, hf, ht, ho, asAgg, Sem.run_bind, Sem.run_pure, part, hagg, if_true, hsz, Nat.zero_add]
theorem wpList_field {ops : Array Oper} {rest : List Oper} {op : Oper} {a : Act} {w : World} {Q : Exit → Act → World → Prop} (hgd : op.guard = none) (xt : TypeId) (x : Operand) (n : Nat) (ho : op.op = .field xt x n) (xs : Array Value) (hx : a.eval x = .agg xs) (v : Value) (hr : (Instr.field xt (.agg xs) n).run P w = .ok v w)
    (h : wpList P ops Q rest (a.put op.dst v) w) : wpList P ops Q (op :: rest) a w :=
  wpList_plain hgd fun _ hK => by
    unfold Oper.wp execOp
    simp only [ho, hx, Sem.run_bind, Sem.run_pure, Result.andThen_ok, hr]
    exact hK _ _ h
end
theorem zero17_one : (List.toArray ([.int .i64 0, .int .i64 0, .bool false, .bool false, .bool false, .bool false, .bool false, .int .i64 0, .int .i64 0, .slice none 0 0, .slice none 0 0, .int .i64 0, .slice none 0 0, .slice none 0 0, .slice none 0 0, .int .i64 0, .int .i64 0] : List Value)).all (·.oneCell') = true := all_oneCell_toArray (by simp [Value.oneCell'])
theorem ru_g17 (p s c l : Int) (st sk re fe ag : Bool) (w : World) (T U : TypeId) : RuAt ((w.alloc (.cells #[.int .i64 p, .int .i64 s, .bool st, .bool sk, .bool re, .bool fe, .bool ag, .int .i64 c, .int .i64 l] T)).alloc (.cells #[.int .i64 0, .int .i64 0, .bool false, .bool false, .bool false, .bool false, .bool false, .int .i64 0, .int .i64 0, .slice none 0 0, .slice none 0 0, .int .i64 0, .slice none 0 0, .slice none 0 0, .slice none 0 0, .int .i64 0, .int .i64 0] U)) w.heap.size p s c l st sk re fe ag ∧ G17 ((w.alloc (.cells #[.int .i64 p, .int .i64 s, .bool st, .bool sk, .bool re, .bool fe, .bool ag, .int .i64 c, .int .i64 l] T)).alloc (.cells #[.int .i64 0, .int .i64 0, .bool false, .bool false, .bool false, .bool false, .bool false, .int .i64 0, .int .i64 0, .slice none 0 0, .slice none 0 0, .int .i64 0, .slice none 0 0, .slice none 0 0, .slice none 0 0, .int .i64 0, .int .i64 0] U)) (w.heap.size + 1) (.int .i64 0) (.int .i64 0) (.bool false) (.bool false) (.bool false) (.bool false) (.bool false) (.int .i64 0) (.int .i64 0) (.slice none 0 0) (.slice none 0 0) (.int .i64 0) (.slice none 0 0) (.slice none 0 0) (.slice none 0 0) (.int .i64 0) (.int .i64 0) ∧ Below w.heap.size w ((w.alloc (.cells #[.int .i64 p, .int .i64 s, .bool st, .bool sk, .bool re, .bool fe, .bool ag, .int .i64 c, .int .i64 l] T)).alloc (.cells #[.int .i64 0, .int .i64 0, .bool false, .bool false, .bool false, .bool false, .bool false, .int .i64 0, .int .i64 0, .slice none 0 0, .slice none 0 0, .int .i64 0, .slice none 0 0, .slice none 0 0, .slice none 0 0, .int .i64 0, .int .i64 0] U)) := by
  have r := ro_new p s c l st sk re fe ag w T
  have g := g17_new (w.alloc (.cells #[.int .i64 p, .int .i64 s, .bool st, .bool sk, .bool re, .bool fe, .bool ag, .int .i64 c, .int .i64 l] T)) U
  rw [show (w.alloc (.cells #[.int .i64 p, .int .i64 s, .bool st, .bool sk, .bool re, .bool fe, .bool ag, .int .i64 c, .int .i64 l] T)).heap.size = w.heap.size + 1 by simp] at g
  exact ⟨r.1.below (al1 _ _), g, al2 w _ _⟩
theorem NewR.base {w v u : World} {g1 g2 g4 g5 qn1 qn2 : Nat} {xs ys : List Int} (h : NewR v u g1 g2 g4 g5 qn1 qn2 xs ys) (k : Below w.heap.size w v) : NewR w u g1 g2 g4 g5 qn1 qn2 xs ys :=
  ⟨h.s.lower k.size, h.n.lower k.size, h.l1, h.l2, h.l4, h.l5, h.n14, h.n15, h.n24, h.n25, k.trans (h.be.mono k.size)⟩
theorem NewR.news {w u : World} {g1 g2 g4 g5 qn1 qn2 : Nat} {xs ys : List Int} (h : NewR w u g1 g2 g4 g5 qn1 qn2 xs ys) : w.heap.size ≤ g1 ∧ w.heap.size ≤ g2 ∧ w.heap.size ≤ g4 ∧ w.heap.size ≤ g5 :=
  ⟨h.s.o1.new, h.s.o2.new, h.n.o1.new, h.n.o2.new⟩
/-- The answer of NewGame over rules that are not valid. -/
def NewNo (w : World) (e : Ending) (w' : World) : Prop := e = .returned (.tuple #[.agg #[.int .i64 0, .int .i64 0, .bool false, .bool false, .bool false, .bool false, .bool false, .int .i64 0, .int .i64 0, .slice none 0 0, .slice none 0 0, .int .i64 0, .slice none 0 0, .slice none 0 0, .slice none 0 0, .int .i64 0, .int .i64 0], .int .i64 1]) ∧ Below w.heap.size w w'
/-- The answer of NewGame over valid rules. -/
def NewYes (p s c l : Int) (st sk re fe ag : Bool) (qn1 qn2 : Nat) (xs ys : List Int) (w : World) (e : Ending) (w' : World) : Prop :=
  ∃ g1 c1 g2 c2 g4 c4 g5 c5 : Nat, e = .returned (.tuple #[.agg #[.int .i64 p, .int .i64 s, .bool st, .bool sk, .bool re, .bool fe, .bool ag, .int .i64 c, .int .i64 l, .slice (some ⟨g1, 0, none⟩) qn1 c1, .slice (some ⟨g2, 0, none⟩) qn2 c2, .int .i64 0, .slice none 0 0, .slice (some ⟨g4, 0, none⟩) qn1 c4, .slice (some ⟨g5, 0, none⟩) qn2 c5, .int .i64 0, .int .i64 (-1)], .int .i64 0]) ∧ NewR w w' g1 g2 g4 g5 qn1 qn2 xs ys ∧ (w.heap.size < g1 ∧ w.heap.size < g2 ∧ w.heap.size < g4 ∧ w.heap.size < g5)
end Go.Proofs.Ytmngmbpdiaocjaa
