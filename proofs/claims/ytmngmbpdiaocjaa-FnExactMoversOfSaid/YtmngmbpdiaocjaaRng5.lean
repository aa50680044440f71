/- A loop over a function, its record told: the statement, and one round. No conditions. -/
import Derived.Test.YtmngmbpdiaocjaaRange
import Derived.RangeFuncNested
namespace Go.Proofs.Ytmngmbpdiaocjaa
open Go.RowKit
set_option linter.unusedVariables false

/-- The record of a loop. -/
def Lp (fn : FuncId) (tmps : Array Value) (ps : Array Tmp) (assign body : Code) (D : Nat) (st : LoopState) (pe : Option Code) : Loop := ⟨st, pe, fn, tmps, ps, assign, body, D⟩

/-- From A to Z nothing from B on has turned but for new blocks. -/
structure Above (B : Nat) (A Z : World) : Prop where
  size : A.heap.size ≤ Z.heap.size
  keep : ∀ k, B ≤ k → k < A.heap.size → Z.heap[k]? = A.heap[k]?
theorem Above.refl (B : Nat) (A : World) : Above B A A := ⟨Nat.le_refl _, fun _ _ _ => rfl⟩
theorem Above.trans {B : Nat} {A Y Z : World} (h : Above B A Y) (k : Above B Y Z) : Above B A Z :=
  ⟨Nat.le_trans h.size k.size, fun i hB hi => (k.keep i hB (Nat.lt_of_lt_of_le hi h.size)).trans (h.keep i hB hi)⟩
theorem Above.mono {B C : Nat} {A Z : World} (h : Above B A Z) (hc : B ≤ C) : Above C A Z := ⟨h.size, fun i hC hi => h.keep i (Nat.le_trans hc hC) hi⟩
theorem Above.of_below {B : Nat} {A Z : World} (h : Below A.heap.size A Z) : Above B A Z := ⟨h.size, fun i _ hi => h.block i hi⟩
theorem Above.putObj {B r : Nat} {A : World} (o : Obj) (hr : r < B) : Above B A (A.putObj r o) := ⟨by simp, fun i hB hi => World.putObj_heap_other (by omega)⟩
theorem Above.setCell {B : Nat} {A : World} {p : Addr} (hp : p.block < B) (x : Value) : Above B A (A.setCell p x) := ⟨by simp, fun i hB hi => Below.heap_setCell A p x i (by omega)⟩
theorem Above.alloc {B : Nat} {A : World} (o : Obj) : Above B A (A.alloc o) := .of_below ((Below.refl _ _).alloc (Nat.le_refl _) o)
theorem Above.cell {B : Nat} {A Z : World} (h : Above B A Z) {b o : Nat} (hb : B ≤ b) (hl : b < A.heap.size) : Z.cell? ⟨b, o, none⟩ = A.cell? ⟨b, o, none⟩ := World.cell?_of_block (w := A) (h.keep b hb hl)
theorem Above.frozen {B : Nat} {A Z : World} (h : Above B A Z) {b o : Nat} (hb : B ≤ b) (hl : b < A.heap.size) : Z.frozen? ⟨b, o, none⟩ = A.frozen? ⟨b, o, none⟩ := World.frozen?_of_block (w := A) (h.keep b hb hl)

variable {n : Nat} {P : Program}

/-- The wide fence has room. -/
theorem wide_room {m : Nat} : Fence.wide.depth.isSome = true → 1 ≤ m := fun h => by simp [Fence.wide] at h
/-- A call of yield at whatever depth. -/
theorem yield_deep {m : Nat} (m' : Nat) {l : Nat} {args : Array Value} {W : World} {R : Ending → World → Prop} (h : YieldAt Fence.wide m P l args W R) : YieldAt Fence.wide m' P l args W R := by
  obtain ⟨fn, tmps, assign, body, hy, hR⟩ := h
  exact ⟨fn, tmps, assign, body, hy, hR.1, fun c cs hr => hR.2 c cs (by simp [Fence.room, Fence.wide])⟩

/-- How a round's body may be left. -/
def BodyQ (L : Nat) (R : LoopState → Option Code → Loop) (Post : Ending → World → Prop) : Exit → Act → World → Prop
  | .normal, _, Z => Z.heap[L]? = some (.loop (R .busy none)) ∧ Post (.returned (.bool true)) (Z.putObj L (.loop (R .ready none)))
  | .ret, _, Z => Z.heap[L]? = some (.loop (R .busy none)) ∧ Post (.returned (.bool false)) (Z.putObj L (.loop (R .done (some .ret))))
  | .exit id, _, Z => Z.heap[L]? = some (.loop (R .busy none)) ∧ Post (.returned (.bool false)) (Z.putObj L (.loop (R .done (some (.exit id)))))
  | _, _, _ => False

/-- THE STATEMENT. -/
theorem range_stmt {g : Operand} {ps : Array Tmp} {assign body : Code} {Q : Exit → Act → World → Prop} {a : Act} {w : World} {gf : Nat} {fb cb : Array Value}
    (hg : a.eval g = .func (.func gf) fb cb) (eg : ∀ args w, (callFunc gf args).run P w = .ok (.enter gf args) w)
    (h : ∀ fn R, R = Lp fn a.tmps ps assign body w.heap.size → CallsIn Fence.wide (n - 1) P gf (fb ++ #[.func (.yield (w.heap.size + 1)) #[] #[]] ++ cb) ((w.alloc (.deferred (some []))).alloc (.loop (R .ready none))) fun e Z => (∃ v, e = .returned v) ∧
      ((Z.heap[w.heap.size + 1]? = some (.loop (R .ready none)) ∧ Q .normal { a with defers := { target := .collected w.heap.size, args := #[] } :: a.defers } (Z.putObj (w.heap.size + 1) (.loop (R .exhausted none)))) ∨
       ∃ c, Z.heap[w.heap.size + 1]? = some (.loop (R .done (some c))) ∧ c.wpIn Fence.wide n P Q { a with defers := { target := .collected w.heap.size, args := #[] } :: a.defers } (Z.putObj (w.heap.size + 1) (.loop (R .exhausted (some c)))))) :
    (Code.rangeFunc g ps assign body).wpIn Fence.wide n P Q a w := by
  refine wpIn_rangeFunc fun fn hfn => ?_
  refine ⟨w.heap.size + 1, [{ target := .collected w.heap.size, args := #[] }], (w.alloc (.deferred (some []))).alloc (.loop (Lp fn a.tmps ps assign body w.heap.size .ready none)), { target := .fn (.func gf) cb, args := fb ++ #[.func (.yield (w.heap.size + 1)) #[] #[]] }, (w.alloc (.deferred (some []))).alloc (.loop (Lp fn a.tmps ps assign body w.heap.size .ready none)), gf, fb ++ #[.func (.yield (w.heap.size + 1)) #[] #[]] ++ cb, (w.alloc (.deferred (some []))).alloc (.loop (Lp fn a.tmps ps assign body w.heap.size .ready none)), run_enterLoop_outer _ _ _ _ _, ?_, ?_, ?_, ?_, ?_⟩
  · simp only [resolve, hg]
    simp [go_sem]
  · intro f' hf'
    trivial
  · simp [invoke, go_sem, eg]
  · intro hd
    simp [Fence.wide] at hd
  · refine (h fn _ rfl).mono ?_
    rintro e Z ⟨⟨v, rfl⟩, ⟨hl, hq⟩ | ⟨c, hl, hq⟩⟩
    · exact ⟨none, _, run_endLoop (P := P) hl (by simp [Lp]), hq⟩
    · exact ⟨some c, _, run_endLoop (P := P) hl (by simp [Lp]), hq⟩
/-- The record and the block for deferred calls, as they are laid. -/
theorem laid_loop (w : World) (r : Loop) : ((w.alloc (.deferred (some []))).alloc (.loop r)).heap[w.heap.size + 1]? = some (.loop r) ∧ ((w.alloc (.deferred (some []))).alloc (.loop r)).heap[w.heap.size]? = some (.deferred (some [])) := by
  refine ⟨?_, (Below.heap_alloc _ _ _ (by simp)).trans (World.alloc_heap_new w _)⟩
  have := World.alloc_heap_new (w.alloc (.deferred (some []))) (.loop r)
  rwa [World.size_alloc] at this
end Go.Proofs.Ytmngmbpdiaocjaa
