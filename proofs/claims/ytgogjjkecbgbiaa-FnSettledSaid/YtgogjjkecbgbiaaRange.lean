/- A loop over a method value that hands over the members of a list, one after the other. No conditions. -/
import Derived.RangeFuncFrom
import Derived.RangeFuncLeaves
import Derived.RangeFuncCalls
import Derived.Test.YtgogjjkecbgbiaaBut
namespace Go.Proofs.Ytgogjjkecbgbiaa
open Go.RowKit
set_option linter.unusedVariables false

/-- From A to Z only new blocks have come, and blocks from B on have turned that hold no cells. -/
structure Tame (B : Nat) (A Z : World) : Prop where
  os : Z.os = A.os
  tape : Z.tape = A.tape
  output : Z.output = A.output
  size : A.heap.size ≤ Z.heap.size
  low : ∀ k, k < B → k < A.heap.size → Z.heap[k]? = A.heap[k]?
  cells : ∀ (k : Nat) (o : Obj), A.heap[k]? = some o → o.isCells = true → Z.heap[k]? = some o
theorem Tame.of_below {B : Nat} {A Z : World} (h : Below A.heap.size A Z) : Tame B A Z :=
  ⟨h.os, h.tape, h.output, h.size, fun k _ hk => h.block k hk, fun k o ho _ => (h.block k (Array.getElem?_eq_some_iff.1 ho).1).trans ho⟩
theorem Tame.putObj {B r : Nat} {A : World} {o : Obj} (hr : B ≤ r) (h : A.heap[r]? = some o) (ho : o.isCells = false) (o' : Obj) : Tame B A (A.putObj r o') :=
  ⟨rfl, rfl, rfl, by simp, fun k hk _ => World.putObj_heap_other (by omega), fun k u hu hc => by
    by_cases e : k = r
    · subst e
      rw [h] at hu
      cases hu
      rw [ho] at hc
      cases hc
    · rw [World.putObj_heap_other e]
      exact hu⟩
theorem Tame.below {n0 B : Nat} {w A Z : World} (h : Below n0 w A) (k : Tame B A Z) (hn : n0 ≤ B) (hw : n0 ≤ w.heap.size) : Below n0 w Z :=
  ⟨k.os.trans h.os, k.tape.trans h.tape, k.output.trans h.output, Nat.le_trans h.size k.size, fun i hi => (k.low i (by omega) (by have := h.size; omega)).trans (h.block i hi)⟩
/-- A block of cells stands. -/
theorem Tame.cell {B : Nat} {A Z : World} (k : Tame B A Z) {b o : Nat} {v : Value} (h : A.cell? ⟨b, o, none⟩ = some v) : Z.cell? ⟨b, o, none⟩ = some v ∧ Z.frozen? ⟨b, o, none⟩ = A.frozen? ⟨b, o, none⟩ := by
  have hc := h
  unfold World.cell? at hc
  rcases ho : A.heap[b]? with _ | u
  · simp [ho] at hc
  · have hu : u.isCells = true := by cases u <;> simp_all [Obj.isCells]
    have e := k.cells b u ho hu
    have e2 : Z.heap[(⟨b, o, none⟩ : Addr).block]? = A.heap[(⟨b, o, none⟩ : Addr).block]? := e.trans ho.symm
    exact ⟨(World.cell?_of_block e2).trans h, World.frozen?_of_block e2⟩
theorem others_of_below {A Z : World} (h : Below A.heap.size A Z) : KeepsOthers A Z :=
  ⟨h.size, fun k o ho _ => (h.block k (Array.getElem?_eq_some_iff.1 ho).1).trans ho⟩
theorem others_drewN (A : World) (m : Nat) : KeepsOthers A (A.drewN m) := ⟨Nat.le_refl _, fun _ _ h _ => h⟩

variable {F : Fence} {n : Nat} {P : Program}

/-- What the method promises: it hands over xs; it gives up where a round says no more. -/
def Hands {α : Type} (F : Fence) (n : Nat) (P : Program) (g : Nat) (fb : Array Value) (enc : α → Array Value) (xs : List α) (n0 : Nat) (w : World) : Prop :=
  ∀ (l : Nat) (J : Nat → World → Prop) (Jx : World → Prop) (W : World), Below w.heap.size w W →
    (∀ k A Z, J k A → Below A.heap.size A Z → J k Z) →
    (∀ k x A, J k A → xs[k]? = some x → YieldAt F (n - 1) P l (enc x) A fun e Z =>
      (e = .returned (.bool true) ∧ J (k + 1) Z ∧ Below n0 A Z) ∨ (e = .returned (.bool false) ∧ Jx Z)) →
    J 0 W → CallsIn F n P g (fb ++ #[.func (.yield l) #[] #[]]) W fun e Z => (∃ v, e = .returned v) ∧ (J xs.length Z ∨ Jx Z)

/-- How a round's body may be left. -/
def BodyR (n0 : Nat) (I : World → Prop) (Ix : Code → World → Prop) (W : World) : Exit → Act → World → Prop
  | .normal, _, Z => KeepsOthers W Z ∧ Below n0 W Z ∧ I Z
  | .ret, _, Z => KeepsOthers W Z ∧ Ix .ret Z
  | .exit id, _, Z => KeepsOthers W Z ∧ Ix (.exit id) Z
  | _, _, _ => False

theorem range_hands {α : Type} {g : Operand} {ps : Array Tmp} {assign body : Code} {Q : Exit → Act → World → Prop} {a : Act} {w w0 : World}
    (hro : F.round = none) (h1 : 1 ≤ n) {gf : Nat} {fb : Array Value} (hg : a.eval g = .func (.func gf) fb #[]) (hFg : F.fn gf) (eg : ∀ args w, (callFunc gf args).run P w = .ok (.enter gf args) w)
    {enc : α → Array Value} {xs : List α} {n0 : Nat} (hh : Hands F (n - 1) P gf fb enc xs n0 w0) (hb0 : Below w0.heap.size w0 w) (hn0 : n0 ≤ w.heap.size) (hps : ∀ x, (enc x).size = ps.size)
    (I : Nat → World → Prop) (Ix : Code → World → Prop) (hI : ∀ k A Z, I k A → Tame w.heap.size A Z → I k Z) (hIx : ∀ c A Z, Ix c A → Tame w.heap.size A Z → Ix c Z) (h0 : I 0 w) (a₁ : α → Act)
    (hassign : ∀ (l : Nat) (x : α) (W : World) (K : Act → World → Prop), K (a₁ x) W →
      assign.wpIn (F.inRound l) (n - 1 - 1) P (Exit.then K (fun _ _ _ => False)) { tmps := (ps.zip (enc x)).foldl (fun t (p, v) => t.setIfInBounds p v) a.tmps, defers := [] } W)
    (hbody : ∀ (l k : Nat) (x : α) (W : World), I k W → xs[k]? = some x → body.wpIn (F.inRound l) (n - 1 - 1) P (BodyR n0 (I (k + 1)) Ix W) (a₁ x) W)
    (hdone : ∀ (D : Nat) (W : World), w.heap.size ≤ D → I xs.length W → W.heap[D]? = some (.deferred (some [])) → Q .normal { a with defers := { target := .collected D, args := #[] } :: a.defers } W)
    (hstop : ∀ (D : Nat) (c : Code) (W : World), w.heap.size ≤ D → Ix c W → W.heap[D]? = some (.deferred (some [])) → c.wpIn F n P Q { a with defers := { target := .collected D, args := #[] } :: a.defers } W) :
    (Code.rangeFunc g ps assign body).wpIn F n P Q a w := by
  refine wpIn_rangeFunc fun fn hfn => ?_
  rw [hro]
  -- the record in its states; where it and the block of the deferred calls lie
  obtain ⟨L, hL⟩ : ∃ L, L = w.heap.size + 1 := ⟨_, rfl⟩
  obtain ⟨R, hR⟩ : ∃ R : LoopState → Option Code → Loop, R = fun st pe => ⟨st, pe, fn, a.tmps, ps, assign, body, w.heap.size⟩ := ⟨_, rfl⟩
  obtain ⟨St, hSt⟩ : ∃ St : LoopState → Option Code → World → Prop, St = fun st pe W => W.heap[L]? = some (.loop (R st pe)) ∧ W.heap[w.heap.size]? = some (.deferred (some [])) := ⟨_, rfl⟩
  have stPut : ∀ {st pe st' pe' W}, St st pe W → St st' pe' (W.putObj L (.loop (R st' pe'))) := fun {st pe st' pe' W} h => by
    rw [hSt] at h ⊢
    exact ⟨World.putObj_heap_same (Array.getElem?_eq_some_iff.1 h.1).1, (World.putObj_heap_other (by omega)).trans h.2⟩
  have calmPut : ∀ {st pe W} (o : Obj), St st pe W → Tame w.heap.size W (W.putObj L o) := fun {st pe W} o h => by
    rw [hSt] at h
    exact Tame.putObj (by omega) h.1 rfl o
  have stKeep : ∀ {st pe W Z}, St st pe W → KeepsOthers W Z → St st pe Z := fun {st pe W Z} h k => by
    rw [hSt] at h ⊢
    exact ⟨k.same _ _ h.1 rfl, k.same _ _ h.2 rfl⟩
  obtain ⟨W1, hW1⟩ : ∃ W1, W1 = (w.alloc (.deferred (some []))).alloc (.loop (R .ready none)) := ⟨_, rfl⟩
  have b1 : Below w.heap.size w W1 := by rw [hW1]; exact ((Below.refl _ w).alloc (Nat.le_refl _) _).alloc (by simp) _
  have s1 : St .ready none W1 := by
    rw [hSt, hW1, hL]
    refine ⟨?_, (Below.heap_alloc _ _ _ (by simp)).trans (World.alloc_heap_new w _)⟩
    have := World.alloc_heap_new (w.alloc (.deferred (some []))) (.loop (R .ready none))
    rwa [World.size_alloc] at this
  have i1 : I 0 W1 := hI 0 w W1 h0 (Tame.of_below b1)
  refine ⟨L, [{ target := .collected w.heap.size, args := #[] }], W1, { target := .fn (.func gf) #[], args := fb ++ #[.func (.yield L) #[] #[]] }, W1, gf, fb ++ #[.func (.yield L) #[] #[]], W1, ?_, ?_, ?_, ?_, fun _ => h1, ?_⟩
  · rw [hW1, hR, hL]
    exact run_enterLoop_outer _ _ _ _ _
  · simp only [resolve, hg]
    simp [go_sem]
  · intro f' hf'
    simp [Target.leads] at hf'
    subst hf'
    exact hFg
  · simp [invoke, go_sem, eg]
  refine (hh L (fun k W => I k W ∧ St .ready none W) (fun W => ∃ c, Ix c W ∧ St .done (some c) W) W1 (hb0.trans (b1.mono hb0.size))
    (fun k A Z h hb => ⟨hI k A Z h.1 (Tame.of_below hb), stKeep h.2 (others_of_below hb)⟩) ?_ ⟨i1, s1⟩).mono ?_
  · rintro k x W ⟨hi, hs⟩ hx
    have hs' := hs
    rw [hSt] at hs'
    obtain ⟨hl, -⟩ := hs'
    have hy := run_yield (P := P) (args := enc x) hl (by rw [hR]; exact hps x)
    rw [hR] at hy
    refine ⟨fn, _, assign, body, hy, roundIn_of_wpIn hfn (hassign _ x W _ ⟨_, run_beginRound hl (by rw [hR]), ?_⟩)⟩
    have hbusy : ({ R .ready none with state := .busy } : Loop) = R .busy none := by rw [hR]
    rw [hbusy]
    have hs2 : St .busy none (W.putObj L (.loop (R .busy none))) := stPut hs
    have low1 : Below n0 W (W.putObj L (.loop (R .busy none))) := Tame.below (Below.refl _ _) (calmPut _ hs) hn0 (by
      have := (Array.getElem?_eq_some_iff.1 hl).1
      omega)
    have big : n0 ≤ W.heap.size := by
      have := (Array.getElem?_eq_some_iff.1 hl).1
      omega
    have ends : ∀ (j : Option Code) (Z : World), KeepsOthers (W.putObj L (.loop (R .busy none))) Z →
        (Instr.endRound L j).run P Z = .ok (.bool j.isNone) (Z.putObj L (.loop (R (if j.isNone then .ready else .done) j))) ∧ St .busy none Z := fun j Z hk => by
      have hz := stKeep hs2 hk
      have hz' := hz
      rw [hSt] at hz'
      have := run_endRound (P := P) j hz'.1
      rw [hR] at this ⊢
      exact ⟨this, hz⟩
    refine wpIn_mono (hbody _ k x _ (hI k _ _ hi (calmPut _ hs)) hx) ?_
    rintro e a3 Z hp
    cases e with
    | normal =>
      obtain ⟨hk, hlow, hi3⟩ := hp
      obtain ⟨hr, hz⟩ := ends none Z hk
      exact ⟨_, _, hr, .inl ⟨rfl, ⟨hI _ _ _ hi3 (calmPut _ hz), stPut hz⟩, (low1.trans hlow).trans (Tame.below (Below.refl _ _) (calmPut _ hz) hn0 (by have := hk.size; simp at this; omega))⟩⟩
    | ret =>
      obtain ⟨hk, hi3⟩ := hp
      obtain ⟨hr, hz⟩ := ends (some .ret) Z hk
      exact ⟨_, _, hr, .inr ⟨rfl, .ret, hIx _ _ _ hi3 (calmPut _ hz), stPut hz⟩⟩
    | exit id =>
      obtain ⟨hk, hi3⟩ := hp
      obtain ⟨hr, hz⟩ := ends (some (.exit id)) Z hk
      exact ⟨_, _, hr, .inr ⟨rfl, .exit id, hIx _ _ _ hi3 (calmPut _ hz), stPut hz⟩⟩
    | goto t => exact hp.elim
    | panic c => exact hp.elim
    | outgrown => exact hp.elim
  · rintro e Z ⟨⟨v, rfl⟩, (⟨hi, hs⟩ | ⟨c, hi, hs⟩)⟩
    · have hs' := hs
      rw [hSt] at hs'
      have hr := run_endLoop (P := P) hs'.1 (by rw [hR]; simp)
      rw [hR] at hr
      refine ⟨none, _, hr, hdone _ _ (Nat.le_refl _) (hI _ _ _ hi (calmPut _ hs)) ((World.putObj_heap_other (by omega)).trans hs'.2)⟩
    · have hs' := hs
      rw [hSt] at hs'
      have hr := run_endLoop (P := P) hs'.1 (by rw [hR]; simp)
      rw [hR] at hr
      refine ⟨some c, _, hr, hstop _ c _ (Nat.le_refl _) (hIx _ _ _ hi (calmPut _ hs)) ((World.putObj_heap_other (by omega)).trans hs'.2)⟩
end Go.Proofs.Ytgogjjkecbgbiaa
