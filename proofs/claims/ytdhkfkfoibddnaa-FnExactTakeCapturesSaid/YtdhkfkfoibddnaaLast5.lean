/- The place of a lap's last seed, as the program finds it. No conditions. -/
import Derived.Test.YtdhkfkfoibddnaaPlaces
import Derived.Test.YtdhkfkfoibddnaaRnd5
import Derived.Test.YtdhkfkfoibddnaaCh2More
import Derived.Test.YtdhkfkfoibddnaaBox4
namespace Go.Proofs.Ytdhkfkfoibddnaa
open Go.RowKit Go.Shelf
attribute [local go_sem] Oper.semAt_some
set_option linter.unusedVariables false

/-- What the loop of LastPlace keeps: the seeds that are left, and the last place. -/
structure LastC (w : World) (bs bl : Nat) (n : Int) (pv : Nat → Int) (k : Nat) (A : World) : Prop where
  below : Below w.heap.size w A
  cs : A.cell? ⟨bs, 0, none⟩ = some (.int .i64 (n - k))
  cl : ∃ v, A.cell? ⟨bl, 0, none⟩ = some (.int .i64 v) ∧ (∀ j, k = j + 1 → v = pv j)
  fs : A.frozen? ⟨bs, 0, none⟩ = false
  fl : A.frozen? ⟨bl, 0, none⟩ = false
theorem LastC.tame {w A Z : World} {bs bl B k : Nat} {n : Int} {pv : Nat → Int} (h : LastC w bs bl n pv k A) (t : Tame B A Z) (hB : w.heap.size ≤ B) : LastC w bs bl n pv k Z := by
  obtain ⟨v, hv, hk⟩ := h.cl
  exact ⟨Tame.below h.below t hB (Nat.le_refl _), (t.cell h.cs).1, ⟨v, (t.cell hv).1, hk⟩, (t.cell h.cs).2.trans h.fs, (t.cell hv).2.trans h.fl⟩
/-- A record and the block for deferred calls. -/
def RecAt (A : World) (L D : Nat) (r : Loop) : Prop := A.heap[L]? = some (.loop r) ∧ A.heap[D]? = some (.deferred (some []))
theorem RecAt.below {A Z : World} {L D : Nat} {r : Loop} (h : RecAt A L D r) (k : Below A.heap.size A Z) : RecAt Z L D r :=
  ⟨(k.block L (Array.getElem?_eq_some_iff.1 h.1).1).trans h.1, (k.block D (Array.getElem?_eq_some_iff.1 h.2).1).trans h.2⟩
theorem RecAt.put {A : World} {L D : Nat} {r r' : Loop} (h : RecAt A L D r) (hD : D ≠ L) : RecAt (A.putObj L (.loop r')) L D r' :=
  ⟨World.putObj_heap_same (Array.getElem?_eq_some_iff.1 h.1).1, (World.putObj_heap_other hD).trans h.2⟩
theorem RecAt.setCell {A : World} {L D : Nat} {r : Loop} (h : RecAt A L D r) {p : Addr} {v : Value} (hp : A.cell? p = some v) (x : Value) : RecAt (A.setCell p x) L D r := by
  have hc : ∃ o, A.heap[p.block]? = some o ∧ o.isCells = true := by
    unfold World.cell? at hp
    rcases ho : A.heap[p.block]? with _ | u
    · simp [ho] at hp
    · exact ⟨u, rfl, by cases u <;> simp_all [Obj.isCells]⟩
  obtain ⟨o, ho, hoc⟩ := hc
  refine ⟨(Below.heap_setCell A p x L fun e => ?_).trans h.1, (Below.heap_setCell A p x D fun e => ?_).trans h.2⟩
  · rw [← e, h.1] at ho
    cases ho
    cases hoc
  · rw [← e, h.2] at ho
    cases ho
    cases hoc

end Go.Proofs.Ytdhkfkfoibddnaa
