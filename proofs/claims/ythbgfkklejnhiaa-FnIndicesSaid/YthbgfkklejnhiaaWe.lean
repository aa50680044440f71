/- The program's list with another end; the last number that is not zero. No conditions. -/
import Derived.Test.YthbgfkklejnhiaaUn
import Derived.Lib.AppendZerosOnto
import Derived.Laws.CopyOwn
import Derived.WalkSpells
namespace Go.Proofs.Ythbgfkklejnhiaa
open Go.Joins Go.ChangeShapes Go.WideShapes Go.ChangeAt Go.RowKit Go.Deep
set_option linter.unusedVariables false

/-- A block that holds these numbers, and zeros behind them. -/
theorem arr_of {w : World} {G : Nat} {L : List Int} {cur : List Value} {t : TypeId} (h : w.heap[G]? = some (.cells cur.toArray t (0, 0))) (hc : ∃ rest, cur = nvs L ++ rest) : Arr w G L := by
  obtain ⟨rest, rfl⟩ := hc
  refine ⟨(Array.getElem?_eq_some_iff.1 h).1, fun i x hi => ?_, fun o => by simp [World.frozen?, h]⟩
  have hl : i < L.length := (List.getElem?_eq_some_iff.1 hi).1
  have e : (nvs L ++ rest)[i]? = some (.int .i64 x) := by
    rw [List.getElem?_append_left (by rw [nvs_len]; exact hl)]
    simp [nvs, hi]
  simpa [World.cell?, h] using e
theorem zeroC (n : Nat) : Builtin.zeroCells #[Value.int .i64 0] n = (List.replicate n (Value.int .i64 0)).toArray := by
  apply Array.ext
  · rw [size_zeroCells]; simp
  · intro i h1 h2
    simp [Builtin.zeroCells, Nat.mod_one]
theorem infoO : (Try.prog.info? 2).map (·.size) = some 1 := by kernel_rfl
def WeP (L : List Int) (n : Nat) (w : World) (e : Ending) (w' : World) : Prop :=
  ∃ G c, e = .returned (.slice (some ⟨G, 0, none⟩) n c) ∧ Arr w' G L ∧ w.heap.size ≤ G ∧ n ≤ c ∧ Below w.heap.size w w'
end Go.Proofs.Ythbgfkklejnhiaa
