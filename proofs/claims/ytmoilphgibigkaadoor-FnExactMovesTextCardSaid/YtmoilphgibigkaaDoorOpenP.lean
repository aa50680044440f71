/- The position among a law's arguments, opened. No conditions. -/
import Derived.Test.YtmoilphgibigkaaDoorPos
import Derived.ChangeSlices
namespace Go.Proofs.YtmoilphgibigkaaDoor
open Go.Joins Go.ChangeShapes Go.WideShapes Go.ChangeAt Go.RowKit Go.Deep
set_option linter.unusedVariables false

/-- The rows of a position that came in: of whatever length. -/
structure PosW (w : World) (a1 a2 : Option Addr) (n1 n2 : Nat) (xs ys : List Int) : Prop where
  r1 : xs.length ≤ 1000000000000 → RowN w a1 xs
  r2 : ys.length ≤ 1000000000000 → RowN w a2 ys
  l1 : xs.length = n1
  l2 : ys.length = n2
  m1 : n1 ≤ 9223372036854775807
  m2 : n2 ≤ 9223372036854775807
theorem PosW.toR {w : World} {a1 a2 : Option Addr} {n1 n2 : Nat} {xs ys : List Int} (h : PosW w a1 a2 n1 n2 xs ys) (hn : (n1 : Int) + n2 ≤ 1048576) : PosR w a1 a2 n1 n2 xs ys :=
  ⟨h.r1 (by rw [h.l1]; omega), h.r2 (by rw [h.l2]; omega), h.l1, h.l2⟩
structure PV where
  a1 : Option Addr
  a2 : Option Addr
  n1 : Nat
  c1 : Nat
  n2 : Nat
  c2 : Nat
  pl : Int
  xs : List Int
  ys : List Int
def PV.val (q : PV) : Value := .agg #[.slice q.a1 q.n1 q.c1, .slice q.a2 q.n2 q.c2, .int .i64 q.pl]
def PV.In (q : PV) (w : World) : Prop := I64 q.pl ∧ PosW w q.a1 q.a2 q.n1 q.n2 q.xs q.ys

section
variable {H : Type} {enc : TypeId × Value → H} {P : Program} {w : World} {base : Nat}
theorem cell_row {s e : TypeId} {n : Nat} {c : Value} {y : DataW H × List MemPlace} (hs : P.underlying s = some (.slice e)) (he : P.underlying e = some (.int .i64)) (hce : P.cellsOf e = 1)
    (h : DataW.trod enc P w base (fun _ => true) true n s [c] = some y) : ∃ a len cap xs, c = .slice a len cap ∧ xs.length = len ∧ len ≤ 9223372036854775807 ∧ (xs.length ≤ 1000000000000 → RowN w a xs) := by
  rcases open_ints hs he hce h with ⟨hcs, _⟩ | ⟨x, len, cap, zs, hcs, _, hl, hm, hz, _, hcell, hwz⟩
  · simp at hcs
    exact ⟨none, 0, 0, [], hcs, rfl, by omega, fun _ => rowN_nil _ _⟩
  · simp at hcs
    simp at hz
    unfold maxLen at hm
    refine ⟨some x, len, cap, zs.take len, hcs, by rw [List.length_take]; omega, by omega, fun hn => ⟨hn, ?_⟩⟩
    by_cases h0 : len = 0
    · exact .inl (by rw [h0]; rfl)
    · obtain ⟨b, off, spot⟩ := x
      have hc := hcell 0 (by omega)
      have hspot : spot = none := by simpa [Addr.add] using World.cell?_spot hc
      subst hspot
      refine .inr ⟨b, off, rfl, by simpa [Addr.add] using World.block_lt_of_cell? w _ hc, fun i v hi => ?_⟩
      rw [List.getElem?_take] at hi
      split at hi
      · have ea : (⟨b, off + i, none⟩ : Addr) = (⟨b, off, none⟩ : Addr).add i := by
          by_cases h : i = 0 <;> simp [Addr.add, h]
        rw [ea, hcell i (by omega)]
        simp [List.getD, hi]
      · cases hi
theorem open_pos {r : Reach} {b0 : Nat} {t s i : TypeId} {f0 f1 f2 : Field} {v : Value} {d : DataW H} {ps : List MemPlace} (ht : P.underlying t = some (.struct #[f0, f1, f2])) (hs : P.underlying s = some (.slice i)) (hi : P.underlying i = some (.int .i64)) (hci : P.cellsOf i = 1)
    (hone : (oneCellFields P #[f0, f1, f2] && decide (f0.type = s) && decide (f1.type = s) && decide (f2.type = i)) = true) (hC : P.cellsOf t = 3)
    (hv : Value.okWide P w r b0 t v) (h : DataW.Trod enc P w base (fun _ => true) true t v d ps) : ∃ q : PV, v = q.val ∧ q.In w := by
  simp only [Bool.and_eq_true, decide_eq_true_eq] at hone
  obtain ⟨⟨⟨hone, t0⟩, t1⟩, t2⟩ := hone
  obtain ⟨v0, v1, v2, y0, y1, y2, n, rfl, -, -, h0, h1, h2⟩ := open_agg3 ht hone hC hv h
  rw [t0] at h0
  rw [t1] at h1
  rw [t2] at h2
  obtain ⟨a1, n1, c1, xs, rfl, l1, m1, r1⟩ := cell_row hs hi hci h0
  obtain ⟨a2, n2, c2, ys, rfl, l2, m2, r2⟩ := cell_row hs hi hci h1
  obtain ⟨m, rfl, hw⟩ := cell_int hi h2
  exact ⟨⟨a1, a2, n1, c1, n2, c2, m, xs, ys⟩, rfl, hw, ⟨r1, r2, l1, l2, m1, m2⟩⟩
end
end Go.Proofs.YtmoilphgibigkaaDoor
