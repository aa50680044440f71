/- A row of numbers among a law's arguments, opened. No conditions. -/
import Derived.Test.YtmoilphgibigkaaDoorOpenP
namespace Go.Proofs.YtmoilphgibigkaaDoor
open Go.Joins Go.ChangeShapes Go.WideShapes Go.ChangeAt Go.RowKit Go.Deep
set_option linter.unusedVariables false

/-- A row that came in: of whatever length. -/
structure IV where
  a : Option Addr
  len : Nat
  cap : Nat
  xs : List Int
def IV.val (q : IV) : Value := .slice q.a q.len q.cap
structure IV.In (q : IV) (w : World) : Prop where
  row : q.xs.length ≤ 1000000000000 → RowN w q.a q.xs
  len : q.xs.length = q.len
  max : q.len ≤ 9223372036854775807
section
variable {H : Type} {enc : TypeId × Value → H} {P : Program} {w : World} {base : Nat}
theorem open_nums {r : Reach} {b0 : Nat} {t e : TypeId} {v : Value} {d : DataW H} {ps : List MemPlace} (ht : P.underlying t = some (.slice e)) (he : P.underlying e = some (.int .i64)) (hce : P.cellsOf e = 1)
    (hv : Value.okWide P w r b0 t v) (h : DataW.Trod enc P w base (fun _ => true) true t v d ps) : ∃ q : IV, v = q.val ∧ q.In w := by
  obtain ⟨a, len, cap, rfl⟩ := okWide_slice ht hv
  obtain ⟨fuel, hf⟩ := h
  obtain ⟨a', len', cap', xs, hc, h1, h2, h3⟩ := cell_row (c := .slice a len cap) ht he hce hf
  cases hc
  exact ⟨⟨a, len, cap, xs⟩, rfl, h3, h1, h2⟩
end
end Go.Proofs.YtmoilphgibigkaaDoor
