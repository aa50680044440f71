/- What the library's functions on rows of numbers give: copies, rows joined, a number repeated. No conditions. -/
import Derived.Test.YtgogjjkecbgbiaaOwn4
import Derived.Lib.AppendZerosOnto
import Derived.Laws.CopyOwn
import Derived.WalkSpells
import Derived.Deep.RegionLaw
namespace Go.Proofs.Ytgogjjkecbgbiaa
open Go.Joins Go.ChangeShapes Go.WideShapes Go.ChangeAt Go.RowKit Go.Deep
set_option linter.unusedVariables false

set_option maxHeartbeats 1000000 in
theorem clone_any (a : Option Addr) (c n : Nat) (xs : List Int) (w : World) (hn : xs.length = n) (h : RowN w a xs) (hne : xs ≠ []) :
    Calls Try.prog 53 #[.slice a n c] w (OwnP xs n w) := by
  have hl : n ≤ 1000000000000 := by rw [← hn]; exact h.1
  obtain ⟨i0, hi, hz0, hz1, hz2⟩ := info_parts infoN
  obtain ⟨g, o, rfl, hg, hx⟩ := h.2.resolve_left hne
  have Hn := Lib.hid hn
  have H := Lib.hid h
  have qe : ∀ (w : World) (a : Option Addr) (n c n' c' : Nat), (binOp .eql 26 (.slice a n c) (.slice none n' c')).run Try.prog w = .ok (.bool a.isNone) w := fun w a n c n' c' => Lib.run_eql_slice_nil w _ _ a n c n' c' Try.underlying26
  clear hn h hne hx
  go_enter Try.func53, Try.ntmps53
  go_wp2_with (at_builtin; refine wpList_append_own _ rfl _ _ 26 rfl w.heap.size 2 i0 (.int .i64 0) 1 8 Try.underlying26 hi hz0 hz1 hz2 rfl (by decide) _ 0 [] rfl (World.ownsRow_made w #[] 0 (Nat.le_refl _) (by decide) rfl) ⟨g, o, none⟩ n c (nvs xs) rfl (by rw [nvs_len, Hn.out]; simp) (row_news (H.out.alloc _)) (nvs_cell xs) (by unfold maxLen; omega) (by omega) (by simp) ?_; intro v' w1 hown1 hgrow1 hnil1)
  have hb1 : Below w.heap.size w w1 := ((Below.refl _ _).alloc (Nat.le_refl _) _).grown hgrow1 (by simp) (fun k hk => by cases hk; exact Nat.le_refl _)
  simp only [Nat.zero_add, List.nil_append] at hown1
  have HO := Lib.hid hown1
  have HB := Lib.hid hb1
  clear hown1 hb1 hgrow1 hnil1
  go_wp2
  go_ret
  exact ⟨_, rfl, HO.out, HB.out⟩
end Go.Proofs.Ytgogjjkecbgbiaa
