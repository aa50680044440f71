/- The number of all seeds: TotalSeeds of the reference and of the program. No conditions. -/
import Derived.Test.YtkpmocjghpeppaaCh2
import Derived.IntWalk
import Derived.Deep.RegionWith
namespace Go.Proofs.Ytkpmocjghpeppaa
open Go.Joins Go.ChangeShapes Go.WideShapes Go.ChangeAt Go.RowKit Go.Deep
set_option linter.unusedVariables false

/-- The number of all seeds. -/
def totV (ok : Bool) (v : Int) : Int := if ok then v else 0
def totC (ok : Bool) : Int := if ok then 0 else 1
theorem impl_total (p s c l : Int) (st sk re fe ag : Bool) (w : World) :
    Calls Try.prog 26 #[.agg #[.int .i64 p, .int .i64 s, .bool st, .bool sk, .bool re, .bool fe, .bool ag, .int .i64 c, .int .i64 l]] w fun e w' => e = .returned (.tuple #[.int .i64 (totV (okR p s c l st ag) (2 * p * s)), .int .i64 (totC (okR p s c l st ag))]) ∧ Below w.heap.size w w' := by
  rcases hok : okR p s c l st ag with _ | _
  · have Hok := Lib.hid hok
    clear hok
    go_enter Try.func26, Try.ntmps26
    go_wp2_with (go_at_call 57; refine (valid_any p s c l st sk re fe ag _).mono ?_; rintro e w1 ⟨rfl, hb1⟩; obtain ⟨hc1, hf1⟩ := bcell hb1; have hs1 := hb1.size; (try simp at hs1); (try have hz1 : w.heap.size < w1.heap.size := by omega); (try have hy1 : w.heap.size + 1 < w1.heap.size := by omega); (try have hx1 := fun o => hc1 w.heap.size o (by first | omega | (simp; done) | (simp; omega))); (try have hv1 := fun o => hc1 (w.heap.size + 1) o (by first | omega | (simp; done) | (simp; omega))); rw [Hok.out])
    go_ret2
    exact ⟨rfl, (by repeat (first | exact Below.refl _ _ | assumption | (refine Below.drew ?_) | (refine Below.setCell ?_ (by first | omega | (simp; done) | (simp; omega)) _) | (refine Below.alloc ?_ (by first | omega | (simp; done) | (simp; omega)) _) | (refine Below.trans ?_ (Below.mono (by assumption) (by first | omega | (simp; done) | (simp; omega))))))⟩
  · have hbd := okR_bd hok
    have hm1 : 0 ≤ p * s := Int.mul_nonneg (by omega) (by omega)
    have hm2 : p * s ≤ 8 * 6 := Int.mul_le_mul hbd.2.1 hbd.2.2.2.1 (by omega) (by omega)
    have hm : wrap64 (2 * p * s) = 2 * p * s := by
      rw [Int.mul_assoc]
      exact IntWalk.wrap64_in _ ⟨by omega, by omega⟩
    have Hi : Hid (IntKind.i64.wrap (2 * p * s) = 2 * p * s) := by
      have hi : IntKind.i64.wrap (2 * p * s) = 2 * p * s := by
        rw [Int.mul_assoc]
        exact IntWalk.i64_in _ ⟨by omega, by omega⟩
      exact Lib.hid hi
    have Hm := Lib.hid hm
    have Hok := Lib.hid hok
    clear hok hm hm1 hm2
    go_enter Try.func26, Try.ntmps26
    go_wp2_with (first | (go_at_call 57; refine (valid_any p s c l st sk re fe ag _).mono ?_; rintro e w1 ⟨rfl, hb1⟩; obtain ⟨hc1, hf1⟩ := bcell hb1; have hs1 := hb1.size; (try simp at hs1); (try have hz1 : w.heap.size < w1.heap.size := by omega); (try have hy1 : w.heap.size + 1 < w1.heap.size := by omega); (try have hx1 := fun o => hc1 w.heap.size o (by first | omega | (simp; done) | (simp; omega))); (try have hv1 := fun o => hc1 (w.heap.size + 1) o (by first | omega | (simp; done) | (simp; omega))); rw [Hok.out]) | (go_at_call 55; refine (board_any p s c l st sk re fe ag (by unfold I64; omega) _).mono ?_; rintro e w2 ⟨rfl, hb2⟩; obtain ⟨hc2, hf2⟩ := bcell hb2; have hs2 := hb2.size; (try simp at hs2); (try have hz2 : w.heap.size < w2.heap.size := by omega); (try have hy2 : w.heap.size + 1 < w2.heap.size := by omega); (try have hx2 := fun o => hc2 w.heap.size o (by first | omega | (simp; done) | (simp; omega))); (try have hv2 := fun o => hc2 (w.heap.size + 1) o (by first | omega | (simp; done) | (simp; omega))); (try have hq21 : w1.heap.size < w2.heap.size := by omega)))
    go_region_with ((go_at_call 55; refine (board_any p s c l st sk re fe ag (by unfold I64; omega) _).mono ?_; rintro e w2 ⟨rfl, hb2⟩; obtain ⟨hc2, hf2⟩ := bcell hb2; have hs2 := hb2.size; (try simp at hs2); (try have hz2 : w.heap.size < w2.heap.size := by omega); (try have hy2 : w.heap.size + 1 < w2.heap.size := by omega); (try have hx2 := fun o => hc2 w.heap.size o (by first | omega | (simp; done) | (simp; omega))); (try have hv2 := fun o => hc2 (w.heap.size + 1) o (by first | omega | (simp; done) | (simp; omega))); (try have hq21 : w1.heap.size < w2.heap.size := by omega)))
    all_goals
      go_wp2
      go_ret2
      exact ⟨by show Ending.returned (.tuple #[.int .i64 (IntKind.i64.wrap (2 * p * s)), .int .i64 0]) = _; rw [Hi.out]; rfl, (by repeat (first | exact Below.refl _ _ | assumption | (refine Below.drew ?_) | (refine Below.setCell ?_ (by first | omega | (simp; done) | (simp; omega)) _) | (refine Below.alloc ?_ (by first | omega | (simp; done) | (simp; omega)) _) | (refine Below.trans ?_ (Below.mono (by assumption) (by first | omega | (simp; done) | (simp; omega))))))⟩
end Go.Proofs.Ytkpmocjghpeppaa
