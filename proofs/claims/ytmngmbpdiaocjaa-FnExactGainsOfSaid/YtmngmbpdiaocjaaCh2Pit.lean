/- OwnerOf, NextPit, OppositePit and MoveOfPit of the reference and of the program return the same value and code, and so the laws on them hold. No conditions. -/
import Derived.Test.YtmngmbpdiaocjaaCh2
namespace Go.Proofs.Ytmngmbpdiaocjaa
open Go.Joins Go.ChangeShapes Go.WideShapes Go.ChangeAt Go.RowKit Go.Deep
open Go.ChangeMaps (open_string shut_string)
set_option linter.unusedVariables false

/-- The value beside a code. -/
def pitV (k v : Int) : Int := if k = 0 then v else 0



theorem impl_opposite (p s c l : Int) (st sk re fe ag : Bool) (pit : Int) (w : World) :
    Calls Try.prog 115 #[.agg #[.int .i64 p, .int .i64 s, .bool st, .bool sk, .bool re, .bool fe, .bool ag, .int .i64 c, .int .i64 l], .int .i64 pit] w fun e w' => e = .returned (.tuple #[.int .i64 (pitV (pitC (okR p s c l st ag) p pit) (2 * p - 1 - pit)), .int .i64 (pitC (okR p s c l st ag) p pit)]) ∧ Below w.heap.size w w' := by
  rcases pit_cases (okR p s c l st ag) p pit with ⟨hok, hc⟩ | ⟨hok, hout, hc⟩ | ⟨hok, h0, h1, hc⟩
  · have Hc := Lib.hid hc
    clear hok hc
    go_enter Try.func115, Try.ntmps115
    go_wp2_with (go_at_call 117; refine (checkPit_any p s c l st sk re fe ag _ _).mono ?_; rintro e w1 ⟨rfl, hb1⟩; obtain ⟨hc1, hf1⟩ := bcell hb1; have hs1 := hb1.size; (try simp at hs1); (try have hz1 : w.heap.size < w1.heap.size := by omega); (try have hy1 : w.heap.size + 1 < w1.heap.size := by omega); (try have hx1 := fun o => hc1 w.heap.size o (by first | omega | (simp; done) | (simp; omega))); (try have hv1 := fun o => hc1 (w.heap.size + 1) o (by first | omega | (simp; done) | (simp; omega))); rw [Hc.out])
    go_ret2
    exact ⟨by rw [Hc.out]; rfl, (by repeat (first | exact Below.refl _ _ | assumption | (refine Below.drew ?_) | (refine Below.setCell ?_ (by first | omega | (simp; done) | (simp; omega)) _) | (refine Below.alloc ?_ (by first | omega | (simp; done) | (simp; omega)) _) | (refine Below.trans ?_ (Below.mono (by assumption) (by first | omega | (simp; done) | (simp; omega))))))⟩
  · have Hc := Lib.hid hc
    clear hok hc
    go_enter Try.func115, Try.ntmps115
    go_wp2_with (go_at_call 117; refine (checkPit_any p s c l st sk re fe ag _ _).mono ?_; rintro e w1 ⟨rfl, hb1⟩; obtain ⟨hc1, hf1⟩ := bcell hb1; have hs1 := hb1.size; (try simp at hs1); (try have hz1 : w.heap.size < w1.heap.size := by omega); (try have hy1 : w.heap.size + 1 < w1.heap.size := by omega); (try have hx1 := fun o => hc1 w.heap.size o (by first | omega | (simp; done) | (simp; omega))); (try have hv1 := fun o => hc1 (w.heap.size + 1) o (by first | omega | (simp; done) | (simp; omega))); rw [Hc.out])
    go_ret2
    exact ⟨by rw [Hc.out]; rfl, (by repeat (first | exact Below.refl _ _ | assumption | (refine Below.drew ?_) | (refine Below.setCell ?_ (by first | omega | (simp; done) | (simp; omega)) _) | (refine Below.alloc ?_ (by first | omega | (simp; done) | (simp; omega)) _) | (refine Below.trans ?_ (Below.mono (by assumption) (by first | omega | (simp; done) | (simp; omega))))))⟩
  · have hbd := okR_bd hok
    have Hc := Lib.hid hc
    clear hok hc
    go_enter Try.func115, Try.ntmps115
    go_wp2_with (first | (go_at_call 117; refine (checkPit_any p s c l st sk re fe ag _ _).mono ?_; rintro e w1 ⟨rfl, hb1⟩; obtain ⟨hc1, hf1⟩ := bcell hb1; have hs1 := hb1.size; (try simp at hs1); (try have hz1 : w.heap.size < w1.heap.size := by omega); (try have hy1 : w.heap.size + 1 < w1.heap.size := by omega); (try have hx1 := fun o => hc1 w.heap.size o (by first | omega | (simp; done) | (simp; omega))); (try have hv1 := fun o => hc1 (w.heap.size + 1) o (by first | omega | (simp; done) | (simp; omega))); rw [Hc.out]) | (go_at_call 57; refine (board_any p s c l st sk re fe ag (by unfold I64; omega) _).mono ?_; rintro e w2 ⟨rfl, hb2⟩; obtain ⟨hc2, hf2⟩ := bcell hb2; have hs2 := hb2.size; (try simp at hs2); (try have hz2 : w.heap.size < w2.heap.size := by omega); (try have hy2 : w.heap.size + 1 < w2.heap.size := by omega); (try have hx2 := fun o => hc2 w.heap.size o (by first | omega | (simp; done) | (simp; omega))); (try have hv2 := fun o => hc2 (w.heap.size + 1) o (by first | omega | (simp; done) | (simp; omega))); (try have hq21 : w1.heap.size < w2.heap.size := by omega)))
    go_ret2
    exact ⟨by rw [Hc.out]; rfl, (by repeat (first | exact Below.refl _ _ | assumption | (refine Below.drew ?_) | (refine Below.setCell ?_ (by first | omega | (simp; done) | (simp; omega)) _) | (refine Below.alloc ?_ (by first | omega | (simp; done) | (simp; omega)) _) | (refine Below.trans ?_ (Below.mono (by assumption) (by first | omega | (simp; done) | (simp; omega))))))⟩


end Go.Proofs.Ytmngmbpdiaocjaa
