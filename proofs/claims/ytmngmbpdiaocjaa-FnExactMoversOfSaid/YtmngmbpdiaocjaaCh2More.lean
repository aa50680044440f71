/- TotalSeeds, PitOfMove and ValidRules of the reference and of the program return the same, and so the laws on them hold. No conditions. -/
import Derived.Test.YtmngmbpdiaocjaaTotal
import Derived.IntWalk
import Derived.Deep.RegionWith
import Derived.Test.YtmngmbpdiaocjaaValid4
namespace Go.Proofs.Ytmngmbpdiaocjaa
open Go.Joins Go.ChangeShapes Go.WideShapes Go.ChangeAt Go.RowKit Go.Deep
open Go.ChangeMaps (open_string shut_string)
set_option linter.unusedVariables false



def movV (k v : Int) : Int := if k = 0 then v else 0
theorem move_cases (ok : Bool) (p player move : Int) : (ok = false ∧ moveC ok p player move = 1) ∨ (ok = true ∧ ¬ ((0 ≤ player ∧ player ≤ 1) ∧ (0 ≤ move ∧ move < p)) ∧ moveC ok p player move = 2) ∨ (ok = true ∧ (player = 0 ∨ player = 1) ∧ 0 ≤ move ∧ move < p ∧ moveC ok p player move = 0) := by
  cases ok
  · exact .inl ⟨rfl, rfl⟩
  · by_cases h : (0 ≤ player ∧ player ≤ 1) ∧ (0 ≤ move ∧ move < p)
    · exact .inr (.inr ⟨rfl, by omega, h.2.1, h.2.2, by simp [moveC, h]⟩)
    · exact .inr (.inl ⟨rfl, h, by simp [moveC, h]⟩)
theorem checkMove_any (p s c l : Int) (st sk re fe ag : Bool) (player move : Int) (w : World) :
    Calls Try.prog 113 #[.agg #[.int .i64 p, .int .i64 s, .bool st, .bool sk, .bool re, .bool fe, .bool ag, .int .i64 c, .int .i64 l], .int .i64 player, .int .i64 move] w fun e w' => e = .returned (.int .i64 (moveC (okR p s c l st ag) p player move)) ∧ Below w.heap.size w w' := by
  rcases move_cases (okR p s c l st ag) p player move with ⟨hok, hc⟩ | ⟨hok, hout, hc⟩ | ⟨hok, hpl, h0, h1, hc⟩
  · have Hok := Lib.hid hok
    have Hc := Lib.hid hc
    clear hok hc
    go_enter Try.func113, Try.ntmps113
    go_wp2_with (go_at_call 56; refine (valid_any p s c l st sk re fe ag _).mono ?_; rintro e w1 ⟨rfl, hb1⟩; obtain ⟨hc1, hf1⟩ := bcell hb1; have hs1 := hb1.size; (try simp at hs1); (try have hz1 : w.heap.size < w1.heap.size := by omega); (try have hy1 : w.heap.size + 1 < w1.heap.size := by omega); (try have hx1 := fun o => hc1 w.heap.size o (by first | omega | (simp; done) | (simp; omega))); (try have hv1 := fun o => hc1 (w.heap.size + 1) o (by first | omega | (simp; done) | (simp; omega))); rw [Hok.out])
    go_ret
    exact ⟨by rw [Hc.out]; rfl, (by repeat (first | exact Below.refl _ _ | assumption | (refine Below.drew ?_) | (refine Below.setCell ?_ (by first | omega | (simp; done) | (simp; omega)) _) | (refine Below.alloc ?_ (by first | omega | (simp; done) | (simp; omega)) _) | (refine Below.trans ?_ (Below.mono (by assumption) (by first | omega | (simp; done) | (simp; omega))))))⟩
  · have hbd := okR_bd hok
    have Hok := Lib.hid hok
    have Hc := Lib.hid hc
    clear hok hc
    by_cases h1 : player < 0
    · go_enter Try.func113, Try.ntmps113
      go_wp2_with (first | (go_at_call 56; refine (valid_any p s c l st sk re fe ag _).mono ?_; rintro e w1 ⟨rfl, hb1⟩; obtain ⟨hc1, hf1⟩ := bcell hb1; have hs1 := hb1.size; (try simp at hs1); (try have hz1 : w.heap.size < w1.heap.size := by omega); (try have hy1 : w.heap.size + 1 < w1.heap.size := by omega); (try have hx1 := fun o => hc1 w.heap.size o (by first | omega | (simp; done) | (simp; omega))); (try have hv1 := fun o => hc1 (w.heap.size + 1) o (by first | omega | (simp; done) | (simp; omega))); rw [Hok.out]) | (go_at_call 50; refine (isPlayer_b player false (by simp; omega) _).mono ?_; rintro e w' ⟨rfl, rfl⟩))
      go_ret
      exact ⟨by rw [Hc.out]; rfl, (by repeat (first | exact Below.refl _ _ | assumption | (refine Below.drew ?_) | (refine Below.setCell ?_ (by first | omega | (simp; done) | (simp; omega)) _) | (refine Below.alloc ?_ (by first | omega | (simp; done) | (simp; omega)) _) | (refine Below.trans ?_ (Below.mono (by assumption) (by first | omega | (simp; done) | (simp; omega))))))⟩
    · by_cases h2 : 1 < player
      · go_enter Try.func113, Try.ntmps113
        go_wp2_with (first | (go_at_call 56; refine (valid_any p s c l st sk re fe ag _).mono ?_; rintro e w1 ⟨rfl, hb1⟩; obtain ⟨hc1, hf1⟩ := bcell hb1; have hs1 := hb1.size; (try simp at hs1); (try have hz1 : w.heap.size < w1.heap.size := by omega); (try have hy1 : w.heap.size + 1 < w1.heap.size := by omega); (try have hx1 := fun o => hc1 w.heap.size o (by first | omega | (simp; done) | (simp; omega))); (try have hv1 := fun o => hc1 (w.heap.size + 1) o (by first | omega | (simp; done) | (simp; omega))); rw [Hok.out]) | (go_at_call 50; refine (isPlayer_b player false (by simp; omega) _).mono ?_; rintro e w' ⟨rfl, rfl⟩))
        go_ret
        exact ⟨by rw [Hc.out]; rfl, (by repeat (first | exact Below.refl _ _ | assumption | (refine Below.drew ?_) | (refine Below.setCell ?_ (by first | omega | (simp; done) | (simp; omega)) _) | (refine Below.alloc ?_ (by first | omega | (simp; done) | (simp; omega)) _) | (refine Below.trans ?_ (Below.mono (by assumption) (by first | omega | (simp; done) | (simp; omega))))))⟩
      · by_cases h3 : move < 0
        · go_enter Try.func113, Try.ntmps113
          go_wp2_with (first | (go_at_call 56; refine (valid_any p s c l st sk re fe ag _).mono ?_; rintro e w1 ⟨rfl, hb1⟩; obtain ⟨hc1, hf1⟩ := bcell hb1; have hs1 := hb1.size; (try simp at hs1); (try have hz1 : w.heap.size < w1.heap.size := by omega); (try have hy1 : w.heap.size + 1 < w1.heap.size := by omega); (try have hx1 := fun o => hc1 w.heap.size o (by first | omega | (simp; done) | (simp; omega))); (try have hv1 := fun o => hc1 (w.heap.size + 1) o (by first | omega | (simp; done) | (simp; omega))); rw [Hok.out]) | (go_at_call 50; refine (isPlayer_b player true (by simp; omega) _).mono ?_; rintro e w' ⟨rfl, rfl⟩))
          go_ret
          exact ⟨by rw [Hc.out]; rfl, (by repeat (first | exact Below.refl _ _ | assumption | (refine Below.drew ?_) | (refine Below.setCell ?_ (by first | omega | (simp; done) | (simp; omega)) _) | (refine Below.alloc ?_ (by first | omega | (simp; done) | (simp; omega)) _) | (refine Below.trans ?_ (Below.mono (by assumption) (by first | omega | (simp; done) | (simp; omega))))))⟩
        · have h4 : p ≤ move := by omega
          go_enter Try.func113, Try.ntmps113
          go_wp2_with (first | (go_at_call 56; refine (valid_any p s c l st sk re fe ag _).mono ?_; rintro e w1 ⟨rfl, hb1⟩; obtain ⟨hc1, hf1⟩ := bcell hb1; have hs1 := hb1.size; (try simp at hs1); (try have hz1 : w.heap.size < w1.heap.size := by omega); (try have hy1 : w.heap.size + 1 < w1.heap.size := by omega); (try have hx1 := fun o => hc1 w.heap.size o (by first | omega | (simp; done) | (simp; omega))); (try have hv1 := fun o => hc1 (w.heap.size + 1) o (by first | omega | (simp; done) | (simp; omega))); rw [Hok.out]) | (go_at_call 50; refine (isPlayer_b player true (by simp; omega) _).mono ?_; rintro e w' ⟨rfl, rfl⟩))
          go_ret
          exact ⟨by rw [Hc.out]; rfl, (by repeat (first | exact Below.refl _ _ | assumption | (refine Below.drew ?_) | (refine Below.setCell ?_ (by first | omega | (simp; done) | (simp; omega)) _) | (refine Below.alloc ?_ (by first | omega | (simp; done) | (simp; omega)) _) | (refine Below.trans ?_ (Below.mono (by assumption) (by first | omega | (simp; done) | (simp; omega))))))⟩
  · have hbd := okR_bd hok
    have Hok := Lib.hid hok
    have Hc := Lib.hid hc
    clear hok hc
    have hp0 : 0 ≤ player := by omega
    have hp1 : player ≤ 1 := by omega
    clear hpl
    go_enter Try.func113, Try.ntmps113
    go_wp2_with (first | (go_at_call 56; refine (valid_any p s c l st sk re fe ag _).mono ?_; rintro e w1 ⟨rfl, hb1⟩; obtain ⟨hc1, hf1⟩ := bcell hb1; have hs1 := hb1.size; (try simp at hs1); (try have hz1 : w.heap.size < w1.heap.size := by omega); (try have hy1 : w.heap.size + 1 < w1.heap.size := by omega); (try have hx1 := fun o => hc1 w.heap.size o (by first | omega | (simp; done) | (simp; omega))); (try have hv1 := fun o => hc1 (w.heap.size + 1) o (by first | omega | (simp; done) | (simp; omega))); rw [Hok.out]) | (go_at_call 50; refine (isPlayer_b player true (by simp; omega) _).mono ?_; rintro e w' ⟨rfl, rfl⟩))
    go_ret
    exact ⟨by rw [Hc.out]; rfl, (by repeat (first | exact Below.refl _ _ | assumption | (refine Below.drew ?_) | (refine Below.setCell ?_ (by first | omega | (simp; done) | (simp; omega)) _) | (refine Below.alloc ?_ (by first | omega | (simp; done) | (simp; omega)) _) | (refine Below.trans ?_ (Below.mono (by assumption) (by first | omega | (simp; done) | (simp; omega))))))⟩

theorem impl_pitof (p s c l : Int) (st sk re fe ag : Bool) (player move : Int) (w : World) :
    Calls Try.prog 99 #[.agg #[.int .i64 p, .int .i64 s, .bool st, .bool sk, .bool re, .bool fe, .bool ag, .int .i64 c, .int .i64 l], .int .i64 player, .int .i64 move] w fun e w' => e = .returned (.tuple #[.int .i64 (movV (moveC (okR p s c l st ag) p player move) (player * p + move)), .int .i64 (moveC (okR p s c l st ag) p player move)]) ∧ Below w.heap.size w w' := by
  rcases move_cases (okR p s c l st ag) p player move with ⟨hok, hc⟩ | ⟨hok, hout, hc⟩ | ⟨hok, hpl, h0, h1, hc⟩
  · have Hc := Lib.hid hc
    clear hok hc
    go_enter Try.func99, Try.ntmps99
    go_wp2_with (go_at_call 113; refine (checkMove_any p s c l st sk re fe ag _ _ _).mono ?_; rintro e w1 ⟨rfl, hb1⟩; obtain ⟨hc1, hf1⟩ := bcell hb1; have hs1 := hb1.size; (try simp at hs1); (try have hz1 : w.heap.size < w1.heap.size := by omega); (try have hy1 : w.heap.size + 1 < w1.heap.size := by omega); (try have hx1 := fun o => hc1 w.heap.size o (by first | omega | (simp; done) | (simp; omega))); (try have hv1 := fun o => hc1 (w.heap.size + 1) o (by first | omega | (simp; done) | (simp; omega))); rw [Hc.out])
    go_ret2
    exact ⟨by rw [Hc.out]; rfl, (by repeat (first | exact Below.refl _ _ | assumption | (refine Below.drew ?_) | (refine Below.setCell ?_ (by first | omega | (simp; done) | (simp; omega)) _) | (refine Below.alloc ?_ (by first | omega | (simp; done) | (simp; omega)) _) | (refine Below.trans ?_ (Below.mono (by assumption) (by first | omega | (simp; done) | (simp; omega))))))⟩
  · have Hc := Lib.hid hc
    clear hok hc hout
    go_enter Try.func99, Try.ntmps99
    go_wp2_with (go_at_call 113; refine (checkMove_any p s c l st sk re fe ag _ _ _).mono ?_; rintro e w1 ⟨rfl, hb1⟩; obtain ⟨hc1, hf1⟩ := bcell hb1; have hs1 := hb1.size; (try simp at hs1); (try have hz1 : w.heap.size < w1.heap.size := by omega); (try have hy1 : w.heap.size + 1 < w1.heap.size := by omega); (try have hx1 := fun o => hc1 w.heap.size o (by first | omega | (simp; done) | (simp; omega))); (try have hv1 := fun o => hc1 (w.heap.size + 1) o (by first | omega | (simp; done) | (simp; omega))); rw [Hc.out])
    go_ret2
    exact ⟨by rw [Hc.out]; rfl, (by repeat (first | exact Below.refl _ _ | assumption | (refine Below.drew ?_) | (refine Below.setCell ?_ (by first | omega | (simp; done) | (simp; omega)) _) | (refine Below.alloc ?_ (by first | omega | (simp; done) | (simp; omega)) _) | (refine Below.trans ?_ (Below.mono (by assumption) (by first | omega | (simp; done) | (simp; omega))))))⟩
  · have hbd := okR_bd hok
    have Hc := Lib.hid hc
    clear hok hc
    rcases hpl with rfl | rfl
    all_goals
      go_enter Try.func99, Try.ntmps99
      go_wp2_with (go_at_call 113; refine (checkMove_any p s c l st sk re fe ag _ _ _).mono ?_; rintro e w1 ⟨rfl, hb1⟩; obtain ⟨hc1, hf1⟩ := bcell hb1; have hs1 := hb1.size; (try simp at hs1); (try have hz1 : w.heap.size < w1.heap.size := by omega); (try have hy1 : w.heap.size + 1 < w1.heap.size := by omega); (try have hx1 := fun o => hc1 w.heap.size o (by first | omega | (simp; done) | (simp; omega))); (try have hv1 := fun o => hc1 (w.heap.size + 1) o (by first | omega | (simp; done) | (simp; omega))); rw [Hc.out])
      go_ret2
      exact ⟨by rw [Hc.out]; simp [movV], (by repeat (first | exact Below.refl _ _ | assumption | (refine Below.drew ?_) | (refine Below.setCell ?_ (by first | omega | (simp; done) | (simp; omega)) _) | (refine Below.alloc ?_ (by first | omega | (simp; done) | (simp; omega)) _) | (refine Below.trans ?_ (Below.mono (by assumption) (by first | omega | (simp; done) | (simp; omega))))))⟩

end Go.Proofs.Ytmngmbpdiaocjaa
