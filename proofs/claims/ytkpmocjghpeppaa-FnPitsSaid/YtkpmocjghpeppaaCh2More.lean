/- TotalSeeds, PitOfMove and ValidRules of the reference and of the program return the same, and so the laws on them hold. No conditions. -/
import Derived.Test.YtkpmocjghpeppaaTotal
import Derived.IntWalk
import Derived.Deep.RegionWith
import Derived.Test.YtkpmocjghpeppaaValid4
namespace Go.Proofs.Ytkpmocjghpeppaa
open Go.Joins Go.ChangeShapes Go.WideShapes Go.ChangeAt Go.RowKit Go.Deep
open Go.ChangeMaps (open_string shut_string)
set_option linter.unusedVariables false



def movV (k v : Int) : Int := if k = 0 then v else 0
theorem move_cases (ok : Bool) (p player move : Int) : (ok = false ∧ moveC ok p player move = 1) ∨ (ok = true ∧ ¬ ((0 ≤ player ∧ player ≤ 1) ∧ (0 ≤ move ∧ move < p)) ∧ moveC ok p player move = 2) ∨ (ok = true ∧ (player = 0 ∨ player = 1) ∧ 0 ≤ move ∧ move < p ∧ moveC ok p player move = 0) := by
  cases ok
  · exact .inl ⟨rfl, rfl⟩
  · by_cases h : (0 ≤ player ∧ player ≤ 1) ∧ (0 ≤ move ∧ move < p)
    · exact .inr (.inr ⟨rfl, by omega, h.2.1, h.2.2, by simp [moveC, h]⟩)
    · exact .inr (.inl ⟨rfl, h, by simp [moveC, h]⟩)
theorem checkMove_any (p s c l : Int) (st sk re fe ag : Bool) (player move : Int) (w : World) :
    Calls Try.prog 56 #[.agg #[.int .i64 p, .int .i64 s, .bool st, .bool sk, .bool re, .bool fe, .bool ag, .int .i64 c, .int .i64 l], .int .i64 player, .int .i64 move] w fun e w' => e = .returned (.int .i64 (moveC (okR p s c l st ag) p player move)) ∧ Below w.heap.size w w' := by
  rcases move_cases (okR p s c l st ag) p player move with ⟨hok, hc⟩ | ⟨hok, hout, hc⟩ | ⟨hok, hpl, h0, h1, hc⟩
  · have Hok := Lib.hid hok
    have Hc := Lib.hid hc
    clear hok hc
    go_enter Try.func56, Try.ntmps56
    go_wp2_with (go_at_call 57; refine (valid_any p s c l st sk re fe ag _).mono ?_; rintro e w1 ⟨rfl, hb1⟩; obtain ⟨hc1, hf1⟩ := bcell hb1; have hs1 := hb1.size; (try simp at hs1); (try have hz1 : w.heap.size < w1.heap.size := by omega); (try have hy1 : w.heap.size + 1 < w1.heap.size := by omega); (try have hx1 := fun o => hc1 w.heap.size o (by first | omega | (simp; done) | (simp; omega))); (try have hv1 := fun o => hc1 (w.heap.size + 1) o (by first | omega | (simp; done) | (simp; omega))); rw [Hok.out])
    go_ret
    exact ⟨by rw [Hc.out]; rfl, (by repeat (first | exact Below.refl _ _ | assumption | (refine Below.drew ?_) | (refine Below.setCell ?_ (by first | omega | (simp; done) | (simp; omega)) _) | (refine Below.alloc ?_ (by first | omega | (simp; done) | (simp; omega)) _) | (refine Below.trans ?_ (Below.mono (by assumption) (by first | omega | (simp; done) | (simp; omega))))))⟩
  · have hbd := okR_bd hok
    have Hok := Lib.hid hok
    have Hc := Lib.hid hc
    clear hok hc
    by_cases h1 : player < 0
    · go_enter Try.func56, Try.ntmps56
      go_wp2_with (first | (go_at_call 57; refine (valid_any p s c l st sk re fe ag _).mono ?_; rintro e w1 ⟨rfl, hb1⟩; obtain ⟨hc1, hf1⟩ := bcell hb1; have hs1 := hb1.size; (try simp at hs1); (try have hz1 : w.heap.size < w1.heap.size := by omega); (try have hy1 : w.heap.size + 1 < w1.heap.size := by omega); (try have hx1 := fun o => hc1 w.heap.size o (by first | omega | (simp; done) | (simp; omega))); (try have hv1 := fun o => hc1 (w.heap.size + 1) o (by first | omega | (simp; done) | (simp; omega))); rw [Hok.out]) | (go_at_call 71; refine (isPlayer_b player false (by simp; omega) _).mono ?_; rintro e w' ⟨rfl, rfl⟩))
      go_ret
      exact ⟨by rw [Hc.out]; rfl, (by repeat (first | exact Below.refl _ _ | assumption | (refine Below.drew ?_) | (refine Below.setCell ?_ (by first | omega | (simp; done) | (simp; omega)) _) | (refine Below.alloc ?_ (by first | omega | (simp; done) | (simp; omega)) _) | (refine Below.trans ?_ (Below.mono (by assumption) (by first | omega | (simp; done) | (simp; omega))))))⟩
    · by_cases h2 : 1 < player
      · go_enter Try.func56, Try.ntmps56
        go_wp2_with (first | (go_at_call 57; refine (valid_any p s c l st sk re fe ag _).mono ?_; rintro e w1 ⟨rfl, hb1⟩; obtain ⟨hc1, hf1⟩ := bcell hb1; have hs1 := hb1.size; (try simp at hs1); (try have hz1 : w.heap.size < w1.heap.size := by omega); (try have hy1 : w.heap.size + 1 < w1.heap.size := by omega); (try have hx1 := fun o => hc1 w.heap.size o (by first | omega | (simp; done) | (simp; omega))); (try have hv1 := fun o => hc1 (w.heap.size + 1) o (by first | omega | (simp; done) | (simp; omega))); rw [Hok.out]) | (go_at_call 71; refine (isPlayer_b player false (by simp; omega) _).mono ?_; rintro e w' ⟨rfl, rfl⟩))
        go_ret
        exact ⟨by rw [Hc.out]; rfl, (by repeat (first | exact Below.refl _ _ | assumption | (refine Below.drew ?_) | (refine Below.setCell ?_ (by first | omega | (simp; done) | (simp; omega)) _) | (refine Below.alloc ?_ (by first | omega | (simp; done) | (simp; omega)) _) | (refine Below.trans ?_ (Below.mono (by assumption) (by first | omega | (simp; done) | (simp; omega))))))⟩
      · by_cases h3 : move < 0
        · go_enter Try.func56, Try.ntmps56
          go_wp2_with (first | (go_at_call 57; refine (valid_any p s c l st sk re fe ag _).mono ?_; rintro e w1 ⟨rfl, hb1⟩; obtain ⟨hc1, hf1⟩ := bcell hb1; have hs1 := hb1.size; (try simp at hs1); (try have hz1 : w.heap.size < w1.heap.size := by omega); (try have hy1 : w.heap.size + 1 < w1.heap.size := by omega); (try have hx1 := fun o => hc1 w.heap.size o (by first | omega | (simp; done) | (simp; omega))); (try have hv1 := fun o => hc1 (w.heap.size + 1) o (by first | omega | (simp; done) | (simp; omega))); rw [Hok.out]) | (go_at_call 71; refine (isPlayer_b player true (by simp; omega) _).mono ?_; rintro e w' ⟨rfl, rfl⟩))
          go_ret
          exact ⟨by rw [Hc.out]; rfl, (by repeat (first | exact Below.refl _ _ | assumption | (refine Below.drew ?_) | (refine Below.setCell ?_ (by first | omega | (simp; done) | (simp; omega)) _) | (refine Below.alloc ?_ (by first | omega | (simp; done) | (simp; omega)) _) | (refine Below.trans ?_ (Below.mono (by assumption) (by first | omega | (simp; done) | (simp; omega))))))⟩
        · have h4 : p ≤ move := by omega
          go_enter Try.func56, Try.ntmps56
          go_wp2_with (first | (go_at_call 57; refine (valid_any p s c l st sk re fe ag _).mono ?_; rintro e w1 ⟨rfl, hb1⟩; obtain ⟨hc1, hf1⟩ := bcell hb1; have hs1 := hb1.size; (try simp at hs1); (try have hz1 : w.heap.size < w1.heap.size := by omega); (try have hy1 : w.heap.size + 1 < w1.heap.size := by omega); (try have hx1 := fun o => hc1 w.heap.size o (by first | omega | (simp; done) | (simp; omega))); (try have hv1 := fun o => hc1 (w.heap.size + 1) o (by first | omega | (simp; done) | (simp; omega))); rw [Hok.out]) | (go_at_call 71; refine (isPlayer_b player true (by simp; omega) _).mono ?_; rintro e w' ⟨rfl, rfl⟩))
          go_ret
          exact ⟨by rw [Hc.out]; rfl, (by repeat (first | exact Below.refl _ _ | assumption | (refine Below.drew ?_) | (refine Below.setCell ?_ (by first | omega | (simp; done) | (simp; omega)) _) | (refine Below.alloc ?_ (by first | omega | (simp; done) | (simp; omega)) _) | (refine Below.trans ?_ (Below.mono (by assumption) (by first | omega | (simp; done) | (simp; omega))))))⟩
  · have hbd := okR_bd hok
    have Hok := Lib.hid hok
    have Hc := Lib.hid hc
    clear hok hc
    have hp0 : 0 ≤ player := by omega
    have hp1 : player ≤ 1 := by omega
    clear hpl
    go_enter Try.func56, Try.ntmps56
    go_wp2_with (first | (go_at_call 57; refine (valid_any p s c l st sk re fe ag _).mono ?_; rintro e w1 ⟨rfl, hb1⟩; obtain ⟨hc1, hf1⟩ := bcell hb1; have hs1 := hb1.size; (try simp at hs1); (try have hz1 : w.heap.size < w1.heap.size := by omega); (try have hy1 : w.heap.size + 1 < w1.heap.size := by omega); (try have hx1 := fun o => hc1 w.heap.size o (by first | omega | (simp; done) | (simp; omega))); (try have hv1 := fun o => hc1 (w.heap.size + 1) o (by first | omega | (simp; done) | (simp; omega))); rw [Hok.out]) | (go_at_call 71; refine (isPlayer_b player true (by simp; omega) _).mono ?_; rintro e w' ⟨rfl, rfl⟩))
    go_ret
    exact ⟨by rw [Hc.out]; rfl, (by repeat (first | exact Below.refl _ _ | assumption | (refine Below.drew ?_) | (refine Below.setCell ?_ (by first | omega | (simp; done) | (simp; omega)) _) | (refine Below.alloc ?_ (by first | omega | (simp; done) | (simp; omega)) _) | (refine Below.trans ?_ (Below.mono (by assumption) (by first | omega | (simp; done) | (simp; omega))))))⟩

theorem spec_pitof (p s c l : Int) (st sk re fe ag : Bool) (player move : Int) (w : World) :
    Calls Try.prog 33 #[.agg #[.int .i64 p, .int .i64 s, .bool st, .bool sk, .bool re, .bool fe, .bool ag, .int .i64 c, .int .i64 l], .int .i64 player, .int .i64 move] w fun e w' => e = .returned (.tuple #[.int .i64 (movV (moveC (okR p s c l st ag) p player move) (player * p + move)), .int .i64 (moveC (okR p s c l st ag) p player move)]) ∧ Below w.heap.size w w' := by
  rcases move_cases (okR p s c l st ag) p player move with ⟨hok, hc⟩ | ⟨hok, hout, hc⟩ | ⟨hok, hpl, h0, h1, hc⟩
  · have Hok := Lib.hid hok
    have Hc := Lib.hid hc
    clear hok hc
    go_enter Try.func33, Try.ntmps33
    go_wp2_with (go_at_call 59; refine (l02Ok_any p s c l st sk re fe ag _ _ (by go_simp) (by go_simp) (by go_simp) (by go_simp) (by go_simp) (by go_simp) (by go_simp) (by go_simp) (by go_simp)).mono ?_; rintro e w' ⟨rfl, rfl⟩; rw [Hok.out])
    go_ret2
    exact ⟨by rw [Hc.out]; rfl, (by repeat (first | exact Below.refl _ _ | assumption | (refine Below.drew ?_) | (refine Below.setCell ?_ (by first | omega | (simp; done) | (simp; omega)) _) | (refine Below.alloc ?_ (by first | omega | (simp; done) | (simp; omega)) _) | (refine Below.trans ?_ (Below.mono (by assumption) (by first | omega | (simp; done) | (simp; omega))))))⟩
  · have hbd := okR_bd hok
    have Hok := Lib.hid hok
    have Hc := Lib.hid hc
    clear hok hc
    by_cases h1 : 0 ≤ player ∧ player ≤ 1
    · have hno : (decide (0 ≤ move) && decide (move ≤ p - 1)) = false := by simp; omega
      have Hno := Lib.hid hno
      clear hno hout
      obtain ⟨hp0, hp1⟩ := h1
      go_enter Try.func33, Try.ntmps33
      go_wp2_with (first | (go_at_call 59; refine (l02Ok_any p s c l st sk re fe ag _ _ (by go_simp) (by go_simp) (by go_simp) (by go_simp) (by go_simp) (by go_simp) (by go_simp) (by go_simp) (by go_simp)).mono ?_; rintro e w' ⟨rfl, rfl⟩; rw [Hok.out]) | (go_at_call_of 68 (Value.int IntKind.i64 player); refine (in_b _ _ _ true (by simp; omega) _).mono ?_; rintro e w' ⟨rfl, rfl⟩) | (go_at_call_of 68 (Value.int IntKind.i64 move); refine (in_b _ _ _ false Hno.out _).mono ?_; rintro e w' ⟨rfl, rfl⟩))
      go_ret2
      exact ⟨by rw [Hc.out]; rfl, (by repeat (first | exact Below.refl _ _ | assumption | (refine Below.drew ?_) | (refine Below.setCell ?_ (by first | omega | (simp; done) | (simp; omega)) _) | (refine Below.alloc ?_ (by first | omega | (simp; done) | (simp; omega)) _) | (refine Below.trans ?_ (Below.mono (by assumption) (by first | omega | (simp; done) | (simp; omega))))))⟩
    · have hno : (decide (0 ≤ player) && decide (player ≤ 1)) = false := by simp; omega
      have Hno := Lib.hid hno
      clear hno hout h1
      go_enter Try.func33, Try.ntmps33
      go_wp2_with (first | (go_at_call 59; refine (l02Ok_any p s c l st sk re fe ag _ _ (by go_simp) (by go_simp) (by go_simp) (by go_simp) (by go_simp) (by go_simp) (by go_simp) (by go_simp) (by go_simp)).mono ?_; rintro e w' ⟨rfl, rfl⟩; rw [Hok.out]) | (go_at_call 68; refine (in_b _ _ _ false Hno.out _).mono ?_; rintro e w' ⟨rfl, rfl⟩))
      go_ret2
      exact ⟨by rw [Hc.out]; rfl, (by repeat (first | exact Below.refl _ _ | assumption | (refine Below.drew ?_) | (refine Below.setCell ?_ (by first | omega | (simp; done) | (simp; omega)) _) | (refine Below.alloc ?_ (by first | omega | (simp; done) | (simp; omega)) _) | (refine Below.trans ?_ (Below.mono (by assumption) (by first | omega | (simp; done) | (simp; omega))))))⟩
  · have hbd := okR_bd hok
    have Hok := Lib.hid hok
    have Hc := Lib.hid hc
    clear hok hc
    rcases hpl with rfl | rfl
    all_goals
      go_enter Try.func33, Try.ntmps33
      go_wp2_with (first | (go_at_call 59; refine (l02Ok_any p s c l st sk re fe ag _ _ (by go_simp) (by go_simp) (by go_simp) (by go_simp) (by go_simp) (by go_simp) (by go_simp) (by go_simp) (by go_simp)).mono ?_; rintro e w' ⟨rfl, rfl⟩; rw [Hok.out]) | (go_at_call 68; refine (in_b _ _ _ true (by simp <;> omega) _).mono ?_; rintro e w' ⟨rfl, rfl⟩))
      go_ret2
      exact ⟨by rw [Hc.out]; simp [movV], (by repeat (first | exact Below.refl _ _ | assumption | (refine Below.drew ?_) | (refine Below.setCell ?_ (by first | omega | (simp; done) | (simp; omega)) _) | (refine Below.alloc ?_ (by first | omega | (simp; done) | (simp; omega)) _) | (refine Below.trans ?_ (Below.mono (by assumption) (by first | omega | (simp; done) | (simp; omega))))))⟩

theorem impl_pitof (p s c l : Int) (st sk re fe ag : Bool) (player move : Int) (w : World) :
    Calls Try.prog 20 #[.agg #[.int .i64 p, .int .i64 s, .bool st, .bool sk, .bool re, .bool fe, .bool ag, .int .i64 c, .int .i64 l], .int .i64 player, .int .i64 move] w fun e w' => e = .returned (.tuple #[.int .i64 (movV (moveC (okR p s c l st ag) p player move) (player * p + move)), .int .i64 (moveC (okR p s c l st ag) p player move)]) ∧ Below w.heap.size w w' := by
  rcases move_cases (okR p s c l st ag) p player move with ⟨hok, hc⟩ | ⟨hok, hout, hc⟩ | ⟨hok, hpl, h0, h1, hc⟩
  · have Hc := Lib.hid hc
    clear hok hc
    go_enter Try.func20, Try.ntmps20
    go_wp2_with (go_at_call 56; refine (checkMove_any p s c l st sk re fe ag _ _ _).mono ?_; rintro e w1 ⟨rfl, hb1⟩; obtain ⟨hc1, hf1⟩ := bcell hb1; have hs1 := hb1.size; (try simp at hs1); (try have hz1 : w.heap.size < w1.heap.size := by omega); (try have hy1 : w.heap.size + 1 < w1.heap.size := by omega); (try have hx1 := fun o => hc1 w.heap.size o (by first | omega | (simp; done) | (simp; omega))); (try have hv1 := fun o => hc1 (w.heap.size + 1) o (by first | omega | (simp; done) | (simp; omega))); rw [Hc.out])
    go_ret2
    exact ⟨by rw [Hc.out]; rfl, (by repeat (first | exact Below.refl _ _ | assumption | (refine Below.drew ?_) | (refine Below.setCell ?_ (by first | omega | (simp; done) | (simp; omega)) _) | (refine Below.alloc ?_ (by first | omega | (simp; done) | (simp; omega)) _) | (refine Below.trans ?_ (Below.mono (by assumption) (by first | omega | (simp; done) | (simp; omega))))))⟩
  · have Hc := Lib.hid hc
    clear hok hc hout
    go_enter Try.func20, Try.ntmps20
    go_wp2_with (go_at_call 56; refine (checkMove_any p s c l st sk re fe ag _ _ _).mono ?_; rintro e w1 ⟨rfl, hb1⟩; obtain ⟨hc1, hf1⟩ := bcell hb1; have hs1 := hb1.size; (try simp at hs1); (try have hz1 : w.heap.size < w1.heap.size := by omega); (try have hy1 : w.heap.size + 1 < w1.heap.size := by omega); (try have hx1 := fun o => hc1 w.heap.size o (by first | omega | (simp; done) | (simp; omega))); (try have hv1 := fun o => hc1 (w.heap.size + 1) o (by first | omega | (simp; done) | (simp; omega))); rw [Hc.out])
    go_ret2
    exact ⟨by rw [Hc.out]; rfl, (by repeat (first | exact Below.refl _ _ | assumption | (refine Below.drew ?_) | (refine Below.setCell ?_ (by first | omega | (simp; done) | (simp; omega)) _) | (refine Below.alloc ?_ (by first | omega | (simp; done) | (simp; omega)) _) | (refine Below.trans ?_ (Below.mono (by assumption) (by first | omega | (simp; done) | (simp; omega))))))⟩
  · have hbd := okR_bd hok
    have Hc := Lib.hid hc
    clear hok hc
    rcases hpl with rfl | rfl
    all_goals
      go_enter Try.func20, Try.ntmps20
      go_wp2_with (go_at_call 56; refine (checkMove_any p s c l st sk re fe ag _ _ _).mono ?_; rintro e w1 ⟨rfl, hb1⟩; obtain ⟨hc1, hf1⟩ := bcell hb1; have hs1 := hb1.size; (try simp at hs1); (try have hz1 : w.heap.size < w1.heap.size := by omega); (try have hy1 : w.heap.size + 1 < w1.heap.size := by omega); (try have hx1 := fun o => hc1 w.heap.size o (by first | omega | (simp; done) | (simp; omega))); (try have hv1 := fun o => hc1 (w.heap.size + 1) o (by first | omega | (simp; done) | (simp; omega))); rw [Hc.out])
      go_ret2
      exact ⟨by rw [Hc.out]; simp [movV], (by repeat (first | exact Below.refl _ _ | assumption | (refine Below.drew ?_) | (refine Below.setCell ?_ (by first | omega | (simp; done) | (simp; omega)) _) | (refine Below.alloc ?_ (by first | omega | (simp; done) | (simp; omega)) _) | (refine Below.trans ?_ (Below.mono (by assumption) (by first | omega | (simp; done) | (simp; omega))))))⟩

theorem walk_FnExactPitOfMove (x : RV) (hx : x.Fit) (player : Int) (hp : I64 player) (move : Int) (hm : I64 move) (w : World) :
    Calls Try.prog 6 #[x.val, .int .i64 player, .int .i64 move] w fun e w' => e = .returned (.bool true) ∧ Below w.heap.size w w' := by
  obtain ⟨p, s, st, sk, re, fe, ag, c, l⟩ := x
  show Calls Try.prog 6 #[.agg #[.int .i64 p, .int .i64 s, .bool st, .bool sk, .bool re, .bool fe, .bool ag, .int .i64 c, .int .i64 l], .int .i64 player, .int .i64 move] w _
  generalize hv : movV (moveC (okR p s c l st ag) p player move) (player * p + move) = v
  generalize hk : moveC (okR p s c l st ag) p player move = k
  have Hv := Lib.hid hv
  have Hk := Lib.hid hk
  clear hv hk hx hp hm
  go_enter Try.func6, Try.ntmps6
  go_wp2_with (first | (go_at_call 34; refine (toRules_any p s c l st sk re fe ag _).mono ?_; rintro e w1 ⟨rfl, hb1⟩; obtain ⟨hc1, hf1⟩ := bcell hb1; have hs1 := hb1.size; (try simp at hs1); (try have hz1 : w.heap.size < w1.heap.size := by omega); (try have hy1 : w.heap.size + 1 < w1.heap.size := by omega); (try have hx1 := fun o => hc1 w.heap.size o (by first | omega | (simp; done) | (simp; omega))); (try have hv1 := fun o => hc1 (w.heap.size + 1) o (by first | omega | (simp; done) | (simp; omega)))) | (go_at_call 33; refine (spec_pitof p s c l st sk re fe ag _ _ _).mono ?_; rintro e w2 ⟨rfl, hb2⟩; obtain ⟨hc2, hf2⟩ := bcell hb2; have hs2 := hb2.size; (try simp at hs2); (try have hz2 : w.heap.size < w2.heap.size := by omega); (try have hy2 : w.heap.size + 1 < w2.heap.size := by omega); (try have hx2 := fun o => hc2 w.heap.size o (by first | omega | (simp; done) | (simp; omega))); (try have hv2 := fun o => hc2 (w.heap.size + 1) o (by first | omega | (simp; done) | (simp; omega))); (try have hq21 : w1.heap.size < w2.heap.size := by omega); rw [Hv.out, Hk.out]) | (go_at_call 20; refine (impl_pitof p s c l st sk re fe ag _ _ _).mono ?_; rintro e w3 ⟨rfl, hb3⟩; obtain ⟨hc3, hf3⟩ := bcell hb3; have hs3 := hb3.size; (try simp at hs3); (try have hz3 : w.heap.size < w3.heap.size := by omega); (try have hy3 : w.heap.size + 1 < w3.heap.size := by omega); (try have hx3 := fun o => hc3 w.heap.size o (by first | omega | (simp; done) | (simp; omega))); (try have hv3 := fun o => hc3 (w.heap.size + 1) o (by first | omega | (simp; done) | (simp; omega))); (try have hq31 : w1.heap.size < w3.heap.size := by omega); (try have hq32 : w2.heap.size < w3.heap.size := by omega); rw [Hv.out, Hk.out]))
  go_ret
  exact ⟨rfl, (by repeat (first | exact Below.refl _ _ | assumption | (refine Below.drew ?_) | (refine Below.setCell ?_ (by first | omega | (simp; done) | (simp; omega)) _) | (refine Below.alloc ?_ (by first | omega | (simp; done) | (simp; omega)) _) | (refine Below.trans ?_ (Below.mono (by assumption) (by first | omega | (simp; done) | (simp; omega))))))⟩
namespace fnExactPitOfMove
set_option maxHeartbeats 2000000 in
set_option maxRecDepth 100000 in
theorem lifted (os : Os) (started : os.Started) (H : Type) (enc : TypeId × Value → H) :
    ReturnsInHanded {} Try.checked os 6 .any (Rows.fnExactPitOfMoveSpec.pre6 enc Try.prog Try.f6 Rows.fnExactPitOfMoveRow.domain false) (Rows.fnExactPitOfMoveSpec.post enc Try.prog Try.f6 false true false false) := by
  refine returnsInHanded_of_change (C := Try.checked) own started (by kernel_rfl) Try.func6
    (ChangeSpec.witness6 (enc := enc) (C := Try.checked) false ⟨#[], #[.agg #[.int .i64 0, .int .i64 0, .bool false, .bool false, .bool false, .bool false, .bool false, .int .i64 0, .int .i64 0], .int .i64 0, .int .i64 0], []⟩ 8 (by kernel_rfl) (by kernel_rfl) (by kernel_rfl) (by kernel_rfl)) ?_
  intro W base args ds gs before hval0 hW hcnd _
  have hval : ∀ (j : Nat) t v, Try.f6.params[j]? = some t → args[j]? = some v → Value.okWide Try.prog W .any base t v := hval0
  have hW' := hW
  obtain ⟨p, q, hA0, hV, rfl, hfz, hnd⟩ := hW
  have hA : DataW.TrodAll enc Try.prog W 0 (fun _ => true) true Try.f6.params.toList args.toList ds p := hA0
  rw [Try.params6] at hA hval
  obtain ⟨v0, vs0, d0, ds0, p0, q0, hargs, rfl, rfl, h0, r0⟩ := trodAll_cons hA
  obtain ⟨v1, vs1, d1, ds1, p1, q1, rfl, rfl, rfl, h1, r1⟩ := trodAll_cons r0
  obtain ⟨v2, vs2, d2, ds2, p2, q2, rfl, rfl, rfl, h2, r2⟩ := trodAll_cons r1
  obtain ⟨rfl, rfl, rfl⟩ := trodAll_nil r2
  obtain rfl : args = #[v0, v1, v2] := by cases args; simp_all
  obtain ⟨rfl, rfl⟩ := trodVars_none hV
  have k0 := h0
  have lt0 : ∀ x ∈ p0, x.block < W.heap.size := by obtain ⟨m, hm⟩ := k0; exact DataW.trod_lt m _ _ _ hm
  obtain ⟨x0, rfl, w0⟩ := open_rules Try.underlying51 Try.underlying2 Try.underlying4 (by kernel_rfl) (by kernel_rfl) (hval 0 51 v0 rfl rfl) h0
  have k1 := h1
  have lt1 : ∀ x ∈ p1, x.block < W.heap.size := by obtain ⟨m, hm⟩ := k1; exact DataW.trod_lt m _ _ _ hm
  obtain ⟨a1, rfl, -, -, w1⟩ := open_int Try.underlying2 (hval 1 2 v1 rfl rfl) h1
  have k2 := h2
  have lt2 : ∀ x ∈ p2, x.block < W.heap.size := by obtain ⟨m, hm⟩ := k2; exact DataW.trod_lt m _ _ _ hm
  obtain ⟨a2, rfl, -, -, w2⟩ := open_int Try.underlying2 (hval 2 2 v2 rfl rfl) h2
  clear hA0 hval0
  refine (walk_FnExactPitOfMove x0 w0 a1 (wf_i64 w1) a2 (wf_i64 w2) (w := W)).mono fun e W' ⟨he, bel⟩ => ?_
  subst he
  exact ⟨_, rfl, _, _, _, [], _, [], hW', trodAll_mk1 (shut_bool Try.underlying4 _), (trodAll_cons_mk (Below.trod laidOut (by kernel_rfl) (of_decide_eq_true (by kernel_rfl)) k0 bel lt0) (trodAll_cons_mk (Below.trod laidOut (by kernel_rfl) (of_decide_eq_true (by kernel_rfl)) k1 bel lt1) (trodAll_cons_mk (Below.trod laidOut (by kernel_rfl) (of_decide_eq_true (by kernel_rfl)) k2 bel lt2) trodAll_mk0))), rfl, bel.frame _, fun h => by cases h⟩

theorem proved : Rows.FnExactPitOfMoveSaid :=
  OpenClaim.holds_of_wide 6 Try.f6 rfl rfl rfl rfl rfl rfl rfl ⟨rfl, rfl, rfl, rfl, rfl⟩ rfl rfl rfl rfl rfl (by kernel_rfl) Try.func6 (by kernel_rfl)
    (of_decide_eq_true (by kernel_rfl)) (by unfold Func.isWrapper; first | (rw [if_pos (by decide +kernel)]; kernel_rfl) | (rw [if_neg (by decide +kernel)]; exact ⟨rfl, rfl⟩))
    (fun os started H enc _ => lifted os started H enc)
end fnExactPitOfMove

end Go.Proofs.Ytkpmocjghpeppaa
