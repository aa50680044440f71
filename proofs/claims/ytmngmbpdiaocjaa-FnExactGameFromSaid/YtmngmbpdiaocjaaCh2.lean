/- What the functions of chapter 2 (of the program and of the reference) return, function by function. No conditions. -/
import Derived.Test.YtmngmbpdiaocjaaOpen
namespace Go.Proofs.Ytmngmbpdiaocjaa
open Go.Joins Go.ChangeShapes Go.WideShapes Go.ChangeAt Go.RowKit Go.Deep
set_option linter.unusedVariables false

/-- Rules are valid. -/
def okR (p s c l : Int) (st ag : Bool) : Bool :=
  decide (2 ≤ p) && decide (p ≤ 8) && decide (1 ≤ s) && decide (s ≤ 6) && decide (0 ≤ c) && decide (c ≤ 3) && decide (0 ≤ l) && decide (l ≤ 2) && (st || !ag)
theorem okR_bd {p s c l : Int} {st ag : Bool} (h : okR p s c l st ag = true) : 2 ≤ p ∧ p ≤ 8 ∧ 1 ≤ s ∧ s ≤ 6 ∧ 0 ≤ c ∧ c ≤ 3 ∧ 0 ≤ l ∧ l ≤ 2 := by
  unfold okR at h
  simp only [Bool.and_eq_true, decide_eq_true_eq] at h
  omega

theorem in_any (n lo hi : Int) (w : World) :
    Calls Try.prog 47 #[.int .i64 n, .int .i64 lo, .int .i64 hi] w fun e w' => e = .returned (.bool (decide (lo ≤ n) && decide (n ≤ hi))) ∧ w = w' := by
  go_enter Try.func47, Try.ntmps47
  go_wp2
  all_goals
    go_ret
    exact ⟨by simp [*]; try omega, rfl⟩

theorem in_b (n lo hi : Int) (r : Bool) (h : (decide (lo ≤ n) && decide (n ≤ hi)) = r) (w : World) :
    Calls Try.prog 47 #[.int .i64 n, .int .i64 lo, .int .i64 hi] w fun e w' => e = .returned (.bool r) ∧ w = w' :=
  (in_any n lo hi w).mono fun e w' ⟨he, hw⟩ => ⟨by rw [he, h], hw⟩

theorem l02Ok_any (p s c l : Int) (st sk re fe ag : Bool) (b : Nat) (w : World) (c0 : w.cell? ⟨b, 0, none⟩ = some (.int .i64 p)) (c1 : w.cell? ⟨b, 1, none⟩ = some (.int .i64 s)) (c2 : w.cell? ⟨b, 2, none⟩ = some (.bool st)) (c3 : w.cell? ⟨b, 3, none⟩ = some (.bool sk)) (c4 : w.cell? ⟨b, 4, none⟩ = some (.bool re)) (c5 : w.cell? ⟨b, 5, none⟩ = some (.bool fe)) (c6 : w.cell? ⟨b, 6, none⟩ = some (.bool ag)) (c7 : w.cell? ⟨b, 7, none⟩ = some (.int .i64 c)) (c8 : w.cell? ⟨b, 8, none⟩ = some (.int .i64 l)) :
    Calls Try.prog 53 #[.pointer (some ⟨b, 0, none⟩)] w fun e w' => e = .returned (.bool (okR p s c l st ag)) ∧ w = w' := by
  go_enter Try.func53, Try.ntmps53
  go_wp2_with (go_at_call 47; refine (in_any _ _ _ _).mono ?_; rintro e w' ⟨rfl, rfl⟩)
  all_goals
    go_ret
    exact ⟨by simp [okR, *]; try omega, rfl⟩

theorem l02Ok_b (p s c l : Int) (st sk re fe ag : Bool) (r : Bool) (h : okR p s c l st ag = r) (b : Nat) (w : World) (c0 : w.cell? ⟨b, 0, none⟩ = some (.int .i64 p)) (c1 : w.cell? ⟨b, 1, none⟩ = some (.int .i64 s)) (c2 : w.cell? ⟨b, 2, none⟩ = some (.bool st)) (c3 : w.cell? ⟨b, 3, none⟩ = some (.bool sk)) (c4 : w.cell? ⟨b, 4, none⟩ = some (.bool re)) (c5 : w.cell? ⟨b, 5, none⟩ = some (.bool fe)) (c6 : w.cell? ⟨b, 6, none⟩ = some (.bool ag)) (c7 : w.cell? ⟨b, 7, none⟩ = some (.int .i64 c)) (c8 : w.cell? ⟨b, 8, none⟩ = some (.int .i64 l)) :
    Calls Try.prog 53 #[.pointer (some ⟨b, 0, none⟩)] w fun e w' => e = .returned (.bool r) ∧ w = w' :=
  (l02Ok_any p s c l st sk re fe ag b w c0 c1 c2 c3 c4 c5 c6 c7 c8).mono fun e w' ⟨he, hw⟩ => ⟨by rw [he, h], hw⟩

theorem valid_any (p s c l : Int) (st sk re fe ag : Bool) (w : World) :
    Calls Try.prog 56 #[.agg #[.int .i64 p, .int .i64 s, .bool st, .bool sk, .bool re, .bool fe, .bool ag, .int .i64 c, .int .i64 l]] w fun e w' => e = .returned (.bool (okR p s c l st ag)) ∧ Below w.heap.size w w' := by
  go_enter Try.func56, Try.ntmps56
  go_wp2
  all_goals
    go_ret
    exact ⟨by simp [okR, *]; try omega, (Below.refl _ _).alloc (Nat.le_refl _) _⟩

theorem valid_b (p s c l : Int) (st sk re fe ag : Bool) (r : Bool) (h : okR p s c l st ag = r) (w : World) :
    Calls Try.prog 56 #[.agg #[.int .i64 p, .int .i64 s, .bool st, .bool sk, .bool re, .bool fe, .bool ag, .int .i64 c, .int .i64 l]] w fun e w' => e = .returned (.bool r) ∧ Below w.heap.size w w' :=
  (valid_any p s c l st sk re fe ag w).mono fun e w' ⟨he, hw⟩ => ⟨by rw [he, h], hw⟩

theorem board_any (p s c l : Int) (st sk re fe ag : Bool) (hp : I64 (2 * p)) (w : World) :
    Calls Try.prog 57 #[.agg #[.int .i64 p, .int .i64 s, .bool st, .bool sk, .bool re, .bool fe, .bool ag, .int .i64 c, .int .i64 l]] w fun e w' => e = .returned (.int .i64 (2 * p)) ∧ Below w.heap.size w w' := by
  unfold I64 at hp
  go_enter Try.func57, Try.ntmps57
  go_wp2
  go_ret
  exact ⟨rfl, (Below.refl _ _).alloc (Nat.le_refl _) _⟩

/-- The code of a pit. -/
def pitC (ok : Bool) (p pit : Int) : Int := if ok then (if 0 ≤ pit ∧ pit < 2 * p then 0 else 2) else 1
theorem pitC_bad (p pit : Int) : pitC false p pit = 1 := rfl
theorem pitC_out {p pit : Int} (h : ¬ (0 ≤ pit ∧ pit < 2 * p)) : pitC true p pit = 2 := by simp [pitC, h]
theorem pitC_in {p pit : Int} (h0 : 0 ≤ pit) (h1 : pit < 2 * p) : pitC true p pit = 0 := by simp [pitC, h0, h1]
/-- The code of a player and a move. -/
def moveC (ok : Bool) (p player move : Int) : Int := if ok then (if (0 ≤ player ∧ player ≤ 1) ∧ (0 ≤ move ∧ move < p) then 0 else 2) else 1

theorem toRules_any (p s c l : Int) (st sk re fe ag : Bool) (w : World) :
    Calls Try.prog 15 #[.agg #[.int .i64 p, .int .i64 s, .bool st, .bool sk, .bool re, .bool fe, .bool ag, .int .i64 c, .int .i64 l]] w fun e w' => e = .returned (.agg #[.int .i64 p, .int .i64 s, .bool st, .bool sk, .bool re, .bool fe, .bool ag, .int .i64 c, .int .i64 l]) ∧ Below w.heap.size w w' := by
  go_enter Try.func15, Try.ntmps15
  go_wp2
  exact bodyPost_ret (v := .agg #[.int .i64 p, .int .i64 s, .bool st, .bool sk, .bool re, .bool fe, .bool ag, .int .i64 c, .int .i64 l]) (by simp [results, Try.results15, go_sem]) rfl ⟨rfl, (by repeat (first | exact Below.refl _ _ | assumption | (refine Below.drew ?_) | (refine Below.setCell ?_ (by first | omega | (simp; done) | (simp; omega)) _) | (refine Below.alloc ?_ (by first | omega | (simp; done) | (simp; omega)) _) | (refine Below.trans ?_ (Below.mono (by assumption) (by first | omega | (simp; done) | (simp; omega))))))⟩

theorem pit_cases (ok : Bool) (p pit : Int) : (ok = false ∧ pitC ok p pit = 1) ∨ (ok = true ∧ ¬ (0 ≤ pit ∧ pit < 2 * p) ∧ pitC ok p pit = 2) ∨ (ok = true ∧ 0 ≤ pit ∧ pit < 2 * p ∧ pitC ok p pit = 0) := by
  cases ok
  · exact .inl ⟨rfl, rfl⟩
  · by_cases h : 0 ≤ pit ∧ pit < 2 * p
    · exact .inr (.inr ⟨rfl, h.1, h.2, pitC_in h.1 h.2⟩)
    · exact .inr (.inl ⟨rfl, h, pitC_out h⟩)

theorem checkPit_any (p s c l : Int) (st sk re fe ag : Bool) (pit : Int) (w : World) :
    Calls Try.prog 117 #[.agg #[.int .i64 p, .int .i64 s, .bool st, .bool sk, .bool re, .bool fe, .bool ag, .int .i64 c, .int .i64 l], .int .i64 pit] w fun e w' => e = .returned (.int .i64 (pitC (okR p s c l st ag) p pit)) ∧ Below w.heap.size w w' := by
  rcases pit_cases (okR p s c l st ag) p pit with ⟨hok, hc⟩ | ⟨hok, hout, hc⟩ | ⟨hok, h0, h1, hc⟩
  · have Hok := Lib.hid hok
    have Hc := Lib.hid hc
    clear hok hc
    go_enter Try.func117, Try.ntmps117
    go_wp2_with (go_at_call 56; refine (valid_any p s c l st sk re fe ag _).mono ?_; rintro e w1 ⟨rfl, hb1⟩; obtain ⟨hc1, hf1⟩ := bcell hb1; have hs1 := hb1.size; (try simp at hs1); (try have hz1 : w.heap.size < w1.heap.size := by omega); (try have hy1 : w.heap.size + 1 < w1.heap.size := by omega); (try have hx1 := fun o => hc1 w.heap.size o (by first | omega | (simp; done) | (simp; omega))); (try have hv1 := fun o => hc1 (w.heap.size + 1) o (by first | omega | (simp; done) | (simp; omega))); rw [Hok.out])
    go_ret
    exact ⟨by rw [Hc.out]; rfl, (by repeat (first | exact Below.refl _ _ | assumption | (refine Below.drew ?_) | (refine Below.setCell ?_ (by first | omega | (simp; done) | (simp; omega)) _) | (refine Below.alloc ?_ (by first | omega | (simp; done) | (simp; omega)) _) | (refine Below.trans ?_ (Below.mono (by assumption) (by first | omega | (simp; done) | (simp; omega))))))⟩
  · have hbd := okR_bd hok
    have Hok := Lib.hid hok
    have Hc := Lib.hid hc
    clear hok hc
    by_cases h0 : 0 ≤ pit
    all_goals
      go_enter Try.func117, Try.ntmps117
      go_wp2_with (first | (go_at_call 56; refine (valid_any p s c l st sk re fe ag _).mono ?_; rintro e w1 ⟨rfl, hb1⟩; obtain ⟨hc1, hf1⟩ := bcell hb1; have hs1 := hb1.size; (try simp at hs1); (try have hz1 : w.heap.size < w1.heap.size := by omega); (try have hy1 : w.heap.size + 1 < w1.heap.size := by omega); (try have hx1 := fun o => hc1 w.heap.size o (by first | omega | (simp; done) | (simp; omega))); (try have hv1 := fun o => hc1 (w.heap.size + 1) o (by first | omega | (simp; done) | (simp; omega))); rw [Hok.out]) | (go_at_call 57; refine (board_any p s c l st sk re fe ag (by unfold I64; omega) _).mono ?_; rintro e w2 ⟨rfl, hb2⟩; obtain ⟨hc2, hf2⟩ := bcell hb2; have hs2 := hb2.size; (try simp at hs2); (try have hz2 : w.heap.size < w2.heap.size := by omega); (try have hy2 : w.heap.size + 1 < w2.heap.size := by omega); (try have hx2 := fun o => hc2 w.heap.size o (by first | omega | (simp; done) | (simp; omega))); (try have hv2 := fun o => hc2 (w.heap.size + 1) o (by first | omega | (simp; done) | (simp; omega))); (try have hq21 : w1.heap.size < w2.heap.size := by omega)))
      go_ret
      exact ⟨by rw [Hc.out]; rfl, (by repeat (first | exact Below.refl _ _ | assumption | (refine Below.drew ?_) | (refine Below.setCell ?_ (by first | omega | (simp; done) | (simp; omega)) _) | (refine Below.alloc ?_ (by first | omega | (simp; done) | (simp; omega)) _) | (refine Below.trans ?_ (Below.mono (by assumption) (by first | omega | (simp; done) | (simp; omega))))))⟩
  · have hbd := okR_bd hok
    have Hok := Lib.hid hok
    have Hc := Lib.hid hc
    clear hok hc
    go_enter Try.func117, Try.ntmps117
    go_wp2_with (first | (go_at_call 56; refine (valid_any p s c l st sk re fe ag _).mono ?_; rintro e w1 ⟨rfl, hb1⟩; obtain ⟨hc1, hf1⟩ := bcell hb1; have hs1 := hb1.size; (try simp at hs1); (try have hz1 : w.heap.size < w1.heap.size := by omega); (try have hy1 : w.heap.size + 1 < w1.heap.size := by omega); (try have hx1 := fun o => hc1 w.heap.size o (by first | omega | (simp; done) | (simp; omega))); (try have hv1 := fun o => hc1 (w.heap.size + 1) o (by first | omega | (simp; done) | (simp; omega))); rw [Hok.out]) | (go_at_call 57; refine (board_any p s c l st sk re fe ag (by unfold I64; omega) _).mono ?_; rintro e w2 ⟨rfl, hb2⟩; obtain ⟨hc2, hf2⟩ := bcell hb2; have hs2 := hb2.size; (try simp at hs2); (try have hz2 : w.heap.size < w2.heap.size := by omega); (try have hy2 : w.heap.size + 1 < w2.heap.size := by omega); (try have hx2 := fun o => hc2 w.heap.size o (by first | omega | (simp; done) | (simp; omega))); (try have hv2 := fun o => hc2 (w.heap.size + 1) o (by first | omega | (simp; done) | (simp; omega))); (try have hq21 : w1.heap.size < w2.heap.size := by omega)))
    go_ret
    exact ⟨by rw [Hc.out]; rfl, (by repeat (first | exact Below.refl _ _ | assumption | (refine Below.drew ?_) | (refine Below.setCell ?_ (by first | omega | (simp; done) | (simp; omega)) _) | (refine Below.alloc ?_ (by first | omega | (simp; done) | (simp; omega)) _) | (refine Below.trans ?_ (Below.mono (by assumption) (by first | omega | (simp; done) | (simp; omega))))))⟩

theorem owner_any (p pit : Int) (b : Nat) (w : World) (c0 : w.cell? ⟨b, 0, none⟩ = some (.int .i64 p)) (h0 : 2 ≤ p) (h1 : p ≤ 8) (h2 : 0 ≤ pit) (h3 : pit < 2 * p) :
    Calls Try.prog 85 #[.pointer (some ⟨b, 0, none⟩), .int .i64 pit] w fun e w' => e = .returned (.int .i64 (pit / p)) ∧ w = w' := by
  go_enter Try.func85, Try.ntmps85
  go_wp2
  go_ret
  exact ⟨rfl, rfl⟩
theorem nextP_any (p pit : Int) (b : Nat) (w : World) (c0 : w.cell? ⟨b, 0, none⟩ = some (.int .i64 p)) (h0 : 2 ≤ p) (h1 : p ≤ 8) (h2 : 0 ≤ pit) (h3 : pit < 2 * p) :
    Calls Try.prog 116 #[.pointer (some ⟨b, 0, none⟩), .int .i64 pit] w fun e w' => e = .returned (.int .i64 ((pit + 1) % (2 * p))) ∧ w = w' := by
  go_enter Try.func116, Try.ntmps116
  go_wp2
  go_ret
  exact ⟨rfl, rfl⟩
theorem opposite_any (p pit : Int) (b : Nat) (w : World) (c0 : w.cell? ⟨b, 0, none⟩ = some (.int .i64 p)) (h0 : 2 ≤ p) (h1 : p ≤ 8) (h2 : 0 ≤ pit) (h3 : pit < 2 * p) :
    Calls Try.prog 98 #[.pointer (some ⟨b, 0, none⟩), .int .i64 pit] w fun e w' => e = .returned (.int .i64 (2 * p - 1 - pit)) ∧ w = w' := by
  go_enter Try.func98, Try.ntmps98
  go_wp2
  go_ret
  exact ⟨rfl, rfl⟩
end Go.Proofs.Ytmngmbpdiaocjaa
