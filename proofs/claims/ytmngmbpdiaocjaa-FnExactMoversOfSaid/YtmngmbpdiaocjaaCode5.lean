/- The code of a move in a position, as the reference tells it. No conditions. -/
import Derived.Test.YtmngmbpdiaocjaaSpec4
import Derived.Test.YtmngmbpdiaocjaaCmp4
import Derived.Test.YtmngmbpdiaocjaaSow2
import Derived.Deep.QuietTactic
import Derived.BigQuiet
import Derived.IntWalk
namespace Go.Proofs.Ytmngmbpdiaocjaa
open Go.Joins Go.ChangeShapes Go.WideShapes Go.ChangeAt Go.RowKit Go.Deep
set_option linter.unusedVariables false

set_option maxHeartbeats 4000000 in
theorem code_invalid (p s c l : Int) (st sk re fe ag : Bool) (p1 p2 : Option Addr) (pn1 pc1 pn2 pc2 : Nat) (pp : Int) (xs ys : List Int) (rb pb : Nat) (move : Int) (w : World) (hr : RuAt w rb p s c l st sk re fe ag) (hp : PoAt w pb p1 p2 pn1 pc1 pn2 pc2 pp) (h : PosR w p1 p2 pn1 pn2 xs ys) (hk : okP (okR p s c l st ag) p pn1 pn2 pp xs ys = false) :
    Calls Try.prog 82 #[.pointer (some ⟨rb, 0, none⟩), .pointer (some ⟨pb, 0, none⟩), .int .i64 move] w (Still (.int .i64 1) w) := by
  have HC := Lib.hid (l04Ok_at p s c l st sk re fe ag p1 p2 pn1 pc1 pn2 pc2 pp xs ys rb pb w hr hp h _ hk)
  clear hr hp h hk
  go_enter Try.func82, Try.ntmps82
  go_wp2_with fail
  refine HC.out.mono ?_
  rintro e u ⟨rfl, m, rfl⟩
  go_wp2_with fail
  go_ret
  exact ⟨rfl, m, rfl⟩
set_option maxHeartbeats 4000000 in
theorem code_range (p s c l : Int) (st sk re fe ag : Bool) (p1 p2 : Option Addr) (pn1 pc1 pn2 pc2 : Nat) (pp : Int) (xs ys : List Int) (rb pb : Nat) (move : Int) (w : World) (hr : RuAt w rb p s c l st sk re fe ag) (hp : PoAt w pb p1 p2 pn1 pc1 pn2 pc2 pp) (h : PosR w p1 p2 pn1 pn2 xs ys) (hk : okP (okR p s c l st ag) p pn1 pn2 pp xs ys = true) (hm : ¬ (0 ≤ move ∧ move < p)) :
    Calls Try.prog 82 #[.pointer (some ⟨rb, 0, none⟩), .pointer (some ⟨pb, 0, none⟩), .int .i64 move] w (Still (.int .i64 2) w) := by
  have HC := Lib.hid (l04Ok_at p s c l st sk re fe ag p1 p2 pn1 pc1 pn2 pc2 pp xs ys rb pb w hr hp h _ hk)
  have hbd := okR_bd (okP_parts hk).1
  have q1 := hbd.1
  have q2 := hbd.2.1
  have HD : Hid ((decide (0 ≤ move) && decide (move ≤ p - 1)) = false) := Lib.hid (by
    by_cases h0 : 0 ≤ move
    · have : ¬ move ≤ p - 1 := by omega
      simp [this]
    · simp [h0])
  have Hr := Lib.hid hr
  clear hr hp h hk hbd hm
  go_enter Try.func82, Try.ntmps82
  go_wp2_with fail
  refine HC.out.mono ?_
  rintro e u ⟨rfl, m, rfl⟩
  obtain ⟨_, g0, g1, g2, g3, g4, g5, g6, g7, g8⟩ := Hr.out.below (below_dn (Below.refl _ _) m)
  go_wp2_with fail
  refine (in_b _ _ _ false HD.out _).mono ?_
  rintro e u ⟨rfl, rfl⟩
  go_wp2_with fail
  go_ret
  exact ⟨rfl, m, rfl⟩
set_option maxHeartbeats 4000000 in
theorem code_empty (p s c l : Int) (st sk re fe ag : Bool) (p1 p2 : Option Addr) (pn1 pc1 pn2 pc2 : Nat) (pp : Int) (xs ys : List Int) (rb pb : Nat) (move : Int) (w : World) (hr : RuAt w rb p s c l st sk re fe ag) (hp : PoAt w pb p1 p2 pn1 pc1 pn2 pc2 pp) (h : PosR w p1 p2 pn1 pn2 xs ys) (hk : okP (okR p s c l st ag) p pn1 pn2 pp xs ys = true) (F : Nat) (hF : F < pn1) (hf : pp * p + move = F) (hm0 : 0 ≤ move) (hm1 : move < p) (he : xs.getD F 0 = 0) :
    Calls Try.prog 82 #[.pointer (some ⟨rb, 0, none⟩), .pointer (some ⟨pb, 0, none⟩), .int .i64 move] w (Still (.int .i64 6) w) := by
  have HC := Lib.hid (l04Ok_at p s c l st sk re fe ag p1 p2 pn1 pc1 pn2 pc2 pp xs ys rb pb w hr hp h _ hk)
  have hok := okP_parts hk
  have hbd := okR_bd hok.1
  have q1 := hbd.1
  have q2 := hbd.2.1
  have q3 := hok.2.2.2.1
  have HD : Hid ((decide (0 ≤ move) && decide (move ≤ p - 1)) = true) := Lib.hid (by simp; omega)
  obtain ⟨xv, hxv⟩ : ∃ xv, xs.getD F 0 = xv := ⟨_, rfl⟩
  have hx : xs[F]? = some xv := by rw [← hxv]; exact getD_at (by rw [h.l1]; exact hF)
  have hd : (xv == 0) = true := by rw [hxv] at he; simpa using he
  have hle : pn1 ≤ 1000000000000 := by have := h.r1.1; rwa [h.l1] at this
  have p0 : (F : Int) < (pn1 : Int) := by omega
  have hmul : 0 ≤ pp * p ∧ pp * p ≤ 8 := by
    rcases (by omega : pp = 0 ∨ pp = 1) with e | e <;> subst e <;> omega
  obtain ⟨g, o, rfl, hc0⟩ := cell_of h.r1 hx
  have hF2 : (pp * p + move) = (F : Int) := hf
  have Hr := Lib.hid hr
  have Hp := Lib.hid hp
  have Hc := Lib.hid hc0
  clear hr hp h hk hbd hok he hxv hx hc0
  go_enter Try.func82, Try.ntmps82
  go_wp2_with fail
  refine HC.out.mono ?_
  rintro e u ⟨rfl, m, rfl⟩
  obtain ⟨_, g0, g1, g2, g3, g4, g5, g6, g7, g8⟩ := Hr.out
  obtain ⟨_, t0, t1, t2⟩ := Hp.out
  have hc0 := Hc.out
  go_wp2_with fail
  refine (in_b _ _ _ true HD.out _).mono ?_
  rintro e u ⟨rfl, rfl⟩
  go_wp2_with fail
  have hz : (0 : Int) ≤ (F : Int) := by omega
  have hw1 : IntKind.i64.wrap (pp * p) = pp * p := IntWalk.i64_in _ ⟨by omega, by omega⟩
  have hw2 : IntKind.i64.wrap (pp * p + move) = (F : Int) := by rw [hF2]; exact IntWalk.i64_in _ ⟨by omega, by omega⟩
  clear hF2 hf
  go_quiet (fail)
  clear hw1 hw2
  go_wp2_with fail
  go_ret
  exact ⟨rfl, by first | exact ⟨_, rfl⟩ | exact ⟨_, World.drewN_drewN _ _ _⟩⟩
set_option maxHeartbeats 4000000 in
theorem code_yes (p s c l : Int) (st sk re fe ag : Bool) (p1 p2 : Option Addr) (pn1 pc1 pn2 pc2 : Nat) (pp : Int) (xs ys : List Int) (rb pb : Nat) (move : Int) (w : World) (hr : RuAt w rb p s c l st sk re fe ag) (hp : PoAt w pb p1 p2 pn1 pc1 pn2 pc2 pp) (h : PosR w p1 p2 pn1 pn2 xs ys) (hk : okP (okR p s c l st ag) p pn1 pn2 pp xs ys = true) (F : Nat) (hF : F < pn1) (hf : pp * p + move = F) (hm0 : 0 ≤ move) (hm1 : move < p) (he : xs.getD F 0 ≠ 0) :
    Calls Try.prog 82 #[.pointer (some ⟨rb, 0, none⟩), .pointer (some ⟨pb, 0, none⟩), .int .i64 move] w (Still (.int .i64 0) w) := by
  have HC := Lib.hid (l04Ok_at p s c l st sk re fe ag p1 p2 pn1 pc1 pn2 pc2 pp xs ys rb pb w hr hp h _ hk)
  have hok := okP_parts hk
  have hbd := okR_bd hok.1
  have q1 := hbd.1
  have q2 := hbd.2.1
  have q3 := hok.2.2.2.1
  have HD : Hid ((decide (0 ≤ move) && decide (move ≤ p - 1)) = true) := Lib.hid (by simp; omega)
  obtain ⟨xv, hxv⟩ : ∃ xv, xs.getD F 0 = xv := ⟨_, rfl⟩
  have hx : xs[F]? = some xv := by rw [← hxv]; exact getD_at (by rw [h.l1]; exact hF)
  have hd : (xv == 0) = false := by rw [hxv] at he; simpa using he
  have hle : pn1 ≤ 1000000000000 := by have := h.r1.1; rwa [h.l1] at this
  have p0 : (F : Int) < (pn1 : Int) := by omega
  have hmul : 0 ≤ pp * p ∧ pp * p ≤ 8 := by
    rcases (by omega : pp = 0 ∨ pp = 1) with e | e <;> subst e <;> omega
  obtain ⟨g, o, rfl, hc0⟩ := cell_of h.r1 hx
  have hF2 : (pp * p + move) = (F : Int) := hf
  have Hr := Lib.hid hr
  have Hp := Lib.hid hp
  have Hc := Lib.hid hc0
  clear hr hp h hk hbd hok he hxv hx hc0
  go_enter Try.func82, Try.ntmps82
  go_wp2_with fail
  refine HC.out.mono ?_
  rintro e u ⟨rfl, m, rfl⟩
  obtain ⟨_, g0, g1, g2, g3, g4, g5, g6, g7, g8⟩ := Hr.out
  obtain ⟨_, t0, t1, t2⟩ := Hp.out
  have hc0 := Hc.out
  go_wp2_with fail
  refine (in_b _ _ _ true HD.out _).mono ?_
  rintro e u ⟨rfl, rfl⟩
  go_wp2_with fail
  have hz : (0 : Int) ≤ (F : Int) := by omega
  have hw1 : IntKind.i64.wrap (pp * p) = pp * p := IntWalk.i64_in _ ⟨by omega, by omega⟩
  have hw2 : IntKind.i64.wrap (pp * p + move) = (F : Int) := by rw [hF2]; exact IntWalk.i64_in _ ⟨by omega, by omega⟩
  clear hF2 hf
  go_quiet (fail)
  clear hw1 hw2
  go_wp2_with fail
  go_ret
  exact ⟨rfl, by first | exact ⟨_, rfl⟩ | exact ⟨_, World.drewN_drewN _ _ _⟩⟩
end Go.Proofs.Ytmngmbpdiaocjaa
