/- Whether a position is valid: the reference's answer. No conditions. -/
import Derived.Test.YtgogjjkecbgbiaaTot
import Derived.Test.YtgogjjkecbgbiaaPos
namespace Go.Proofs.Ytgogjjkecbgbiaa
open Go.Joins Go.ChangeShapes Go.WideShapes Go.ChangeAt Go.RowKit Go.Deep
set_option linter.unusedVariables false

theorem okP_1 {k : Bool} {p : Int} {n1 n2 : Nat} {pl : Int} {xs ys : List Int} (h : k = false) : okP k p n1 n2 pl xs ys = false := by simp [okP, h]
theorem okP_2 {k : Bool} {p : Int} {n1 n2 : Nat} {pl : Int} {xs ys : List Int} (h : (n1 : Int) ≠ 2 * p) : okP k p n1 n2 pl xs ys = false := by simp [okP, h]
theorem okP_3 {k : Bool} {p : Int} {n1 n2 : Nat} {pl : Int} {xs ys : List Int} (h : n2 ≠ 2) : okP k p n1 n2 pl xs ys = false := by simp [okP, h]
theorem okP_4 {k : Bool} {p : Int} {n1 n2 : Nat} {pl : Int} {xs ys : List Int} (h : (decide (0 ≤ pl) && decide (pl ≤ 1)) = false) : okP k p n1 n2 pl xs ys = false := by
  unfold okP
  rw [h]
  simp
theorem okP_5 {k : Bool} {p : Int} {n1 n2 : Nat} {pl : Int} {xs ys : List Int} (h1 : k = true) (h2 : (n1 : Int) = 2 * p) (h3 : n2 = 2) (h4 : (decide (0 ≤ pl) && decide (pl ≤ 1)) = true) : okP k p n1 n2 pl xs ys = seedB xs ys := by
  unfold okP
  rw [h1, h4, decide_eq_true h2, decide_eq_true h3]
  simp

set_option maxHeartbeats 4000000 in
theorem l04Ok_any (p s c l : Int) (st sk re fe ag : Bool) (p1 p2 : Option Addr) (pn1 pc1 pn2 pc2 : Nat) (pp : Int) (xs ys : List Int) (b d : Nat) (w : World) (c0 : w.cell? ⟨b, 0, none⟩ = some (.int .i64 p)) (c1 : w.cell? ⟨b, 1, none⟩ = some (.int .i64 s)) (c2 : w.cell? ⟨b, 2, none⟩ = some (.bool st)) (c3 : w.cell? ⟨b, 3, none⟩ = some (.bool sk)) (c4 : w.cell? ⟨b, 4, none⟩ = some (.bool re)) (c5 : w.cell? ⟨b, 5, none⟩ = some (.bool fe)) (c6 : w.cell? ⟨b, 6, none⟩ = some (.bool ag)) (c7 : w.cell? ⟨b, 7, none⟩ = some (.int .i64 c)) (c8 : w.cell? ⟨b, 8, none⟩ = some (.int .i64 l)) (d0 : w.cell? ⟨d, 0, none⟩ = some (.slice p1 pn1 pc1)) (d1 : w.cell? ⟨d, 1, none⟩ = some (.slice p2 pn2 pc2)) (d2 : w.cell? ⟨d, 2, none⟩ = some (.int .i64 pp))
    (h : PosR w p1 p2 pn1 pn2 xs ys) :
    Calls Try.prog 22 #[.pointer (some ⟨b, 0, none⟩), .pointer (some ⟨d, 0, none⟩)] w (Still (.bool (okP (okR p s c l st ag) p pn1 pn2 pp xs ys)) w) := by
  have hb1 : pn1 ≤ 1000000000000 := by rw [← h.l1]; exact h.r1.1
  have hb2 : pn2 ≤ 1000000000000 := by rw [← h.l2]; exact h.r2.1
  have H := Lib.hid h
  clear h
  rcases hok : okR p s c l st ag with _ | _
  · rw [okP_1 rfl]
    have Hok := Lib.hid hok
    clear hok
    go_enter Try.func22, Try.ntmps22
    go_wp2_with fail
    go_quiet ((go_at_call 42; exact quiet_w (l02Ok_b p s c l st sk re fe ag _ Hok.out b _ c0 c1 c2 c3 c4 c5 c6 c7 c8) ⟨_, rfl⟩))
    go_wp2_with fail
    go_ret
    exact ⟨rfl, _, rfl⟩
  · have hbd := okR_bd hok
    obtain ⟨hp1, hp2, -⟩ := hbd
    have Hok := Lib.hid hok
    clear hok
    by_cases h2 : (pn1 : Int) = 2 * p
    · have hd1 : ((pn1 : Int) != 2 * p) = false := by simpa using h2
      have H2 := Lib.hid h2
      clear h2
      by_cases h3 : pn2 = 2
      · have hd2 : ((pn2 : Int) != 2) = false := by simp [h3]
        have H3 := Lib.hid h3
        clear h3
        rcases h4 : (decide (0 ≤ pp) && decide (pp ≤ 1)) with _ | _
        · rw [okP_4 h4]
          have H4 := Lib.hid h4
          clear h4
          go_enter Try.func22, Try.ntmps22
          go_wp2_with fail
          go_quiet ((first | (go_at_call 42; exact quiet_w (l02Ok_b p s c l st sk re fe ag _ Hok.out b _ c0 c1 c2 c3 c4 c5 c6 c7 c8) ⟨_, rfl⟩) | (go_at_call 23; exact quiet_w (in_b pp 0 1 _ H4.out _) ⟨_, rfl⟩)))
          go_wp2_with fail
          go_ret
          exact ⟨rfl, _, rfl⟩
        · rw [okP_5 rfl H2.out H3.out h4, ← seedB_eq]
          have H4 := Lib.hid h4
          obtain ⟨b1, b2⟩ := sumC_bd xs
          obtain ⟨b3, b4⟩ := sumC_bd ys
          clear h4
          go_enter Try.func22, Try.ntmps22
          go_wp2_with fail
          go_quiet ((first | (go_at_call 42; exact quiet_w (l02Ok_b p s c l st sk re fe ag _ Hok.out b _ c0 c1 c2 c3 c4 c5 c6 c7 c8) ⟨_, rfl⟩) | (go_at_call 23; exact quiet_w (in_b pp 0 1 _ H4.out _) ⟨_, rfl⟩)))
          go_wp2_with fail
          refine (l04Sum_any p1 pc1 pn1 xs _ H.out.l1 (H.out.r1.drewN _)).mono ?_
          rintro e w' ⟨rfl, rfl⟩
          go_wp2_with fail
          refine (l04Sum_any p2 pc2 pn2 ys _ H.out.l2 (H.out.r2.drewN _)).mono ?_
          rintro e w' ⟨rfl, rfl⟩
          generalize sumC xs = s1 at *
          generalize sumC ys = s2 at *
          go_wp2_with fail
          all_goals
            go_ret
            exact ⟨by simp [*]; try omega, _, rfl⟩
      · rw [okP_3 h3]
        have hd2 : ((pn2 : Int) != 2) = true := by simp; omega
        clear h3
        go_enter Try.func22, Try.ntmps22
        go_wp2_with fail
        go_quiet ((go_at_call 42; exact quiet_w (l02Ok_b p s c l st sk re fe ag _ Hok.out b _ c0 c1 c2 c3 c4 c5 c6 c7 c8) ⟨_, rfl⟩))
        go_wp2_with fail
        go_ret
        exact ⟨rfl, _, rfl⟩
    · rw [okP_2 h2]
      have hd : ((pn1 : Int) != 2 * p) = true := by simpa using h2
      have hd2 : ((pn1 : Int) == 2 * p) = false := by simpa using h2
      clear h2
      go_enter Try.func22, Try.ntmps22
      go_wp2_with fail
      go_quiet ((go_at_call 42; exact quiet_w (l02Ok_b p s c l st sk re fe ag _ Hok.out b _ c0 c1 c2 c3 c4 c5 c6 c7 c8) ⟨_, rfl⟩))
      go_wp2_with fail
      go_ret
      exact ⟨rfl, _, rfl⟩
end Go.Proofs.Ytgogjjkecbgbiaa
