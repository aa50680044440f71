/- A seed is put into its place. No conditions. -/
import Derived.Test.YtmngmbpdiaocjaaSw5
import Derived.StillTailTactics
import Derived.IntWalk
namespace Go.Proofs.Ytmngmbpdiaocjaa
open Go.Joins Go.ChangeShapes Go.WideShapes Go.ChangeAt Go.RowKit Go.Deep
set_option linter.unusedVariables false

/-- A further lap begins from this place. -/
def rlb (re : Bool) (xs : List Int) (y : Int) : Bool := re && (decide (y ≠ -1) && decide (1 < (putX xs y).getD y.toNat 0))
theorem SwS.drew {W : World} {K : Cfg} {ha la lp : Int} {xs ys : List Int} (h : SwS W K ha la lp xs ys) : SwS W.drew K ha la lp xs ys := h.keep rfl rfl rfl (Nat.le_refl _)
/-- What putting a seed leaves. -/
def PutP (K : Cfg) (y ha lp : Int) (xs ys : List Int) (W : World) (e : Ending) (W' : World) : Prop :=
  e = .returned (.bool (rlb K.re xs y)) ∧ SwS W' K (ha - 1) y lp (putX xs y) (putY K.pl ys y) ∧ Ch K W W'
set_option maxHeartbeats 4000000 in
set_option maxRecDepth 100000 in
theorem putS0 (K : Cfg) (ha la lp : Int) (xs ys : List Int) (W : World) (hpl : K.pl = 0) (h : SwS W K ha la lp xs ys) (h0 : 1 ≤ ha) (h1 : ha ≤ 96) (hy0 : 0 ≤ ys.getD 0 0) (hy1 : ys.getD 0 0 ≤ 96) :
    Calls Try.prog 102 #[.pointer (some ⟨K.b, 0, none⟩), .int .i64 (-1)] W (PutP K (-1) ha lp xs ys W) := by
  have e2 : putY K.pl ys (-1) = ys.set 0 (ys.getD 0 0 + 1) := by rw [hpl]; rfl
  have HE : Hid (∀ W', SwS W' K (ha - 1) (-1) lp xs (ys.set 0 (ys.getD 0 0 + 1)) → Ch K W W' → PutP K (-1) ha lp xs ys W (.returned (.bool false)) W') := Lib.hid fun W' a b => ⟨by unfold rlb; simp, by rw [e2]; exact a, b⟩
  have hs2 := (h.setHand (ha - 1)).setLast (-1)
  have HC := Lib.hid (((Ch.refl K W).setCell (q := ⟨K.b, 11, none⟩) (.inl rfl) (.int .i64 (ha - 1))).setCell (q := ⟨K.b, 14, none⟩) (.inl rfl) (.int .i64 (-1)))
  have q11 := h.q11
  have f11 := h.fr 11
  have f14 := h.fr 14
  have q14 := h.q14
  have hlt := h.lt
  have Hs2 := Lib.hid hs2
  clear h e2 hs2
  have hpl2 := hpl
  obtain ⟨p, s, c, l, st, sk, re, fe, ag, pl, fi, B, b, g1, c1, g2, c2, n1⟩ := K
  dsimp only at q11 f11 f14 q14 hlt hpl hpl2 ⊢
  subst hpl
  go_enter Try.func102, Try.ntmps102
  go_upto_region 4 with fail
  clear q11 f11 f14 q14 hlt hpl2
  generalize (W.setCell ⟨b, 11, none⟩ (.int .i64 (ha - 1))).setCell ⟨b, 14, none⟩ (.int .i64 (-1)) = W2 at *
  have hd := Hs2.out.drew
  obtain ⟨x1, x2⟩ := hd.y (i := 0) (by decide)
  have HS0 := Lib.hid (hd.setY (i := 0) (by decide) (ys.getD 0 0 + 1))
  obtain ⟨hlt, q0, q1, q2, q3, q4, q5, q6, q7, q8, q9, q10, q11, q12, q13, q14, q15, fr, o1, o2, l1, l2, d1, d2, d3, h1', h2'⟩ := hd
  generalize ys.getD 0 0 = yv at *
  clear fr o1 o2 l1 l2
  dsimp only at x1 x2 hlt q0 q1 q2 q3 q4 q5 q6 q7 q8 q9 q10 q11 q12 q13 q14 q15 d1 d2 d3 h1' h2'
  go_still_tail 13, (by kernel_rfl)
  change wpList _ _ _ _ _ (World.drew W2)
  rw [show IntKind.i64.wrap (yv + 1) = yv + 1 from IntWalk.i64_in _ ⟨by omega, by omega⟩]
  have HC3 := Lib.hid (HC.out.drew.setCell (q := ⟨g2, 0, none⟩) (.inr (.inr rfl)) (.int .i64 (yv + 1)))
  clear HC Hs2
  generalize W2.drew = W3 at *
  go_wp2
  go_ret
  exact HE.out _ HS0.out HC3.out
set_option maxHeartbeats 4000000 in
set_option maxRecDepth 100000 in
theorem putS1 (K : Cfg) (ha la lp : Int) (xs ys : List Int) (W : World) (hpl : K.pl = 1) (h : SwS W K ha la lp xs ys) (h0 : 1 ≤ ha) (h1 : ha ≤ 96) (hy0 : 0 ≤ ys.getD 1 0) (hy1 : ys.getD 1 0 ≤ 96) :
    Calls Try.prog 102 #[.pointer (some ⟨K.b, 0, none⟩), .int .i64 (-1)] W (PutP K (-1) ha lp xs ys W) := by
  have e2 : putY K.pl ys (-1) = ys.set 1 (ys.getD 1 0 + 1) := by rw [hpl]; rfl
  have HE : Hid (∀ W', SwS W' K (ha - 1) (-1) lp xs (ys.set 1 (ys.getD 1 0 + 1)) → Ch K W W' → PutP K (-1) ha lp xs ys W (.returned (.bool false)) W') := Lib.hid fun W' a b => ⟨by unfold rlb; simp, by rw [e2]; exact a, b⟩
  have hs2 := (h.setHand (ha - 1)).setLast (-1)
  have HC := Lib.hid (((Ch.refl K W).setCell (q := ⟨K.b, 11, none⟩) (.inl rfl) (.int .i64 (ha - 1))).setCell (q := ⟨K.b, 14, none⟩) (.inl rfl) (.int .i64 (-1)))
  have q11 := h.q11
  have f11 := h.fr 11
  have f14 := h.fr 14
  have q14 := h.q14
  have hlt := h.lt
  have Hs2 := Lib.hid hs2
  clear h e2 hs2
  have hpl2 := hpl
  obtain ⟨p, s, c, l, st, sk, re, fe, ag, pl, fi, B, b, g1, c1, g2, c2, n1⟩ := K
  dsimp only at q11 f11 f14 q14 hlt hpl hpl2 ⊢
  subst hpl
  go_enter Try.func102, Try.ntmps102
  go_upto_region 4 with fail
  clear q11 f11 f14 q14 hlt hpl2
  generalize (W.setCell ⟨b, 11, none⟩ (.int .i64 (ha - 1))).setCell ⟨b, 14, none⟩ (.int .i64 (-1)) = W2 at *
  have hd := Hs2.out.drew
  obtain ⟨x1, x2⟩ := hd.y (i := 1) (by decide)
  have HS0 := Lib.hid (hd.setY (i := 1) (by decide) (ys.getD 1 0 + 1))
  obtain ⟨hlt, q0, q1, q2, q3, q4, q5, q6, q7, q8, q9, q10, q11, q12, q13, q14, q15, fr, o1, o2, l1, l2, d1, d2, d3, h1', h2'⟩ := hd
  generalize ys.getD 1 0 = yv at *
  clear fr o1 o2 l1 l2
  dsimp only at x1 x2 hlt q0 q1 q2 q3 q4 q5 q6 q7 q8 q9 q10 q11 q12 q13 q14 q15 d1 d2 d3 h1' h2'
  go_still_tail 13, (by kernel_rfl)
  change wpList _ _ _ _ _ (World.drew W2)
  rw [show IntKind.i64.wrap (yv + 1) = yv + 1 from IntWalk.i64_in _ ⟨by omega, by omega⟩]
  have HC3 := Lib.hid (HC.out.drew.setCell (q := ⟨g2, 1, none⟩) (.inr (.inr rfl)) (.int .i64 (yv + 1)))
  clear HC Hs2
  generalize W2.drew = W3 at *
  go_wp2
  go_ret
  exact HE.out _ HS0.out HC3.out
set_option maxHeartbeats 4000000 in
set_option maxRecDepth 100000 in
theorem putP_any (K : Cfg) (m : Nat) (ha la lp : Int) (xs ys : List Int) (W : World) (h : SwS W K ha la lp xs ys) (hm : m < K.n1) (hn : K.n1 ≤ 1000) (h0 : 1 ≤ ha) (h1 : ha ≤ 96) (hx0 : 0 ≤ xs.getD m 0) (hx1 : xs.getD m 0 ≤ 96) :
    Calls Try.prog 102 #[.pointer (some ⟨K.b, 0, none⟩), .int .i64 m] W (PutP K m ha lp xs ys W) := by
  obtain ⟨x1, x2⟩ := h.x hm
  have e1 : putX xs m = xs.set m (xs.getD m 0 + 1) := by
    unfold putX
    rw [if_neg (by omega)]
    rfl
  have e3 : rlb K.re xs m = (K.re && decide (1 < xs.getD m 0 + 1)) := by
    unfold rlb
    rw [e1, decide_eq_true (show (m : Int) ≠ -1 by omega), Bool.true_and, Int.toNat_natCast]
    have : (xs.set m (xs.getD m 0 + 1)).getD m 0 = xs.getD m 0 + 1 := by
      have hl := h.l1
      simp [List.getD, show m < xs.length by omega]
    rw [this]
  have e4 : putY K.pl ys m = ys := by
    unfold putY
    rw [if_neg (by omega)]
  have HE : Hid (∀ W', SwS W' K (ha - 1) m lp (xs.set m (xs.getD m 0 + 1)) ys → Ch K W W' → PutP K m ha lp xs ys W (.returned (.bool (K.re && decide (1 < xs.getD m 0 + 1)))) W') := Lib.hid fun W' a b => ⟨by rw [e3], by rw [e1, e4]; exact a, b⟩
  have HS := Lib.hid (((h.setHand (ha - 1)).setLast m).setX hm (xs.getD m 0 + 1))
  have HC := Lib.hid ((((Ch.refl K W).setCell (q := ⟨K.b, 11, none⟩) (.inl rfl) (.int .i64 (ha - 1))).setCell (q := ⟨K.b, 14, none⟩) (.inl rfl) (.int .i64 m)).setCell (q := ⟨K.g1, m, none⟩) (.inr (.inl rfl)) (.int .i64 (xs.getD m 0 + 1)))
  obtain ⟨hlt, q0, q1, q2, q3, q4, q5, q6, q7, q8, q9, q10, q11, q12, q13, q14, q15, fr, o1, o2, l1, l2, d1, d2, d3, h1', h2'⟩ := h
  have f11 := fr 11
  have f14 := fr 14
  have hd : ((m : Int) == -1) = false := by simp
  have p0 : (m : Int) < (K.n1 : Int) := by omega
  generalize xs.getD m 0 = xv at *
  clear fr o1 o2 l1 l2 e1 e3 e4
  obtain ⟨p, s, c, l, st, sk, re, fe, ag, pl, fi, B, b, g1, c1, g2, c2, n1⟩ := K
  dsimp only at *
  cases re
  all_goals
    go_enter Try.func102, Try.ntmps102
    go_wp2
    go_ret
    exact HE.out _ HS.out HC.out
end Go.Proofs.Ytmngmbpdiaocjaa
