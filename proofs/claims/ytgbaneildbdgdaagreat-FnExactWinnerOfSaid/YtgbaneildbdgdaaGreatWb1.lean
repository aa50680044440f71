/- Put5, Same4, Ch2Pit, GameO, Sum4, Side4, Cap6, BoxC, VS6, PosZ, Feed7, End9V, End9W, VS7, Cap7, Cap8, Cap9, Cap10, Cap11, RefC, RefC2, one after the other (what the laws reach of them). No conditions. -/
import Derived.Test.YtgbaneildbdgdaaGreatSw5
import Derived.StillTailTactics
import Derived.IntWalk
import Derived.Test.YtgbaneildbdgdaaGreatCmp4
import Derived.Test.YtgbaneildbdgdaaGreatSpec4
import Derived.Test.YtgbaneildbdgdaaGreatValid4
import Derived.Laws.Small
import Derived.Laws.EntriesVeiled
namespace Go.Proofs.YtgbaneildbdgdaaGreat
open Go.Joins Go.ChangeShapes Go.WideShapes Go.ChangeAt Go.RowKit Go.Deep
set_option linter.unusedVariables false
set_option maxHeartbeats 8000000
set_option maxRecDepth 100000
/- Put5 -/
def rlb (re : Bool) (xs : List Int) (y : Int) : Bool := re && (decide (y ≠ -1) && decide (1 < (putX xs y).getD y.toNat 0))
theorem SwS.drew {W : World} {K : Cfg} {ha la lp : Int} {xs ys : List Int} (h : SwS W K ha la lp xs ys) : SwS W.drew K ha la lp xs ys := h.keep rfl rfl rfl (Nat.le_refl _)
def PutP (K : Cfg) (y ha lp : Int) (xs ys : List Int) (W : World) (e : Ending) (W' : World) : Prop :=
 e = .returned (.bool (rlb K.re xs y)) ∧ SwS W' K (ha - 1) y lp (putX xs y) (putY K.pl ys y) ∧ Ch K W W'
theorem putS0 (K : Cfg) (ha la lp : Int) (xs ys : List Int) (W : World) (hpl : K.pl = 0) (h : SwS W K ha la lp xs ys) (h0 : 1 ≤ ha) (h1 : ha ≤ 96) (hy0 : 0 ≤ ys.getD 0 0) (hy1 : ys.getD 0 0 ≤ 96) :
  Calls Tryz.prog 177 #[.pointer (some ⟨K.b, 0, none⟩), .int .i64 (-1)] W (PutP K (-1) ha lp xs ys W) := by
 have e2 : putY K.pl ys (-1) = ys.set 0 (ys.getD 0 0 + 1) := by rw [hpl]; rfl
 have HE : Hid (∀ W', SwS W' K (ha - 1) (-1) lp xs (ys.set 0 (ys.getD 0 0 + 1)) → Ch K W W' → PutP K (-1) ha lp xs ys W (.returned (.bool false)) W') := Lib.hid fun W' a b => ⟨by unfold rlb; simp, by rw [e2]; exact a, b⟩
 have hs2 := (h.setHand (ha - 1)).setLast (-1)
 have HC := Lib.hid (((Ch.refl K W).setCell (q := ⟨K.b, 11, none⟩) (.inl rfl) (.int .i64 (ha - 1))).setCell (q := ⟨K.b, 14, none⟩) (.inl rfl) (.int .i64 (-1)))
 have q11 := h.q11
 have f11 := h.fr 11
 have f14 := h.fr 14
 have q14 := h.q14
 have hlt := h.lt
 have Hs2 := Lib.hid hs2
 clear h e2 hs2
 have hpl2 := hpl
 obtain ⟨p, s, c, l, st, sk, re, fe, ag, pl, fi, B, b, g1, c1, g2, c2, n1⟩ := K
 dsimp only at q11 f11 f14 q14 hlt hpl hpl2 ⊢
 subst hpl
 go_enter Tryz.func177, Tryz.ntmps177
 go_upto_region 4 with fail
 clear q11 f11 f14 q14 hlt hpl2
 generalize (W.setCell ⟨b, 11, none⟩ (.int .i64 (ha - 1))).setCell ⟨b, 14, none⟩ (.int .i64 (-1)) = W2 at *
 have hd := Hs2.out.drew
 obtain ⟨x1, x2⟩ := hd.y (i := 0) (by decide)
 have HS0 := Lib.hid (hd.setY (i := 0) (by decide) (ys.getD 0 0 + 1))
 obtain ⟨hlt, q0, q1, q2, q3, q4, q5, q6, q7, q8, q9, q10, q11, q12, q13, q14, q15, fr, o1, o2, l1, l2, d1, d2, d3, h1', h2'⟩ := hd
 generalize ys.getD 0 0 = yv at *
 clear fr o1 o2 l1 l2
 dsimp only at x1 x2 hlt q0 q1 q2 q3 q4 q5 q6 q7 q8 q9 q10 q11 q12 q13 q14 q15 d1 d2 d3 h1' h2'
 go_still_tail 13, (by kernel_rfl)
 change wpList _ _ _ _ _ (World.drew W2)
 rw [show IntKind.i64.wrap (yv + 1) = yv + 1 from IntWalk.i64_in _ ⟨by omega, by omega⟩]
 have HC3 := Lib.hid (HC.out.drew.setCell (q := ⟨g2, 0, none⟩) (.inr (.inr rfl)) (.int .i64 (yv + 1)))
 clear HC Hs2
 generalize W2.drew = W3 at *
 go_wp2
 go_ret
 exact HE.out _ HS0.out HC3.out
theorem putS1 (K : Cfg) (ha la lp : Int) (xs ys : List Int) (W : World) (hpl : K.pl = 1) (h : SwS W K ha la lp xs ys) (h0 : 1 ≤ ha) (h1 : ha ≤ 96) (hy0 : 0 ≤ ys.getD 1 0) (hy1 : ys.getD 1 0 ≤ 96) :
  Calls Tryz.prog 177 #[.pointer (some ⟨K.b, 0, none⟩), .int .i64 (-1)] W (PutP K (-1) ha lp xs ys W) := by
 have e2 : putY K.pl ys (-1) = ys.set 1 (ys.getD 1 0 + 1) := by rw [hpl]; rfl
 have HE : Hid (∀ W', SwS W' K (ha - 1) (-1) lp xs (ys.set 1 (ys.getD 1 0 + 1)) → Ch K W W' → PutP K (-1) ha lp xs ys W (.returned (.bool false)) W') := Lib.hid fun W' a b => ⟨by unfold rlb; simp, by rw [e2]; exact a, b⟩
 have hs2 := (h.setHand (ha - 1)).setLast (-1)
 have HC := Lib.hid (((Ch.refl K W).setCell (q := ⟨K.b, 11, none⟩) (.inl rfl) (.int .i64 (ha - 1))).setCell (q := ⟨K.b, 14, none⟩) (.inl rfl) (.int .i64 (-1)))
 have q11 := h.q11
 have f11 := h.fr 11
 have f14 := h.fr 14
 have q14 := h.q14
 have hlt := h.lt
 have Hs2 := Lib.hid hs2
 clear h e2 hs2
 have hpl2 := hpl
 obtain ⟨p, s, c, l, st, sk, re, fe, ag, pl, fi, B, b, g1, c1, g2, c2, n1⟩ := K
 dsimp only at q11 f11 f14 q14 hlt hpl hpl2 ⊢
 subst hpl
 go_enter Tryz.func177, Tryz.ntmps177
 go_upto_region 4 with fail
 clear q11 f11 f14 q14 hlt hpl2
 generalize (W.setCell ⟨b, 11, none⟩ (.int .i64 (ha - 1))).setCell ⟨b, 14, none⟩ (.int .i64 (-1)) = W2 at *
 have hd := Hs2.out.drew
 obtain ⟨x1, x2⟩ := hd.y (i := 1) (by decide)
 have HS0 := Lib.hid (hd.setY (i := 1) (by decide) (ys.getD 1 0 + 1))
 obtain ⟨hlt, q0, q1, q2, q3, q4, q5, q6, q7, q8, q9, q10, q11, q12, q13, q14, q15, fr, o1, o2, l1, l2, d1, d2, d3, h1', h2'⟩ := hd
 generalize ys.getD 1 0 = yv at *
 clear fr o1 o2 l1 l2
 dsimp only at x1 x2 hlt q0 q1 q2 q3 q4 q5 q6 q7 q8 q9 q10 q11 q12 q13 q14 q15 d1 d2 d3 h1' h2'
 go_still_tail 13, (by kernel_rfl)
 change wpList _ _ _ _ _ (World.drew W2)
 rw [show IntKind.i64.wrap (yv + 1) = yv + 1 from IntWalk.i64_in _ ⟨by omega, by omega⟩]
 have HC3 := Lib.hid (HC.out.drew.setCell (q := ⟨g2, 1, none⟩) (.inr (.inr rfl)) (.int .i64 (yv + 1)))
 clear HC Hs2
 generalize W2.drew = W3 at *
 go_wp2
 go_ret
 exact HE.out _ HS0.out HC3.out
theorem putP_any (K : Cfg) (m : Nat) (ha la lp : Int) (xs ys : List Int) (W : World) (h : SwS W K ha la lp xs ys) (hm : m < K.n1) (hn : K.n1 ≤ 1000) (h0 : 1 ≤ ha) (h1 : ha ≤ 96) (hx0 : 0 ≤ xs.getD m 0) (hx1 : xs.getD m 0 ≤ 96) :
  Calls Tryz.prog 177 #[.pointer (some ⟨K.b, 0, none⟩), .int .i64 m] W (PutP K m ha lp xs ys W) := by
 obtain ⟨x1, x2⟩ := h.x hm
 have e1 : putX xs m = xs.set m (xs.getD m 0 + 1) := by
  unfold putX
  rw [if_neg (by omega)]
  rfl
 have e3 : rlb K.re xs m = (K.re && decide (1 < xs.getD m 0 + 1)) := by
  unfold rlb
  rw [e1, decide_eq_true (show (m : Int) ≠ -1 by omega), Bool.true_and, Int.toNat_natCast]
  have : (xs.set m (xs.getD m 0 + 1)).getD m 0 = xs.getD m 0 + 1 := by
   have hl := h.l1
   simp [List.getD, show m < xs.length by omega]
  rw [this]
 have e4 : putY K.pl ys m = ys := by
  unfold putY
  rw [if_neg (by omega)]
 have HE : Hid (∀ W', SwS W' K (ha - 1) m lp (xs.set m (xs.getD m 0 + 1)) ys → Ch K W W' → PutP K m ha lp xs ys W (.returned (.bool (K.re && decide (1 < xs.getD m 0 + 1)))) W') := Lib.hid fun W' a b => ⟨by rw [e3], by rw [e1, e4]; exact a, b⟩
 have HS := Lib.hid (((h.setHand (ha - 1)).setLast m).setX hm (xs.getD m 0 + 1))
 have HC := Lib.hid ((((Ch.refl K W).setCell (q := ⟨K.b, 11, none⟩) (.inl rfl) (.int .i64 (ha - 1))).setCell (q := ⟨K.b, 14, none⟩) (.inl rfl) (.int .i64 m)).setCell (q := ⟨K.g1, m, none⟩) (.inr (.inl rfl)) (.int .i64 (xs.getD m 0 + 1)))
 obtain ⟨hlt, q0, q1, q2, q3, q4, q5, q6, q7, q8, q9, q10, q11, q12, q13, q14, q15, fr, o1, o2, l1, l2, d1, d2, d3, h1', h2'⟩ := h
 have f11 := fr 11
 have f14 := fr 14
 have hd : ((m : Int) == -1) = false := by simp
 have p0 : (m : Int) < (K.n1 : Int) := by omega
 generalize xs.getD m 0 = xv at *
 clear fr o1 o2 l1 l2 e1 e3 e4
 obtain ⟨p, s, c, l, st, sk, re, fe, ag, pl, fi, B, b, g1, c1, g2, c2, n1⟩ := K
 dsimp only at *
 cases re
 all_goals
  go_enter Tryz.func177, Tryz.ntmps177
  go_wp2
  go_ret
  exact HE.out _ HS.out HC.out
/- Same4 -/
theorem cmpL_zero : ∀ {a b : List Int}, cmpL a b = 0 ↔ a = b
 | [], [] => by simp [cmpL]
 | [], _ :: _ => by simp [cmpL]
 | _ :: _, [] => by simp [cmpL]
 | x :: r, y :: q => by
  unfold cmpL
  split
  ·constructor
   ·intro h; omega
   ·intro h; cases h; omega
  ·split
   ·constructor
    ·intro h; omega
    ·intro h; cases h; omega
   ·rw [cmpL_zero]
    have : x = y := by omega
    simp [this]
def sameB (xs us ys vs : List Int) (p q : Int) : Bool := decide (xs = us) && decide (ys = vs) && (p == q)
theorem cmpP_zero (xs us ys vs : List Int) (p q : Int) : (cmpP xs us ys vs p q == 0) = sameB xs us ys vs p q := by
 unfold cmpP or3 sameB
 by_cases h1 : cmpL xs us = 0
 ·rw [if_pos h1, decide_eq_true (cmpL_zero.1 h1)]
  by_cases h2 : cmpL ys vs = 0
  ·rw [if_pos h2, decide_eq_true (cmpL_zero.1 h2)]
   by_cases h3 : p = q
   ·subst h3
    simp [cmpL]
   ·have : cmpL [p] [q] ≠ 0 := fun h => h3 (by have := cmpL_zero.1 h; simpa using this)
    rw [beq_eq_false_iff_ne.2 this, beq_eq_false_iff_ne.2 h3]
    rfl
  ·rw [if_neg h2, decide_eq_false (fun h => h2 (cmpL_zero.2 h))]
   simp [h2]
 ·rw [if_neg h1, decide_eq_false (fun h => h1 (cmpL_zero.2 h))]
  simp [h1]
theorem quiet_s {P : Program} {f : FuncId} {args : Array Value} {W w : World} {v : Value} (h : Calls P f args W (Still v W)) (hw : ∃ m, W = w.drewN m) :
  Calls P f args W fun e w'' => e = .returned v ∧ ∃ m, w'' = w.drewN m := h.mono fun _ _ ⟨he, m, hm⟩ => ⟨he, by
   obtain ⟨k, hk⟩ := hw
   exact ⟨k + m, by rw [hm, hk, World.drewN_drewN]⟩⟩
theorem take_snoc {xs : List Int} {k : Nat} {x : Int} (h : xs[k]? = some x) : xs.take (k + 1) = xs.take k ++ [x] := take_next h
theorem ne_at {xs ys : List Int} {k : Nat} {x y : Int} (hx : xs[k]? = some x) (hy : ys[k]? = some y) (h : x ≠ y) : xs ≠ ys := by
 intro e
 subst e
 rw [hx] at hy
 cases hy
 exact h rfl
theorem l00Same_any (a d : Option Addr) (c1 c2 n m : Nat) (xs ys : List Int) (w : World) (hn : xs.length = n) (hm : ys.length = m) (h1 : RowN w a xs) (h2 : RowN w d ys) :
  Calls Tryz.prog 95 #[.slice a n c1, .slice d m c2] w (Still (.bool (decide (xs = ys))) w) := by
 have hl : n ≤ 1000000000000 := by rw [← hn]; exact h1.1
 have Hn := Lib.hid hn
 have Hm := Lib.hid hm
 have H1 := Lib.hid h1
 have H2 := Lib.hid h2
 clear hn hm h1 h2
 by_cases hne : n = m
 ·obtain rfl := hne
  go_enter Tryz.func95, Tryz.ntmps95
  go_wp2
  go_loopw [5] (fun i wr => ∃ k q : Nat, k ≤ n ∧ i = .int .i64 k ∧ wr = w.drewN q ∧ xs.take k = ys.take k) (fun i _ => n - (intOf i).toNat)
  case atStart => exact ⟨0, 0, Nat.zero_le _, rfl, rfl, rfl⟩
  case round =>
   obtain ⟨k, q, hk, rfl, rfl, ht⟩ := hrel
   have Ht := Lib.hid ht
   clear ht
   by_cases hlt : k < n
   ·obtain ⟨x, hx⟩ : ∃ x, xs[k]? = some x := ⟨xs[k]'(by rw [Hn.out]; exact hlt), List.getElem?_eq_getElem _⟩
    obtain ⟨y, hy⟩ : ∃ y, ys[k]? = some y := ⟨ys[k]'(by rw [Hm.out]; exact hlt), List.getElem?_eq_getElem _⟩
    obtain ⟨g1, o1, rfl, y1⟩ := cell_of H1.out hx
    obtain ⟨g2, o2, rfl, y2⟩ := cell_of H2.out hy
    have Hx := Lib.hid hx
    have Hy := Lib.hid hy
    have q0 : (0 : Int) ≤ (k : Int) := by omega
    have q1 : (k : Int) < (n : Int) := by omega
    clear hx hy
    by_cases e1 : x = y
    ·subst e1
     go_wp2_with fail
     go_quiet (fail)
     go_wp2_with fail
     go_roundw
     case rel => exact ⟨k + 1, _, by omega, by go_num, rfl, by rw [take_snoc Hx.out, take_snoc Hy.out, Ht.out]⟩
     case measure => simp [intOf]; omega
    ·have E : Hid (decide (xs = ys) = false) := Lib.hid (decide_eq_false (ne_at Hx.out Hy.out e1))
     have d1 : (x != y) = true := by simpa using e1
     clear e1
     go_wp2_with fail
     go_quiet (fail)
     go_wp2_with fail
     go_ret
     exact ⟨by rw [E.out]; rfl, by first | exact dn2 _ _ _ | exact dn1 _ _⟩
   ·obtain rfl : k = n := by omega
    have E : Hid (decide (xs = ys) = true) := Lib.hid (decide_eq_true (by
     have := Ht.out
     rwa [List.take_of_length_le (by rw [Hn.out]; exact Nat.le_refl _), List.take_of_length_le (by rw [Hm.out]; exact Nat.le_refl _)] at this))
    go_wp2
    go_ret
    exact ⟨by rw [E.out]; rfl, dn1 _ _⟩
 ·have E : Hid (decide (xs = ys) = false) := Lib.hid (decide_eq_false (fun e => hne (by rw [← Hn.out, ← Hm.out, e])))
  have d1 : ((n : Int) != (m : Int)) = true := by simp; omega
  clear hne
  go_enter Tryz.func95, Tryz.ntmps95
  go_wp2
  go_ret
  exact ⟨by rw [E.out]; rfl, 0, rfl⟩
theorem implSame_any (p1 p2 : Option Addr) (pn1 pc1 pn2 pc2 : Nat) (pp : Int) (x1 x2 : Option Addr) (xn1 xc1 xn2 xc2 : Nat) (xp : Int) (xs ys us vs : List Int) (w : World) (h1 : PosR w p1 p2 pn1 pn2 xs ys) (h2 : PosR w x1 x2 xn1 xn2 us vs) :
  Calls Tryz.prog 97 #[.agg #[.slice p1 pn1 pc1, .slice p2 pn2 pc2, .int .i64 pp], .agg #[.slice x1 xn1 xc1, .slice x2 xn2 xc2, .int .i64 xp]] w fun e w' => e = .returned (.bool (sameB xs us ys vs pp xp)) ∧ Below w.heap.size w w' := by
 have HS := Lib.hid (pp_new p1 p2 pn1 pc1 pn2 pc2 pp x1 x2 xn1 xc1 xn2 xc2 xp w 33)
 have H1 := Lib.hid h1
 have H2 := Lib.hid h2
 have E := Lib.hid (cmpP_zero xs us ys vs pp xp)
 clear h1 h2
 rw [← E.out]
 generalize hc : cmpP xs us ys vs pp xp = c
 have HC := Lib.hid hc
 clear hc E
 go_enter Tryz.func97, Tryz.ntmps97
 go_wp2_with fail
 refine (implCmp_any p1 p2 pn1 pc1 pn2 pc2 pp x1 x2 xn1 xc1 xn2 xc2 xp xs ys us vs _ (H1.out.below HS.out.2.2) (H2.out.below HS.out.2.2)).mono ?_
 rintro e u ⟨rfl, b⟩
 rw [HC.out]
 have HB := Lib.hid (HS.out.2.2.trans (b.mono HS.out.2.2.size))
 clear b
 go_wp2_with fail
 go_ret
 exact ⟨rfl, HB.out⟩
/- Ch2Pit -/
open Go.ChangeMaps (open_string shut_string)
def pitV (k v : Int) : Int := if k = 0 then v else 0
theorem impl_opposite (p s c l : Int) (st sk re fe ag : Bool) (pit : Int) (w : World) :
  Calls Tryz.prog 188 #[.agg #[.int .i64 p, .int .i64 s, .bool st, .bool sk, .bool re, .bool fe, .bool ag, .int .i64 c, .int .i64 l], .int .i64 pit] w fun e w' => e = .returned (.tuple #[.int .i64 (pitV (pitC (okR p s c l st ag) p pit) (2 * p - 1 - pit)), .int .i64 (pitC (okR p s c l st ag) p pit)]) ∧ Below w.heap.size w w' := by
 rcases pit_cases (okR p s c l st ag) p pit with ⟨hok, hc⟩ | ⟨hok, hout, hc⟩ | ⟨hok, h0, h1, hc⟩
 ·have Hc := Lib.hid hc
  clear hok hc
  go_enter Tryz.func188, Tryz.ntmps188
  go_wp2_with (go_at_call 190; refine (checkPit_any p s c l st sk re fe ag _ _).mono ?_; rintro e w1 ⟨rfl, hb1⟩; obtain ⟨hc1, hf1⟩ := bcell hb1; have hs1 := hb1.size; (try simp at hs1); (try have hz1 : w.heap.size < w1.heap.size := by omega); (try have hy1 : w.heap.size + 1 < w1.heap.size := by omega); (try have hx1 := fun o => hc1 w.heap.size o (by first | omega | (simp; done) | (simp; omega))); (try have hv1 := fun o => hc1 (w.heap.size + 1) o (by first | omega | (simp; done) | (simp; omega))); rw [Hc.out])
  go_ret2
  exact ⟨by rw [Hc.out]; rfl, (by repeat (first | exact Below.refl _ _ | assumption | (refine Below.drew ?_) | (refine Below.setCell ?_ (by first | omega | (simp; done) | (simp; omega)) _) | (refine Below.alloc ?_ (by first | omega | (simp; done) | (simp; omega)) _) | (refine Below.trans ?_ (Below.mono (by assumption) (by first | omega | (simp; done) | (simp; omega))))))⟩
 ·have Hc := Lib.hid hc
  clear hok hc
  go_enter Tryz.func188, Tryz.ntmps188
  go_wp2_with (go_at_call 190; refine (checkPit_any p s c l st sk re fe ag _ _).mono ?_; rintro e w1 ⟨rfl, hb1⟩; obtain ⟨hc1, hf1⟩ := bcell hb1; have hs1 := hb1.size; (try simp at hs1); (try have hz1 : w.heap.size < w1.heap.size := by omega); (try have hy1 : w.heap.size + 1 < w1.heap.size := by omega); (try have hx1 := fun o => hc1 w.heap.size o (by first | omega | (simp; done) | (simp; omega))); (try have hv1 := fun o => hc1 (w.heap.size + 1) o (by first | omega | (simp; done) | (simp; omega))); rw [Hc.out])
  go_ret2
  exact ⟨by rw [Hc.out]; rfl, (by repeat (first | exact Below.refl _ _ | assumption | (refine Below.drew ?_) | (refine Below.setCell ?_ (by first | omega | (simp; done) | (simp; omega)) _) | (refine Below.alloc ?_ (by first | omega | (simp; done) | (simp; omega)) _) | (refine Below.trans ?_ (Below.mono (by assumption) (by first | omega | (simp; done) | (simp; omega))))))⟩
 ·have hbd := okR_bd hok
  have Hc := Lib.hid hc
  clear hok hc
  go_enter Tryz.func188, Tryz.ntmps188
  go_wp2_with (first | (go_at_call 190; refine (checkPit_any p s c l st sk re fe ag _ _).mono ?_; rintro e w1 ⟨rfl, hb1⟩; obtain ⟨hc1, hf1⟩ := bcell hb1; have hs1 := hb1.size; (try simp at hs1); (try have hz1 : w.heap.size < w1.heap.size := by omega); (try have hy1 : w.heap.size + 1 < w1.heap.size := by omega); (try have hx1 := fun o => hc1 w.heap.size o (by first | omega | (simp; done) | (simp; omega))); (try have hv1 := fun o => hc1 (w.heap.size + 1) o (by first | omega | (simp; done) | (simp; omega))); rw [Hc.out]) | (go_at_call 117; refine (board_any p s c l st sk re fe ag (by unfold I64; omega) _).mono ?_; rintro e w2 ⟨rfl, hb2⟩; obtain ⟨hc2, hf2⟩ := bcell hb2; have hs2 := hb2.size; (try simp at hs2); (try have hz2 : w.heap.size < w2.heap.size := by omega); (try have hy2 : w.heap.size + 1 < w2.heap.size := by omega); (try have hx2 := fun o => hc2 w.heap.size o (by first | omega | (simp; done) | (simp; omega))); (try have hv2 := fun o => hc2 (w.heap.size + 1) o (by first | omega | (simp; done) | (simp; omega))); (try have hq21 : w1.heap.size < w2.heap.size := by omega)))
  go_ret2
  exact ⟨by rw [Hc.out]; rfl, (by repeat (first | exact Below.refl _ _ | assumption | (refine Below.drew ?_) | (refine Below.setCell ?_ (by first | omega | (simp; done) | (simp; omega)) _) | (refine Below.alloc ?_ (by first | omega | (simp; done) | (simp; omega)) _) | (refine Below.trans ?_ (Below.mono (by assumption) (by first | omega | (simp; done) | (simp; omega))))))⟩
/- GameO -/
structure GamW (w : World) (a1 a2 : Option Addr) (an1 an2 : Nat) (mm : Option Addr) (mn : Nat) (b1 b2 : Option Addr) (bn1 bn2 : Nat) (sx sy ms nx ny : List Int) : Prop where
 s : PosW w a1 a2 an1 an2 sx sy
 m : ms.length ≤ 1000000000000 → RowN w mm ms
 lm : ms.length = mn
 mn : mn ≤ 9223372036854775807
 n : PosW w b1 b2 bn1 bn2 nx ny
structure GV where
 x : RV
 q : PV
 mm : Option Addr
 mn : Nat
 mc : Nat
 ms : List Int
 r : PV
 rg : Int
def RV.cells (x : RV) : List Value := [.int .i64 x.p, .int .i64 x.s, .bool x.st, .bool x.sk, .bool x.re, .bool x.fe, .bool x.ag, .int .i64 x.c, .int .i64 x.l]
def PV.cells (q : PV) : List Value := [.slice q.a1 q.n1 q.c1, .slice q.a2 q.n2 q.c2, .int .i64 q.pl]
def GV.cells (g : GV) : List Value := [.int .i64 g.x.p, .int .i64 g.x.s, .bool g.x.st, .bool g.x.sk, .bool g.x.re, .bool g.x.fe, .bool g.x.ag, .int .i64 g.x.c, .int .i64 g.x.l, .slice g.q.a1 g.q.n1 g.q.c1, .slice g.q.a2 g.q.n2 g.q.c2, .int .i64 g.q.pl, .slice g.mm g.mn g.mc, .slice g.r.a1 g.r.n1 g.r.c1, .slice g.r.a2 g.r.n2 g.r.c2, .int .i64 g.r.pl, .int .i64 g.rg]
def GV.val (g : GV) : Value := .agg g.cells.toArray
def GV.In (g : GV) (w : World) : Prop := g.x.Fit ∧ I64 g.q.pl ∧ I64 g.r.pl ∧ I64 g.rg ∧ GamW w g.q.a1 g.q.a2 g.q.n1 g.q.n2 g.mm g.mn g.r.a1 g.r.a2 g.r.n1 g.r.n2 g.q.xs g.q.ys g.ms g.r.xs g.r.ys
section
variable {H : Type} {enc : TypeId × Value → H} {P : Program} {w : World} {base : Nat}
theorem rules_cells {t i b : TypeId} {f0 f1 f2 f3 f4 f5 f6 f7 f8 : Field} {fuel : Nat} {cs : List Value} {d : DataW H × List MemPlace} (hs : P.underlying t = some (.struct #[f0, f1, f2, f3, f4, f5, f6, f7, f8]))
  (hi : P.underlying i = some (.int .i64)) (hb : P.underlying b = some .bool)
  (hone : (oneCellFields P #[f0, f1, f2, f3, f4, f5, f6, f7, f8] && decide (f0.type = i) && decide (f1.type = i) && decide (f2.type = b) && decide (f3.type = b) && decide (f4.type = b) && decide (f5.type = b) && decide (f6.type = b) && decide (f7.type = i) && decide (f8.type = i)) = true) (hC : P.cellsOf t = 9)
  (hf : DataW.trod enc P w base (fun _ => true) true fuel t cs = some d) : ∃ x : RV, cs = x.cells ∧ x.Fit := by
 simp only [Bool.and_eq_true, decide_eq_true_eq] at hone
 obtain ⟨⟨⟨⟨⟨⟨⟨⟨⟨hone, t0⟩, t1⟩, t2⟩, t3⟩, t4⟩, t5⟩, t6⟩, t7⟩, t8⟩ := hone
 obtain ⟨xs, n, _, hx, hsz, hlen, hg⟩ := DataW.trod_struct hs hf
 match cs, hsz.trans hC with
 | [c0, c1, c2, c3, c4, c5, c6, c7, c8], _ =>
  obtain ⟨o0, k0⟩ := hone_of hone 0 f0 rfl
  obtain ⟨o1, k1⟩ := hone_of hone 1 f1 rfl
  obtain ⟨o2, k2⟩ := hone_of hone 2 f2 rfl
  obtain ⟨o3, k3⟩ := hone_of hone 3 f3 rfl
  obtain ⟨o4, k4⟩ := hone_of hone 4 f4 rfl
  obtain ⟨o5, k5⟩ := hone_of hone 5 f5 rfl
  obtain ⟨o6, k6⟩ := hone_of hone 6 f6 rfl
  obtain ⟨o7, k7⟩ := hone_of hone 7 f7 rfl
  obtain ⟨o8, k8⟩ := hone_of hone 8 f8 rfl
  match xs, hlen with
  | [y0, y1, y2, y3, y4, y5, y6, y7, y8], _ =>
   have g0 : DataW.trod enc P w base (fun _ => true) true n f0.type [c0] = some y0 := by simpa [o0, k0] using hg 0 f0 rfl
   rw [t0] at g0
   have g1 : DataW.trod enc P w base (fun _ => true) true n f1.type [c1] = some y1 := by simpa [o1, k1] using hg 1 f1 rfl
   rw [t1] at g1
   have g2 : DataW.trod enc P w base (fun _ => true) true n f2.type [c2] = some y2 := by simpa [o2, k2] using hg 2 f2 rfl
   rw [t2] at g2
   have g3 : DataW.trod enc P w base (fun _ => true) true n f3.type [c3] = some y3 := by simpa [o3, k3] using hg 3 f3 rfl
   rw [t3] at g3
   have g4 : DataW.trod enc P w base (fun _ => true) true n f4.type [c4] = some y4 := by simpa [o4, k4] using hg 4 f4 rfl
   rw [t4] at g4
   have g5 : DataW.trod enc P w base (fun _ => true) true n f5.type [c5] = some y5 := by simpa [o5, k5] using hg 5 f5 rfl
   rw [t5] at g5
   have g6 : DataW.trod enc P w base (fun _ => true) true n f6.type [c6] = some y6 := by simpa [o6, k6] using hg 6 f6 rfl
   rw [t6] at g6
   have g7 : DataW.trod enc P w base (fun _ => true) true n f7.type [c7] = some y7 := by simpa [o7, k7] using hg 7 f7 rfl
   rw [t7] at g7
   have g8 : DataW.trod enc P w base (fun _ => true) true n f8.type [c8] = some y8 := by simpa [o8, k8] using hg 8 f8 rfl
   rw [t8] at g8
   obtain ⟨m0, rfl, w0⟩ := cell_int hi g0
   obtain ⟨m1, rfl, w1⟩ := cell_int hi g1
   obtain ⟨m2, rfl⟩ := cell_bool hb g2
   obtain ⟨m3, rfl⟩ := cell_bool hb g3
   obtain ⟨m4, rfl⟩ := cell_bool hb g4
   obtain ⟨m5, rfl⟩ := cell_bool hb g5
   obtain ⟨m6, rfl⟩ := cell_bool hb g6
   obtain ⟨m7, rfl, w7⟩ := cell_int hi g7
   obtain ⟨m8, rfl, w8⟩ := cell_int hi g8
   exact ⟨⟨m0, m1, m2, m3, m4, m5, m6, m7, m8⟩, rfl, w0, w1, w7, w8⟩
theorem pos_cells {t s i : TypeId} {f0 f1 f2 : Field} {fuel : Nat} {cs : List Value} {d : DataW H × List MemPlace} (ht : P.underlying t = some (.struct #[f0, f1, f2])) (hs : P.underlying s = some (.slice i)) (hi : P.underlying i = some (.int .i64)) (hci : P.cellsOf i = 1)
  (hone : (oneCellFields P #[f0, f1, f2] && decide (f0.type = s) && decide (f1.type = s) && decide (f2.type = i)) = true) (hC : P.cellsOf t = 3)
  (hf : DataW.trod enc P w base (fun _ => true) true fuel t cs = some d) : ∃ q : PV, cs = q.cells ∧ q.In w := by
 simp only [Bool.and_eq_true, decide_eq_true_eq] at hone
 obtain ⟨⟨⟨hone, t0⟩, t1⟩, t2⟩ := hone
 obtain ⟨xs, n, _, hx, hsz, hlen, hg⟩ := DataW.trod_struct ht hf
 match cs, hsz.trans hC with
 | [c0, c1, c2], _ =>
  obtain ⟨o0, k0⟩ := hone_of hone 0 f0 rfl
  obtain ⟨o1, k1⟩ := hone_of hone 1 f1 rfl
  obtain ⟨o2, k2⟩ := hone_of hone 2 f2 rfl
  match xs, hlen with
  | [y0, y1, y2], _ =>
   have g0 : DataW.trod enc P w base (fun _ => true) true n f0.type [c0] = some y0 := by simpa [o0, k0] using hg 0 f0 rfl
   rw [t0] at g0
   have g1 : DataW.trod enc P w base (fun _ => true) true n f1.type [c1] = some y1 := by simpa [o1, k1] using hg 1 f1 rfl
   rw [t1] at g1
   have g2 : DataW.trod enc P w base (fun _ => true) true n f2.type [c2] = some y2 := by simpa [o2, k2] using hg 2 f2 rfl
   rw [t2] at g2
   obtain ⟨a1, n1, e1, us, rfl, l1, m1, r1⟩ := cell_row hs hi hci g0
   obtain ⟨a2, n2, e2, vs, rfl, l2, m2, r2⟩ := cell_row hs hi hci g1
   obtain ⟨m, rfl, hw⟩ := cell_int hi g2
   exact ⟨⟨a1, a2, n1, e1, n2, e2, m, us, vs⟩, rfl, hw, ⟨r1, r2, l1, l2, m1, m2⟩⟩
theorem open_game {r : Reach} {b0 : Nat} {t R Q s i b : TypeId} {h0 h1 h2 h3 h4 f0 f1 f2 f3 f4 f5 f6 f7 f8 e0 e1 e2 : Field} {v : Value} {d : DataW H} {ps : List MemPlace} (hG : P.underlying t = some (.struct #[h0, h1, h2, h3, h4])) (hR : P.underlying R = some (.struct #[f0, f1, f2, f3, f4, f5, f6, f7, f8])) (hQ : P.underlying Q = some (.struct #[e0, e1, e2]))
  (hs : P.underlying s = some (.slice i)) (hi : P.underlying i = some (.int .i64)) (hb : P.underlying b = some .bool) (hci : P.cellsOf i = 1)
  (hk : (decide (h0.type = R) && decide (h1.type = Q) && decide (h2.type = s) && decide (h3.type = Q) && decide (h4.type = i) && decide (h0.offset = 0) && decide (h1.offset = 9) && decide (h2.offset = 12) && decide (h3.offset = 13) && decide (h4.offset = 16) && decide (P.cellsOf R = 9) && decide (P.cellsOf Q = 3) && decide (P.cellsOf s = 1)) = true) (hC : P.cellsOf t = 17)
  (hone : (oneCellFields P #[f0, f1, f2, f3, f4, f5, f6, f7, f8] && decide (f0.type = i) && decide (f1.type = i) && decide (f2.type = b) && decide (f3.type = b) && decide (f4.type = b) && decide (f5.type = b) && decide (f6.type = b) && decide (f7.type = i) && decide (f8.type = i)) = true)
  (hone2 : (oneCellFields P #[e0, e1, e2] && decide (e0.type = s) && decide (e1.type = s) && decide (e2.type = i)) = true)
  (hv : Value.okWide P w r b0 t v) (h : DataW.Trod enc P w base (fun _ => true) true t v d ps) : ∃ g : GV, v = g.val ∧ g.In w := by
 simp only [Bool.and_eq_true, decide_eq_true_eq] at hk
 obtain ⟨⟨⟨⟨⟨⟨⟨⟨⟨⟨⟨⟨t0, t1⟩, t2⟩, t3⟩, t4⟩, o0⟩, o1⟩, o2⟩, o3⟩, o4⟩, kR⟩, kQ⟩, ks⟩ := hk
 obtain ⟨cs, rfl, hsz⟩ := okWide_struct hG hv
 obtain ⟨l⟩ := cs
 match l, hsz.trans hC with
 | [c0, c1, c2, c3, c4, c5, c6, c7, c8, c9, c10, c11, c12, c13, c14, c15, c16], _ =>
  obtain ⟨fuel, hf⟩ := h
  obtain ⟨xs, n, _, hx, _, hlen, hg⟩ := DataW.trod_struct hG hf
  match xs, hlen with
  | [y0, y1, y2, y3, y4], _ =>
   have g0 : DataW.trod enc P w base (fun _ => true) true n R [c0, c1, c2, c3, c4, c5, c6, c7, c8] = some y0 := by simpa [Value.cells, o0, t0, kR] using hg 0 h0 rfl
   have g1 : DataW.trod enc P w base (fun _ => true) true n Q [c9, c10, c11] = some y1 := by simpa [Value.cells, o1, t1, kQ] using hg 1 h1 rfl
   have g2 : DataW.trod enc P w base (fun _ => true) true n s [c12] = some y2 := by simpa [Value.cells, o2, t2, ks] using hg 2 h2 rfl
   have g3 : DataW.trod enc P w base (fun _ => true) true n Q [c13, c14, c15] = some y3 := by simpa [Value.cells, o3, t3, kQ] using hg 3 h3 rfl
   have g4 : DataW.trod enc P w base (fun _ => true) true n i [c16] = some y4 := by simpa [Value.cells, o4, t4, hci] using hg 4 h4 rfl
   obtain ⟨x, ex, hx⟩ := rules_cells hR hi hb hone kR g0
   obtain ⟨q, eq, hq⟩ := pos_cells hQ hs hi hci hone2 kQ g1
   obtain ⟨mm, mn, mc, ms, rfl, lm, hm, rm⟩ := cell_row hs hi hci g2
   obtain ⟨r, er, hr⟩ := pos_cells hQ hs hi hci hone2 kQ g3
   obtain ⟨rg, rfl, hrg⟩ := cell_int hi g4
   simp only [RV.cells, List.cons.injEq, and_true] at ex
   obtain ⟨rfl, rfl, rfl, rfl, rfl, rfl, rfl, rfl, rfl⟩ := ex
   simp only [PV.cells, List.cons.injEq, and_true] at eq er
   obtain ⟨rfl, rfl, rfl⟩ := eq
   obtain ⟨rfl, rfl, rfl⟩ := er
   exact ⟨⟨x, q, mm, mn, mc, ms, r, rg⟩, rfl, hx, hq.1, hr.1, hrg, ⟨hq.2, rm, lm, hm, hr.2⟩⟩
end
/- Sum4 -/
theorem posB_take {l : List Int} (h : posB l = true) (k : Nat) : posB (l.take k) = true := by
 unfold posB at h ⊢
 rw [List.all_eq_true] at h ⊢
 exact fun x hx => h x (List.mem_of_mem_take hx)
theorem tot_take_le {l : List Int} (h : posB l = true) (k : Nat) : 0 ≤ tot (l.take k) ∧ tot (l.take k) ≤ tot l := by
 have h1 := posB_tot (posB_take h k)
 have h2 := posB_tot (posB_drop h k)
 have h3 : tot (l.take k ++ l.drop k) = tot l := congrArg tot (List.take_append_drop _ _)
 rw [tot_app] at h3
 omega
theorem sumOf_any (a : Option Addr) (c n : Nat) (xs : List Int) (w : World) (hn : xs.length = n) (h : RowN w a xs) (hp : posB xs = true) (ht : tot xs ≤ 96) :
  Calls Tryz.prog 134 #[.slice a n c] w fun e w' => e = .returned (.int .i64 (tot xs)) ∧ w = w' := by
 have hl : n ≤ 1000000000000 := by rw [← hn]; exact h.1
 have Hn := Lib.hid hn
 have H := Lib.hid h
 have HP := Lib.hid hp
 have HT := Lib.hid ht
 clear hn h hp ht
 go_enter Tryz.func134, Tryz.ntmps134
 go_wp2
 go_loop [3, 8] (fun s i => ∃ (k : Nat) (t : Int), k ≤ n ∧ i = .int .i64 k ∧ s = .int .i64 t ∧ t = tot (xs.take k)) (fun _ i => n - (intOf i).toNat)
 case atStart => exact ⟨0, 0, Nat.zero_le _, rfl, rfl, rfl⟩
 case round =>
  obtain ⟨k, t, hk, rfl, rfl, ht⟩ := hrel
  have hb := tot_take_le HP.out k
  rw [← ht] at hb
  obtain ⟨b0, b1⟩ := hb
  have b2 := HT.out
  have b3 : t ≤ 96 := by omega
  have Ht := Lib.hid ht
  clear ht b1 b2
  by_cases hlt : k < n
  ·obtain ⟨x, hx⟩ : ∃ x, xs[k]? = some x := ⟨xs[k]'(by rw [Hn.out]; exact hlt), List.getElem?_eq_getElem _⟩
   have hne : xs ≠ [] := by intro h; subst h; cases hx
   obtain ⟨g, o, rfl, l1, x1⟩ := H.out.2.resolve_left hne
   have y1 := x1 k x hx
   have x0 := posB_mem HP.out hx
   have x96 : x ≤ 96 := by
    have := posB_le HP.out x (List.mem_of_getElem? hx)
    have := HT.out
    omega
   have Hx := Lib.hid hx
   have q0 : (0 : Int) ≤ (k : Int) := by omega
   have q1 : (k : Int) < (n : Int) := by omega
   clear x1 hx hne
   go_wp2
   go_round
   case rel => exact ⟨k + 1, t + x, by omega, by go_num, by go_num, by rw [take_next Hx.out, tot_snoc, Ht.out]⟩
   case measure => simp [intOf]; omega
  ·obtain rfl : k = n := by omega
   have e1 : xs.take k = xs := List.take_of_length_le (by rw [Hn.out]; exact Nat.le_refl _)
   have e2 : t = tot xs := by rw [Ht.out, e1]
   have E2 := Lib.hid e2
   clear e1 e2
   go_wp2
   go_ret
   exact ⟨by rw [E2.out]; rfl, rfl⟩
/- Side4 -/
def halfL (xs : List Int) (P : Nat) (player : Int) : List Int := (xs.drop (player.toNat * P)).take P
theorem RowN.part {w : World} {g o : Nat} {xs : List Int} (h : RowN w (some ⟨g, o, none⟩) xs) (hne : xs ≠ []) (k m : Nat) : RowN w (some ⟨g, o + k, none⟩) ((xs.drop k).take m) := by
 obtain ⟨hl, h | ⟨g', o', ha, hg, hx⟩⟩ := h
 ·exact absurd h hne
 ·cases ha
  refine ⟨by rw [List.length_take, List.length_drop]; omega, .inr ⟨g, o + k, rfl, hg, fun i x hi => ?_⟩⟩
  rw [List.getElem?_take] at hi
  split at hi
  ·rw [List.getElem?_drop] at hi
   rw [Nat.add_assoc]
   exact hx _ _ hi
  ·cases hi
def SideP (xs : List Int) (P : Nat) (player : Int) (w : World) (e : Ending) (w' : World) : Prop :=
 ∃ a c, e = .returned (.slice a P c) ∧ RowN w' a (halfL xs P player) ∧ P ≤ c ∧ Below w.heap.size w w'
theorem half_len {xs : List Int} {P : Nat} {player : Int} (hn : xs.length = 2 * P) (h : player = 0 ∨ player = 1) : (halfL xs P player).length = P := by
 unfold halfL
 rw [List.length_take, List.length_drop]
 rcases h with rfl | rfl <;> simp <;> omega
theorem side_any (P : Nat) (s c l : Int) (st sk re fe ag : Bool) (p1 p2 : Option Addr) (pn1 pc1 pn2 pc2 : Nat) (pp : Int) (xs : List Int) (player : Int) (w : World) (hn : xs.length = pn1) (h : RowN w p1 xs) (hP : 2 ≤ P) (hP2 : P ≤ 8) (h2 : pn1 = 2 * P) (hc : pn1 ≤ pc1) (hp : player = 0 ∨ player = 1) :
  Calls Tryz.prog 135 #[.agg #[.slice p1 pn1 pc1, .slice p2 pn2 pc2, .int .i64 pp], .agg #[.int .i64 P, .int .i64 s, .bool st, .bool sk, .bool re, .bool fe, .bool ag, .int .i64 c, .int .i64 l], .int .i64 player] w (SideP xs P player w) := by
 have hne : xs ≠ [] := by intro e; rw [e] at hn; simp at hn; omega
 obtain ⟨g, o, rfl, hg, hx⟩ := h.2.resolve_left hne
 have H := Lib.hid h
 have Hne := Lib.hid hne
 clear hx h hne
 have BB := Lib.hid (((Below.refl w.heap.size w).alloc (Nat.le_refl _) (.cells #[.slice (some ⟨g, o, none⟩) (2 * P) pc1, .slice p2 pn2 pc2, .int .i64 pp] 33)).alloc (by simp) (.cells #[.int .i64 P, .int .i64 s, .bool st, .bool sk, .bool re, .bool fe, .bool ag, .int .i64 c, .int .i64 l] 32))
 rcases hp with rfl | rfl
 ·have hr : RowN w (some ⟨g, o, none⟩) (halfL xs P 0) := by
   have := H.out.part Hne.out 0 P
   rw [Nat.add_zero] at this
   unfold halfL
   simpa using this
  have HR := Lib.hid hr
  clear hr
  go_enter Tryz.func135, Tryz.ntmps135
  go_wp2
  go_ret
  exact ⟨_, _, rfl, HR.out.below BB.out, by omega, BB.out⟩
 ·have hr : RowN w (some ⟨g, o + P, none⟩) (halfL xs P 1) := by
   have := H.out.part Hne.out P P
   unfold halfL
   simpa using this
  have HR := Lib.hid hr
  have he : 2 * P - P = P := by omega
  have HE := Lib.hid he
  clear hr he
  go_enter Tryz.func135, Tryz.ntmps135
  go_wp2
  go_ret
  refine ⟨some ⟨g, o + P, none⟩, pc1 - P, ?_, HR.out.below BB.out, by omega, BB.out⟩
  show Ending.returned (.slice (some ⟨g, o + P, none⟩) (2 * P - P) (pc1 - P)) = _
  rw [HE.out]
theorem half_tot {xs : List Int} {P : Nat} {player : Int} (hn : xs.length = 2 * P) (hp : player = 0 ∨ player = 1) (h : posB xs = true) : posB (halfL xs P player) = true ∧ tot (halfL xs P player) ≤ tot xs := by
 unfold halfL
 refine ⟨posB_take (posB_drop h _) _, ?_⟩
 have h1 := tot_take_le (posB_drop h (player.toNat * P)) P
 have h2 := posB_tot (posB_take h (player.toNat * P))
 have h3 : tot (xs.take (player.toNat * P) ++ xs.drop (player.toNat * P)) = tot xs := congrArg tot (List.take_append_drop _ _)
 rw [tot_app] at h3
 omega
theorem l04Side_any (P : Nat) (b : Nat) (a : Option Addr) (cc n : Nat) (xs : List Int) (player : Int) (w : World) (c0 : w.cell? ⟨b, 0, none⟩ = some (.int .i64 P)) (hn : xs.length = n) (h : RowN w a xs) (hP : 2 ≤ P) (hP2 : P ≤ 8) (h2 : n = 2 * P) (hp : player = 0 ∨ player = 1) (hpos : posB xs = true) (ht : tot xs ≤ 96) :
  Calls Tryz.prog 133 #[.pointer (some ⟨b, 0, none⟩), .slice a n cc, .int .i64 player] w fun e w' => e = .returned (.int .i64 (tot (halfL xs P player))) ∧ w = w' := by
 have hne : xs ≠ [] := by intro e; rw [e] at hn; simp at hn; omega
 obtain ⟨g, o, rfl, hg, hx⟩ := h.2.resolve_left hne
 have hh := half_tot (hn.trans h2) hp hpos
 have HX := Lib.hid hx
 have HH := Lib.hid hh.1
 have HT : Hid (tot (halfL xs P player) ≤ 96) := Lib.hid (by omega)
 have HL := Lib.hid (half_len (hn.trans h2) hp)
 have Hn := Lib.hid hn
 have hlen : ∀ k, k < P → ∃ x, (halfL xs P player)[k]? = some x ∧ xs[player.toNat * P + k]? = some x := fun k hk => by
  have h1 : k < (halfL xs P player).length := by rw [half_len (hn.trans h2) hp]; exact hk
  refine ⟨_, List.getElem?_eq_getElem h1, ?_⟩
  have h3 := List.getElem?_eq_getElem h1
  unfold halfL at h3 ⊢
  rw [List.getElem?_take, if_pos hk, List.getElem?_drop] at h3
  exact h3
 have HLen := Lib.hid hlen
 generalize hhl : halfL xs P player = hs at *
 clear hhl hlen hh hx h hne hn hpos ht
 rcases (show player = 0 ∨ player ≠ 0 from Decidable.em _) with rfl | hno
 ·go_enter Tryz.func133, Tryz.ntmps133
  go_wp2
  go_loop [7, 8] (fun s i => ∃ (k : Nat) (t : Int), k ≤ P ∧ i = .int .i64 ((k : Nat) : Int) ∧ s = .int .i64 t ∧ t = tot (hs.take k)) (fun _ i => 2 * P - (intOf i).toNat)
  case atStart => exact ⟨0, 0, Nat.zero_le _, by first | rfl | go_num, rfl, rfl⟩
  case round =>
   obtain ⟨k, t, hk, rfl, rfl, ht⟩ := hrel
   have hb := tot_take_le HH.out k
   rw [← ht] at hb
   obtain ⟨b0, b1⟩ := hb
   have b2 := HT.out
   have b3 : t ≤ 96 := by omega
   have Ht := Lib.hid ht
   clear ht b1 b2
   by_cases hlt : k < P
   ·obtain ⟨x, hx, hx2⟩ := HLen.out k hlt
    simp at hx2
    have y1 := HX.out _ _ hx2
    have x0 := posB_mem HH.out hx
    have x96 : x ≤ 96 := by
     have := posB_le HH.out x (List.mem_of_getElem? hx)
     have := HT.out
     omega
    have Hx := Lib.hid hx
    have q0 : (0 : Int) ≤ ((k : Nat) : Int) := by omega
    have q1 : ((k : Nat) : Int) < (n : Int) := by omega
    have q2 : ((k : Nat) : Int) < 0 + (P : Int) := by omega
    clear hx hx2
    go_wp2
    go_round
    case rel => exact ⟨k + 1, t + x, by omega, by go_num, by go_num, by rw [take_next Hx.out, tot_snoc, Ht.out]⟩
    case measure => simp [intOf]; omega
   ·obtain rfl : k = P := by omega
    have e1 : hs.take k = hs := List.take_of_length_le (by rw [HL.out]; exact Nat.le_refl _)
    have e2 : t = tot hs := by rw [Ht.out, e1]
    have E2 := Lib.hid e2
    clear e1 e2
    go_wp2
    go_ret
    exact ⟨by rw [E2.out]; rfl, rfl⟩
 rcases (show player = 1 ∨ player ≠ 1 from Decidable.em _) with rfl | hno
 ·go_enter Tryz.func133, Tryz.ntmps133
  go_wp2
  go_loop [7, 8] (fun s i => ∃ (k : Nat) (t : Int), k ≤ P ∧ i = .int .i64 ((P + k : Nat) : Int) ∧ s = .int .i64 t ∧ t = tot (hs.take k)) (fun _ i => 2 * P - (intOf i).toNat)
  case atStart => exact ⟨0, 0, Nat.zero_le _, by first | rfl | go_num, rfl, rfl⟩
  case round =>
   obtain ⟨k, t, hk, rfl, rfl, ht⟩ := hrel
   have hb := tot_take_le HH.out k
   rw [← ht] at hb
   obtain ⟨b0, b1⟩ := hb
   have b2 := HT.out
   have b3 : t ≤ 96 := by omega
   have Ht := Lib.hid ht
   clear ht b1 b2
   by_cases hlt : k < P
   ·obtain ⟨x, hx, hx2⟩ := HLen.out k hlt
    simp at hx2
    have y1 := HX.out _ _ hx2
    have x0 := posB_mem HH.out hx
    have x96 : x ≤ 96 := by
     have := posB_le HH.out x (List.mem_of_getElem? hx)
     have := HT.out
     omega
    have Hx := Lib.hid hx
    have q0 : (0 : Int) ≤ ((P + k : Nat) : Int) := by omega
    have q1 : ((P + k : Nat) : Int) < (n : Int) := by omega
    have q2 : ((P + k : Nat) : Int) < ((P : Nat) : Int) + (P : Int) := by omega
    clear hx hx2
    go_wp2
    go_round
    case rel => exact ⟨k + 1, t + x, by omega, by go_num, by go_num, by rw [take_next Hx.out, tot_snoc, Ht.out]⟩
    case measure => simp [intOf]; omega
   ·obtain rfl : k = P := by omega
    have e1 : hs.take k = hs := List.take_of_length_le (by rw [HL.out]; exact Nat.le_refl _)
    have e2 : t = tot hs := by rw [Ht.out, e1]
    have E2 := Lib.hid e2
    clear e1 e2
    go_wp2
    go_ret
    exact ⟨by rw [E2.out]; rfl, rfl⟩
 ·omega
/- Cap6 -/
def ownB (p pl k : Int) : Bool := decide (pl * p ≤ k) && decide (k < (pl + 1) * p)
theorem own_div {p pl k : Int} (hp : 2 ≤ p) (h0 : 0 ≤ k) (h1 : k < 2 * p) (hpl : pl = 0 ∨ pl = 1) : (k / p = pl) ↔ ownB p pl k = true := by
 have e : k / p = if k < p then 0 else 1 := by
  by_cases h : k < p
  ·rw [if_pos h, Int.ediv_eq_zero_of_lt h0 h]
  ·rw [if_neg h]
   have e2 : k = (k - p) + p * 1 := by omega
   rw [e2, Int.add_mul_ediv_left _ _ (by omega), Int.ediv_eq_zero_of_lt (by omega) (by omega)]
   rfl
 rw [e]
 unfold ownB
 rcases hpl with rfl | rfl <;> split <;> simp <;> omega
theorem own_other {p pl k : Int} (hp : 2 ≤ p) (h0 : 0 ≤ k) (h1 : k < 2 * p) (hpl : pl = 0 ∨ pl = 1) : ownB p (1 - pl) k = !(ownB p pl k) := by
 unfold ownB
 rcases hpl with rfl | rfl
 ·by_cases h : k < p
  ·have e1 : decide ((1 - 0) * p ≤ k) = false := by simp; omega
   have e2 : decide (0 * p ≤ k) = true := by simp; omega
   have e3 : decide (k < (0 + 1) * p) = true := by simp; omega
   rw [e1, e2, e3]; rfl
  ·have e1 : decide ((1 - 0) * p ≤ k) = true := by simp; omega
   have e2 : decide (k < (1 - 0 + 1) * p) = true := by simp; omega
   have e3 : decide (k < (0 + 1) * p) = false := by simp; omega
   rw [e1, e2, e3]; simp
 ·by_cases h : k < p
  ·have e1 : decide ((1 - 1) * p ≤ k) = true := by simp; omega
   have e2 : decide (k < (1 - 1 + 1) * p) = true := by simp; omega
   have e3 : decide (1 * p ≤ k) = false := by simp; omega
   rw [e1, e2, e3]; simp
  ·have e1 : decide (k < (1 - 1 + 1) * p) = false := by simp; omega
   have e2 : decide (1 * p ≤ k) = true := by simp; omega
   have e3 : decide (k < (1 + 1) * p) = true := by simp; omega
   rw [e1, e2, e3]; simp
def vAt (xs : List Int) (k : Int) : Int := xs.getD k.toNat 0
theorem vAt_cell {xs : List Int} {k : Int} (h0 : 0 ≤ k) (h1 : k < xs.length) : xs[k.toNat]? = some (vAt xs k) := by
 unfold vAt
 rw [List.getD_eq_getElem?_getD, List.getElem?_eq_getElem (by omega)]
 rfl
theorem vAt_bd {xs : List Int} (h : posB xs = true) (ht : tot xs ≤ 96) (k : Int) : 0 ≤ vAt xs k ∧ vAt xs k ≤ 96 := by
 unfold vAt
 rw [List.getD_eq_getElem?_getD]
 cases e : xs[k.toNat]? with
 | none => simp
 | some x =>
  have h1 := posB_mem h e
  have h2 := posB_le h x (List.mem_of_getElem? e)
  simp
  omega
def twF (p pl : Int) (xs : List Int) : Nat → List Int
 | 0 => []
 | k + 1 => if ownB p (1 - pl) k && (decide (vAt xs k = 2) || decide (vAt xs k = 3)) then (k : Int) :: twF p pl xs k else []
theorem tw_no {p pl : Int} {xs : List Int} {k : Nat} (h : (ownB p (1 - pl) k && (decide (vAt xs k = 2) || decide (vAt xs k = 3))) = false) : twF p pl xs (k + 1) = [] := by
 unfold twF
 rw [h]
 rfl
theorem tw_yes {p pl : Int} {xs : List Int} {k : Nat} (h : (ownB p (1 - pl) k && (decide (vAt xs k = 2) || decide (vAt xs k = 3))) = true) : twF p pl xs (k + 1) = (k : Int) :: twF p pl xs k := by
 rw [twF, h]
 rfl
theorem tw_in (p pl : Int) (xs : List Int) : ∀ n k, k ∈ twF p pl xs n → 0 ≤ k ∧ k < (n : Int)
 | 0, k, h => by cases h
 | n + 1, k, h => by
  unfold twF at h
  split at h
  ·rcases List.mem_cons.1 h with rfl | h
   ·omega
   ·have := tw_in p pl xs n k h
    omega
  ·cases h
theorem tw_nodup (p pl : Int) (xs : List Int) : ∀ n, (twF p pl xs n).Nodup
 | 0 => List.nodup_nil
 | n + 1 => by
  unfold twF
  split
  ·refine List.nodup_cons.2 ⟨fun h => ?_, tw_nodup p pl xs n⟩
   have := tw_in p pl xs n _ h
   omega
  ·exact List.nodup_nil
theorem tw_len (p pl : Int) (xs : List Int) : ∀ n, (twF p pl xs n).length ≤ n
 | 0 => Nat.le_refl _
 | n + 1 => by
  unfold twF
  split
  ·have := tw_len p pl xs n
   simp only [List.length_cons]
   omega
  ·exact Nat.zero_le _
def rawF (cp p pl la : Int) (xs : List Int) : List Int :=
 if la < 0 then [] else
 if cp = 1 then twF p pl xs (la.toNat + 1) else
 if cp = 2 then (if ownB p pl la && decide (vAt xs la = 1) && decide (0 < vAt xs (2 * p - 1 - la)) then [la, 2 * p - 1 - la] else []) else
 if cp = 3 then (if ownB p (1 - pl) la && decide (vAt xs la % 2 = 0) then [la] else []) else []
theorem raw_in {cp p pl la : Int} {xs : List Int} (h : la < 2 * p) : ∀ k ∈ rawF cp p pl la xs, 0 ≤ k ∧ k < 2 * p := by
 unfold rawF
 intro k hk
 split at hk
 ·cases hk
 ·split at hk
  ·have := tw_in _ _ _ _ _ hk
   omega
  ·split at hk
   ·split at hk
    ·rcases List.mem_cons.1 hk with rfl | hk
     ·omega
     ·rcases List.mem_cons.1 hk with rfl | hk
      ·omega
      ·cases hk
    ·cases hk
   ·split at hk
    ·split at hk
     ·rcases List.mem_cons.1 hk with rfl | hk
      ·omega
      ·cases hk
     ·cases hk
    ·cases hk
theorem raw_nodup (cp p pl la : Int) (xs : List Int) : (rawF cp p pl la xs).Nodup := by
 unfold rawF
 split
 ·exact List.nodup_nil
 ·split
  ·exact tw_nodup _ _ _ _
  ·split
   ·split
    ·refine List.nodup_cons.2 ⟨fun h => ?_, List.nodup_cons.2 ⟨(fun h => by cases h), List.nodup_nil⟩⟩
     rcases List.mem_cons.1 h with h | h
     ·omega
     ·cases h
    ·exact List.nodup_nil
   ·split
    ·split
     ·exact List.nodup_cons.2 ⟨(fun h => by cases h), List.nodup_nil⟩
     ·exact List.nodup_nil
    ·exact List.nodup_nil
theorem raw_len {cp p pl la : Int} {xs : List Int} (hp : p ≤ 8) (hp2 : 2 ≤ p) (h : la < 2 * p) : (rawF cp p pl la xs).length ≤ 16 := by
 unfold rawF
 split
 ·simp
 ·split
  ·have := tw_len p pl xs (la.toNat + 1)
   omega
  ·split
   ·split <;> simp
   ·split
    ·split <;> simp
    ·simp
def sumAt (xs L : List Int) : Int := tot (L.map (vAt xs))
theorem sumAt_snoc (xs L : List Int) (k : Int) : sumAt xs (L ++ [k]) = sumAt xs L + vAt xs k := by
 unfold sumAt
 rw [List.map_append, tot_app]
 simp [tot]
theorem sumAt_bd {xs : List Int} (h : posB xs = true) (ht : tot xs ≤ 96) (L : List Int) : 0 ≤ sumAt xs L ∧ sumAt xs L ≤ 96 * L.length := by
 unfold sumAt
 induction L with
 | nil => simp [tot]
 | cons k r ih =>
  have := vAt_bd h ht k
  simp only [List.map_cons, tot, List.length_cons]
  omega
def takenF (p pl : Int) (xs L : List Int) : Int := sumAt xs (L.filter (ownB p (1 - pl)))
theorem taken_snoc (p pl : Int) (xs L : List Int) (k : Int) : takenF p pl xs (L ++ [k]) = takenF p pl xs L + (if ownB p (1 - pl) k then vAt xs k else 0) := by
 unfold takenF
 rw [List.filter_append]
 by_cases h : ownB p (1 - pl) k = true
 ·rw [if_pos h]
  have e : List.filter (ownB p (1 - pl)) [k] = [k] := by simp [h]
  rw [e, sumAt_snoc]
 ·rw [if_neg h]
  have e : List.filter (ownB p (1 - pl)) [k] = [] := by simp [h]
  rw [e, List.append_nil]
  omega
theorem taken_bd {xs : List Int} (h : posB xs = true) (ht : tot xs ≤ 96) (p pl : Int) (L : List Int) : 0 ≤ takenF p pl xs L ∧ takenF p pl xs L ≤ 96 * L.length := by
 have h1 := sumAt_bd h ht (L.filter (ownB p (1 - pl)))
 have h2 := List.length_filter_le (ownB p (1 - pl)) L
 unfold takenF
 omega
def slamB (p pl : Int) (xs L : List Int) : Bool := decide (0 < takenF p pl xs L) && decide (takenF p pl xs L = tot (halfL xs p.toNat (1 - pl)))
def slamF (cp p pl la : Int) (xs : List Int) : Bool := slamB p pl xs (rawF cp p pl la xs)
def pitsF (cp sl p pl la : Int) (xs : List Int) : List Int := if decide (sl = 2) && slamF cp p pl la xs then [] else rawF cp p pl la xs
theorem pits_sub (cp sl p pl la : Int) (xs : List Int) : pitsF cp sl p pl la xs = [] ∨ pitsF cp sl p pl la xs = rawF cp p pl la xs := by
 unfold pitsF
 split
 ·exact .inl rfl
 ·exact .inr rfl
theorem pits_in {cp sl p pl la : Int} {xs : List Int} (h : la < 2 * p) : ∀ k ∈ pitsF cp sl p pl la xs, 0 ≤ k ∧ k < 2 * p := by
 rcases pits_sub cp sl p pl la xs with e | e
 ·rw [e]; intro k hk; cases hk
 ·rw [e]; exact raw_in h
theorem pits_nodup (cp sl p pl la : Int) (xs : List Int) : (pitsF cp sl p pl la xs).Nodup := by
 rcases pits_sub cp sl p pl la xs with e | e
 ·rw [e]; exact List.nodup_nil
 ·rw [e]; exact raw_nodup _ _ _ _ _
theorem pits_len {cp sl p pl la : Int} {xs : List Int} (hp : p ≤ 8) (hp2 : 2 ≤ p) (h : la < 2 * p) : (pitsF cp sl p pl la xs).length ≤ 16 := by
 rcases pits_sub cp sl p pl la xs with e | e
 ·rw [e]; simp
 ·rw [e]; exact raw_len hp hp2 h
def zeroAt (xs : List Int) : List Int → List Int
 | [] => xs
 | k :: r => zeroAt (xs.set k.toNat 0) r
theorem zero_snoc (L : List Int) (k : Int) : ∀ xs, zeroAt xs (L ++ [k]) = (zeroAt xs L).set k.toNat 0 := by
 induction L with
 | nil => intro xs; rfl
 | cons j r ih => intro xs; exact ih _
theorem zero_len (L : List Int) : ∀ xs, (zeroAt xs L).length = xs.length := by
 induction L with
 | nil => intro xs; rfl
 | cons j r ih => intro xs; rw [zeroAt, ih, List.length_set]
theorem zero_else {j : Int} (hj : 0 ≤ j) : ∀ (L xs : List Int), (∀ k ∈ L, 0 ≤ k) → j ∉ L → vAt (zeroAt xs L) j = vAt xs j
 | [], xs, _, _ => rfl
 | k :: r, xs, h0, h => by
  have h1 : j ≠ k := fun e => h (e ▸ List.mem_cons_self)
  have h2 := h0 k List.mem_cons_self
  rw [zeroAt, zero_else hj r _ (fun x hx => h0 x (List.mem_cons_of_mem _ hx)) (fun hm => h (List.mem_cons_of_mem _ hm))]
  unfold vAt
  rw [List.getD_eq_getElem?_getD, List.getD_eq_getElem?_getD, List.getElem?_set_ne (by omega)]
def lastB (st : Bool) (p pl la : Int) (xs ys : List Int) : Bool :=
 if la = -1 then st && decide (0 < vAt ys pl) else (decide (0 ≤ la) && decide (la ≤ 2 * p - 1)) && decide (0 < vAt xs la)
def okS (k : Bool) (p : Int) (st : Bool) (n1 n2 : Nat) (la lp pl : Int) (xs ys : List Int) : Bool :=
 okP k p n1 n2 pl xs ys && (decide (1 ≤ lp) && decide (lp ≤ 100)) && lastB st p pl la xs ys
/- BoxC -/
def RsAt (w : World) (p s c l : Int) (st sk re fe ag : Bool) (p1 p2 : Option Addr) (pn1 pc1 pn2 pc2 : Nat) (pp pq : Int) (u : World) : Prop := RuAt u w.heap.size p s c l st sk re fe ag ∧ SoAt u (w.heap.size + 1) p1 p2 pn1 pc1 pn2 pc2 pp pq ∧ Below w.heap.size w u
section
variable {w u v : World} {p s c l : Int} {st sk re fe ag : Bool} {p1 p2 : Option Addr} {pn1 pc1 pn2 pc2 : Nat} {pp pq : Int}
theorem RsAt.below (h : RsAt w p s c l st sk re fe ag p1 p2 pn1 pc1 pn2 pc2 pp pq u) (k : Below u.heap.size u v) : RsAt w p s c l st sk re fe ag p1 p2 pn1 pc1 pn2 pc2 pp pq v := ⟨h.1.below k, h.2.1.below k, h.2.2.trans (k.mono h.2.2.size)⟩
theorem RsAt.drew (h : RsAt w p s c l st sk re fe ag p1 p2 pn1 pc1 pn2 pc2 pp pq u) : RsAt w p s c l st sk re fe ag p1 p2 pn1 pc1 pn2 pc2 pp pq u.drew := ⟨h.1, h.2.1, h.2.2.drew⟩
theorem RsAt.drewN (h : RsAt w p s c l st sk re fe ag p1 p2 pn1 pc1 pn2 pc2 pp pq u) (m : Nat) : RsAt w p s c l st sk re fe ag p1 p2 pn1 pc1 pn2 pc2 pp pq (u.drewN m) := h.below (below_dn (Below.refl _ _) m)
end
def RsxAt (w : World) (p s c l : Int) (st sk re fe ag : Bool) (p1 p2 : Option Addr) (pn1 pc1 pn2 pc2 : Nat) (pp pq : Int) (xs ys : List Int) (d : Nat) (x1 x2 : Option Addr) (xn1 xc1 xn2 xc2 : Nat) (xp xq : Int) (u : World) : Prop := RuAt u w.heap.size p s c l st sk re fe ag ∧ SoAt u (w.heap.size + 1) p1 p2 pn1 pc1 pn2 pc2 pp pq ∧ SoAt u d x1 x2 xn1 xc1 xn2 xc2 xp xq ∧ PosR u x1 x2 xn1 xn2 xs ys ∧ Below w.heap.size w u
section
variable {w u v : World} {p s c l : Int} {st sk re fe ag : Bool} {p1 p2 : Option Addr} {pn1 pc1 pn2 pc2 : Nat} {pp pq : Int} {d : Nat} {x1 x2 : Option Addr} {xn1 xc1 xn2 xc2 : Nat} {xp xq : Int} {xs ys : List Int}
theorem RsxAt.below (h : RsxAt w p s c l st sk re fe ag p1 p2 pn1 pc1 pn2 pc2 pp pq xs ys d x1 x2 xn1 xc1 xn2 xc2 xp xq u) (k : Below u.heap.size u v) : RsxAt w p s c l st sk re fe ag p1 p2 pn1 pc1 pn2 pc2 pp pq xs ys d x1 x2 xn1 xc1 xn2 xc2 xp xq v := ⟨h.1.below k, h.2.1.below k, h.2.2.1.below k, h.2.2.2.1.below k, h.2.2.2.2.trans (k.mono h.2.2.2.2.size)⟩
theorem RsxAt.drew (h : RsxAt w p s c l st sk re fe ag p1 p2 pn1 pc1 pn2 pc2 pp pq xs ys d x1 x2 xn1 xc1 xn2 xc2 xp xq u) : RsxAt w p s c l st sk re fe ag p1 p2 pn1 pc1 pn2 pc2 pp pq xs ys d x1 x2 xn1 xc1 xn2 xc2 xp xq u.drew := ⟨h.1, h.2.1, h.2.2.1, h.2.2.2.1.drewN 1, h.2.2.2.2.drew⟩
end
/- VS6 -/
theorem rowV {w : World} {a : Option Addr} {xs : List Int} {k : Nat} (h : RowN w a xs) (hk : k < xs.length) : ∃ g o, a = some ⟨g, o, none⟩ ∧ g < w.heap.size ∧ w.cell? ⟨g, o + k, none⟩ = some (.int .i64 (vAt xs k)) := by
 have hne : xs ≠ [] := by intro e; subst e; simp at hk
 obtain ⟨g, o, rfl, hg, hc⟩ := h.2.resolve_left hne
 have := vAt_cell (xs := xs) (k := (k : Int)) (by omega) (by omega)
 rw [Int.toNat_natCast] at this
 exact ⟨g, o, rfl, hg, hc k _ this⟩
theorem position_any (p1 p2 : Option Addr) (pn1 pc1 pn2 pc2 : Nat) (pp pq : Int) (player : Int) (w : World) :
  Calls Tryz.prog 145 #[.agg #[.slice p1 pn1 pc1, .slice p2 pn2 pc2, .int .i64 pp, .int .i64 pq], .int .i64 player] w fun e w' => e = .returned (.agg #[.slice p1 pn1 pc1, .slice p2 pn2 pc2, .int .i64 player]) ∧ Below w.heap.size w w' := by
 go_enter Tryz.func145, Tryz.ntmps145
 go_wp2_with fail
 exact bodyPost_ret (v := .agg #[.slice p1 pn1 pc1, .slice p2 pn2 pc2, .int .i64 player]) (by simp [results, Tryz.results145, go_sem]) rfl ⟨rfl, (by repeat (first | exact Below.refl _ _ | assumption | (refine Below.drew ?_) | (refine Below.setCell ?_ (by first | omega | (simp; done) | (simp; omega)) _) | (refine Below.alloc ?_ (by first | omega | (simp; done) | (simp; omega)) _) | (refine Below.trans ?_ (Below.mono (by assumption) (by first | omega | (simp; done) | (simp; omega))))))⟩
def SrAt (w : World) (p1 p2 : Option Addr) (pn1 pc1 pn2 pc2 : Nat) (pp pq : Int) (p s c l : Int) (st sk re fe ag : Bool) (u : World) : Prop := SoAt u w.heap.size p1 p2 pn1 pc1 pn2 pc2 pp pq ∧ RuAt u (w.heap.size + 1) p s c l st sk re fe ag ∧ Below w.heap.size w u
section
variable {w u v : World} {p s c l : Int} {st sk re fe ag : Bool} {p1 p2 : Option Addr} {pn1 pc1 pn2 pc2 : Nat} {pp pq : Int}
theorem SrAt.below (h : SrAt w p1 p2 pn1 pc1 pn2 pc2 pp pq p s c l st sk re fe ag u) (k : Below u.heap.size u v) : SrAt w p1 p2 pn1 pc1 pn2 pc2 pp pq p s c l st sk re fe ag v := ⟨h.1.below k, h.2.1.below k, h.2.2.trans (k.mono h.2.2.size)⟩
theorem SrAt.drew (h : SrAt w p1 p2 pn1 pc1 pn2 pc2 pp pq p s c l st sk re fe ag u) : SrAt w p1 p2 pn1 pc1 pn2 pc2 pp pq p s c l st sk re fe ag u.drew := ⟨h.1, h.2.1, h.2.2.drew⟩
end
/- PosZ -/
def PosZ (n1 n2 : Nat) (pl code : Int) (xs ys : List Int) (w : World) (e : Ending) (w' : World) : Prop :=
 ∃ a1 c1 b1 a2 c2 b2, e = .returned (.tuple #[.agg #[.slice a1 n1 c1, .slice a2 n2 c2, .int .i64 pl], .int .i64 code]) ∧ PosO w' w.heap.size a1 a2 b1 b2 n1 n2 xs ys ∧ b1 < w'.heap.size ∧ b2 < w'.heap.size ∧ n1 ≤ c1 ∧ n2 ≤ c2 ∧ Below w.heap.size w w'
theorem posO_zero (u : World) (B : Nat) : PosO u B none none B (B + 1) 0 0 [] [] :=
 ⟨⟨rowN_nil _ _, (fun _ _ h => nomatch h), Nat.le_refl _, fun h => absurd rfl h⟩, ⟨rowN_nil _ _, (fun _ _ h => nomatch h), Nat.le_succ _, fun h => absurd rfl h⟩, by omega, rfl, rfl⟩
theorem posZ_zero {w u : World} (cd : Int) (hb : Below w.heap.size w u) (h : w.heap.size + 1 < u.heap.size) : PosZ 0 0 0 cd [] [] w (.returned (.tuple #[.agg #[.slice none 0 0, .slice none 0 0, .int .i64 0], .int .i64 cd])) u :=
 ⟨none, 0, w.heap.size, none, 0, w.heap.size + 1, rfl, posO_zero _ _, by omega, h, Nat.le_refl _, Nat.le_refl _, hb⟩
theorem al2 (u : World) (o q : Obj) : Below u.heap.size u ((u.alloc o).alloc q) := ((Below.refl _ _).alloc (Nat.le_refl _) o).alloc (by simp) q
theorem al1 (u : World) (o : Obj) : Below u.heap.size u (u.alloc o) := (Below.refl _ _).alloc (Nat.le_refl _) o
theorem posZ_of {w v : World} {a1 a2 : Option Addr} {b1 b2 n1 n2 c1 c2 : Nat} {pl : Int} {xs ys : List Int} {B : Nat} (cd : Int) (ho : PosO v B a1 a2 b1 b2 n1 n2 xs ys) (hB : w.heap.size ≤ B) (h1 : b1 < v.heap.size) (h2 : b2 < v.heap.size) (h3 : n1 ≤ c1) (h4 : n2 ≤ c2) (hb : Below w.heap.size w v) :
  PosZ n1 n2 pl cd xs ys w (.returned (.tuple #[.agg #[.slice a1 n1 c1, .slice a2 n2 c2, .int .i64 pl], .int .i64 cd])) v :=
 ⟨a1, c1, b1, a2, c2, b2, rfl, ho.lower hB, h1, h2, h3, h4, hb⟩
theorem PosO.set3 {w : World} {B z : Nat} {a1 a2 : Option Addr} {b1 b2 n1 n2 : Nat} {xs ys : List Int} (h : PosO w B a1 a2 b1 b2 n1 n2 xs ys) (x y t : Value) (k1 : b1 ≠ z) (k2 : b2 ≠ z) : PosO (((w.setCell ⟨z, 0, none⟩ x).setCell ⟨z, 1, none⟩ y).setCell ⟨z, 2, none⟩ t) B a1 a2 b1 b2 n1 n2 xs ys :=
 h.but ((((But.refl z w).setCell (p := ⟨z, 0, none⟩) rfl x).setCell (p := ⟨z, 1, none⟩) rfl y).setCell (p := ⟨z, 2, none⟩) rfl t) k1 k2
/- Feed7 -/
def noneO (p pp : Int) (xs : List Int) : Bool := tot (halfL xs p.toNat (1 - pp)) == 0
def feedB (k fe : Bool) (p pp : Int) (xs : List Int) : Bool := k && (fe && noneO p pp xs)
theorem feed_parts (p s c l : Int) (st sk re fe ag : Bool) {pn1 pn2 : Nat} {pp : Int} {xs ys : List Int} (hk : okP (okR p s c l st ag) p pn1 pn2 pp xs ys = true) :
  (2 ≤ p ∧ p ≤ 8) ∧ (pn1 : Int) = 2 * p ∧ (1 - pp = 0 ∨ 1 - pp = 1) ∧ posB xs = true ∧ tot xs ≤ 96 := by
 obtain ⟨hok, hn1, hn2, hpl, hs⟩ := okP_parts hk
 obtain ⟨hp1, hp2, -⟩ := okR_bd hok
 obtain ⟨q1, q2, q3⟩ := seedB_parts hs
 have q4 := posB_tot q2
 exact ⟨⟨hp1, hp2⟩, hn1, by omega, q1, by omega⟩
theorem other_any (p s c l : Int) (st sk re fe ag : Bool) (p1 p2 : Option Addr) (pn1 pc1 pn2 pc2 : Nat) (pp : Int) (xs : List Int) (w : World) (l1 : xs.length = pn1) (r1 : RowN w p1 xs) (hp : 2 ≤ p ∧ p ≤ 8) (hn : (pn1 : Int) = 2 * p) (hpl : 1 - pp = 0 ∨ 1 - pp = 1) (hpos : posB xs = true) (ht : tot xs ≤ 96) (hcap : pn1 ≤ pc1) :
  Calls Tryz.prog 167 #[.agg #[.slice p1 pn1 pc1, .slice p2 pn2 pc2, .int .i64 pp], .agg #[.int .i64 p, .int .i64 s, .bool st, .bool sk, .bool re, .bool fe, .bool ag, .int .i64 c, .int .i64 l]] w fun e w' => e = .returned (.bool (noneO p pp xs)) ∧ Below w.heap.size w w' := by
 obtain ⟨P, rfl⟩ : ∃ P : Nat, p = (P : Int) := ⟨p.toNat, by omega⟩
 unfold noneO
 rw [Int.toNat_natCast]
 have hP1 : 2 ≤ P := by omega
 have hP2 : P ≤ 8 := by omega
 have hN : pn1 = 2 * P := by omega
 have HB := Lib.hid (al2 w (.cells #[.slice p1 pn1 pc1, .slice p2 pn2 pc2, .int .i64 pp] 33) (.cells #[.int .i64 P, .int .i64 s, .bool st, .bool sk, .bool re, .bool fe, .bool ag, .int .i64 c, .int .i64 l] 32))
 have HSd : Hid (∀ u, Below w.heap.size w u → Calls Tryz.prog 135 #[.agg #[.slice p1 pn1 pc1, .slice p2 pn2 pc2, .int .i64 pp], .agg #[.int .i64 P, .int .i64 s, .bool st, .bool sk, .bool re, .bool fe, .bool ag, .int .i64 c, .int .i64 l], .int .i64 (1 - pp)] u (SideP xs P (1 - pp) u)) := Lib.hid (fun u hu => side_any P s c l st sk re fe ag _ _ _ _ _ _ _ xs (1 - pp) u l1 (r1.below hu) hP1 hP2 hN hcap hpl)
 have HL := Lib.hid (half_len (xs := xs) (P := P) (l1.trans hN) hpl)
 have hh := half_tot (xs := xs) (P := P) (l1.trans hN) hpl hpos
 have HH := Lib.hid hh
 have HT : Hid (tot (halfL xs P (1 - pp)) ≤ 96) := Lib.hid (by omega)
 have hw1 : IntKind.i64.wrap (1 - pp) = 1 - pp := IntWalk.i64_in _ ⟨by omega, by omega⟩
 generalize hhs : halfL xs P (1 - pp) = hs at *
 clear hh hpos ht hn hp hpl l1 r1 hN hP1 hP2
 go_enter Tryz.func167, Tryz.ntmps167
 go_wp2_with fail
 refine (HSd.out _ HB.out).mono ?_
 rintro e u3 ⟨a3, c3, rfl, r3, hc3, b3⟩
 have HB3 := Lib.hid (HB.out.trans (b3.mono HB.out.size))
 rw [hhs] at r3
 have R3 := Lib.hid r3
 clear b3 r3 hhs
 go_wp2_with fail
 refine (sumOf_any a3 c3 P _ _ HL.out R3.out HH.out.1 (by have := HT.out; omega)).mono ?_
 rintro e u4 ⟨rfl, rfl⟩
 go_wp2_with fail
 go_ret
 exact ⟨rfl, HB3.out⟩
theorem implFeed_any (p s c l : Int) (st sk re fe ag : Bool) (p1 p2 : Option Addr) (pn1 pc1 pn2 pc2 : Nat) (pp : Int) (xs ys : List Int) (w : World) (h : PosR w p1 p2 pn1 pn2 xs ys) (hcap : pn1 ≤ pc1) (k : Bool) (hk : okP (okR p s c l st ag) p pn1 pn2 pp xs ys = k) :
  Calls Tryz.prog 166 #[.agg #[.int .i64 p, .int .i64 s, .bool st, .bool sk, .bool re, .bool fe, .bool ag, .int .i64 c, .int .i64 l], .agg #[.slice p1 pn1 pc1, .slice p2 pn2 pc2, .int .i64 pp]] w fun e w' => e = .returned (.bool (feedB k fe p pp xs)) ∧ Below w.heap.size w w' := by
 have H := Lib.hid h
 have HS := Lib.hid (rp_new p s c l st sk re fe ag p1 p2 pn1 pc1 pn2 pc2 pp w 32 33)
 have Hk := Lib.hid hk
 have HO : Hid (k = true → ∀ u, Below w.heap.size w u → Calls Tryz.prog 167 #[.agg #[.slice p1 pn1 pc1, .slice p2 pn2 pc2, .int .i64 pp], .agg #[.int .i64 p, .int .i64 s, .bool st, .bool sk, .bool re, .bool fe, .bool ag, .int .i64 c, .int .i64 l]] u fun e w' => e = .returned (.bool (noneO p pp xs)) ∧ Below u.heap.size u w') := Lib.hid (fun e u hu => by
  obtain ⟨f1, f2, f3, f4, f5⟩ := feed_parts p s c l st sk re fe ag (hk.trans e)
  exact other_any p s c l st sk re fe ag _ _ _ _ _ _ _ xs u h.l1 (h.below hu).r1 f1 f2 f3 f4 f5 hcap)
 unfold feedB
 generalize noneO p pp xs = nn at *
 clear h hk
 go_enter Tryz.func166, Tryz.ntmps166
 go_wp2_with fail
 refine (implValid_b p s c l st sk re fe ag _ _ _ _ _ _ _ xs ys _ (H.out.below HS.out.2.2) _ Hk.out).mono ?_
 rintro e u ⟨rfl, hb⟩
 have HS := Lib.hid (HS.out.below hb)
 clear hb
 cases k
 ·go_wp2_with fail
  go_ret
  exact ⟨rfl, HS.out.2.2⟩
 ·obtain ⟨⟨_, r0, r1, r2, r3, r4, r5, r6, r7, r8⟩, ⟨_, g0, g1, g2⟩, -⟩ := HS.out
  cases fe
  ·go_wp2_with fail
   go_ret
   exact ⟨rfl, HS.out.2.2⟩
  ·go_wp2_with fail
   refine (HO.out (by first | rfl | trivial) _ HS.out.2.2).mono ?_
   rintro e u2 ⟨rfl, hb⟩
   have HS := Lib.hid (HS.out.below hb)
   clear hb
   go_wp2_with fail
   go_ret
   exact ⟨rfl, HS.out.2.2⟩
theorem l07Feed_any (p s c l : Int) (st sk re fe ag : Bool) (p1 p2 : Option Addr) (pn1 pc1 pn2 pc2 : Nat) (pp : Int) (xs ys : List Int) (rb pb : Nat) (w : World) (hr : RuAt w rb p s c l st sk re fe ag) (hq : PoAt w pb p1 p2 pn1 pc1 pn2 pc2 pp) (h : PosR w p1 p2 pn1 pn2 xs ys) (hk : okP (okR p s c l st ag) p pn1 pn2 pp xs ys = true) :
  Calls Tryz.prog 139 #[.pointer (some ⟨rb, 0, none⟩), .pointer (some ⟨pb, 0, none⟩)] w (Still (.bool (fe && noneO p pp xs)) w) := by
 obtain ⟨f1, f2, f3, f4, f5⟩ := feed_parts p s c l st sk re fe ag hk
 obtain ⟨P, rfl⟩ : ∃ P : Nat, p = (P : Int) := ⟨p.toNat, by omega⟩
 unfold noneO
 rw [Int.toNat_natCast]
 obtain ⟨_, g0, g1, g2, g3, g4, g5, g6, g7, g8⟩ := hr
 obtain ⟨_, t0, t1, t2⟩ := hq
 have HC : Hid (∀ q, Calls Tryz.prog 133 #[.pointer (some ⟨rb, 0, none⟩), .slice p1 pn1 pc1, .int .i64 (1 - pp)] (w.drewN q) fun e w' => e = .returned (.int .i64 (tot (halfL xs P (1 - pp)))) ∧ w.drewN q = w') := Lib.hid (fun q => l04Side_any P rb p1 pc1 pn1 xs (1 - pp) (w.drewN q) ((Below.cell (below_dn (Below.refl w.heap.size w) q) (p := ⟨rb, 0, none⟩) (by assumption)).trans g0) h.l1 (h.r1.drewN q) (by omega) (by omega) (by omega) f3 f4 f5)
 have hw1 : IntKind.i64.wrap (1 - pp) = 1 - pp := IntWalk.i64_in _ ⟨by omega, by omega⟩
 generalize tot (halfL xs P (1 - pp)) = hs at *
 clear f1 f2 f3 f4 f5 h hk
 cases fe
 ·go_enter Tryz.func139, Tryz.ntmps139
  go_wp2_with fail
  go_quiet (fail)
  go_wp2_with fail
  go_ret
  exact ⟨rfl, by first | exact ⟨_, rfl⟩ | exact ⟨_, World.drewN_drewN _ _ _⟩⟩
 ·go_enter Tryz.func139, Tryz.ntmps139
  go_wp2_with fail
  go_quiet ((go_at_call 133; exact quiet_w (HC.out _) ⟨_, rfl⟩))
  go_wp2_with fail
  go_ret
  exact ⟨rfl, by first | exact ⟨_, rfl⟩ | exact ⟨_, World.drewN_drewN _ _ _⟩⟩
/- End9V -/
theorem two9 {ys : List Int} (h : ys.length = 2) : ∃ y0 y1, ys = [y0, y1] := by
 match ys, h with
 | [a, b], _ => exact ⟨a, b, rfl⟩
def needV (t y : Int) : Int := if t / 2 + 1 - y < 0 then 0 else t / 2 + 1 - y
def majV (t y0 y1 : Int) : Int := if t < 2 * y0 then 0 else if t < 2 * y1 then 1 else -1
theorem need_zero {t y : Int} (h0 : 0 ≤ t) : needV t y = 0 ↔ t < 2 * y := by
 unfold needV
 split <;> omega
theorem row_two {w : World} {a : Option Addr} {y0 y1 : Int} (h : RowN w a [y0, y1]) : ∃ g o, a = some ⟨g, o, none⟩ ∧ g < w.heap.size ∧ w.cell? ⟨g, o, none⟩ = some (.int .i64 y0) ∧ w.cell? ⟨g, o + 1, none⟩ = some (.int .i64 y1) := by
 obtain ⟨g, o, ha, hg, hx⟩ := h.2.resolve_left (by simp)
 exact ⟨g, o, ha, hg, hx 0 y0 rfl, hx 1 y1 rfl⟩
theorem tot2 (y0 y1 : Int) : tot [y0, y1] = y0 + y1 := by simp [tot]
theorem ok9 {k : Bool} {p : Int} {n1 n2 : Nat} {pl : Int} {xs ys : List Int} (h : okP k p n1 n2 pl xs ys = true) (l2 : ys.length = n2) : ∃ y0 y1, ys = [y0, y1] ∧ n2 = 2 ∧ seedB xs [y0, y1] = true ∧ 0 ≤ y0 ∧ 0 ≤ y1 ∧ 0 ≤ tot xs ∧ tot xs + (y0 + y1) ≤ 96 := by
 obtain ⟨-, -, h2, -, hs⟩ := okP_parts h
 obtain ⟨y0, y1, rfl⟩ := two9 (l2.trans h2)
 obtain ⟨q1, q2, q3⟩ := seedB_parts hs
 have q4 := posB_tot q1
 simp only [posB, List.all_cons, List.all_nil, Bool.and_true, Bool.and_eq_true, decide_eq_true_eq] at q2
 rw [tot2] at q3
 exact ⟨y0, y1, rfl, h2, hs, q2.1, q2.2, q4, q3⟩
theorem needed_any (p1 p2 : Option Addr) (pn1 pc1 pn2 pc2 : Nat) (pp : Int) (xs : List Int) (y0 y1 player : Int) (w : World) (h : PosR w p1 p2 pn1 pn2 xs [y0, y1]) (hs : seedB xs [y0, y1] = true) (hp : player = 0 ∨ player = 1) :
  Calls Tryz.prog 107 #[.agg #[.slice p1 pn1 pc1, .slice p2 pn2 pc2, .int .i64 pp], .int .i64 player] w fun e w' => e = .returned (.int .i64 (needV (tot xs + (y0 + y1)) (if player = 0 then y0 else y1))) ∧ Below w.heap.size w w' := by
 obtain rfl : 2 = pn2 := h.l2
 obtain ⟨q1, q2, q3⟩ := seedB_parts hs
 have q4 := posB_tot q1
 simp only [posB, List.all_cons, List.all_nil, Bool.and_true, Bool.and_eq_true, decide_eq_true_eq] at q2
 obtain ⟨r0, r1⟩ := q2
 rw [tot2] at q3
 have b0 : y0 ≤ 96 := by omega
 have b1 : y1 ≤ 96 := by omega
 have b2 : 0 ≤ tot xs + (y0 + y1) := by omega
 have HS : Hid (∀ u, Below w.heap.size w u → Calls Tryz.prog 122 #[.agg #[.slice p1 pn1 pc1, .slice p2 2 pc2, .int .i64 pp]] u fun e w' => e = .returned (.tuple #[.int .i64 (tot xs + (y0 + y1)), .bool true]) ∧ Below u.heap.size u w') := Lib.hid (fun u hu => (seeds_any p1 p2 pn1 pc1 2 pc2 pp xs [y0, y1] u (h.below hu)).mono (fun e w' hq => by unfold SeedP at hq; rw [hs, tot2] at hq; exact hq))
 have HP := Lib.hid (po_new p1 p2 pn1 pc1 2 pc2 pp w 33)
 have HB := Lib.hid (al1 w (.cells #[.slice p1 pn1 pc1, .slice p2 2 pc2, .int .i64 pp] 33))
 have HRw := Lib.hid h.r2
 generalize tot xs + (y0 + y1) = t at *
 clear h hs
 rcases hp with rfl | rfl
 ·rw [if_pos rfl]
  by_cases hn : t / 2 + 1 - y0 < 0
  ·have e : needV t y0 = 0 := by unfold needV; rw [if_pos hn]
   rw [e]
   clear e
   go_enter Tryz.func107, Tryz.ntmps107
   go_wp2_with fail
   refine (HS.out _ HB.out).mono ?_
   rintro e w5 ⟨rfl, hb⟩
   obtain ⟨g, o, rfl, hg, z0, z1⟩ := row_two (HRw.out.below (HB.out.trans (hb.mono HB.out.size)))
   obtain ⟨_, t0, t1, t2⟩ := HP.out.below hb
   have HB := Lib.hid (HB.out.trans (hb.mono HB.out.size))
   clear hb
   go_wp2_with fail
   go_ret
   exact ⟨rfl, HB.out⟩
  ·have e : needV t y0 = t / 2 + 1 - y0 := by unfold needV; rw [if_neg hn]
   rw [e]
   clear e
   go_enter Tryz.func107, Tryz.ntmps107
   go_wp2_with fail
   refine (HS.out _ HB.out).mono ?_
   rintro e w5 ⟨rfl, hb⟩
   obtain ⟨g, o, rfl, hg, z0, z1⟩ := row_two (HRw.out.below (HB.out.trans (hb.mono HB.out.size)))
   obtain ⟨_, t0, t1, t2⟩ := HP.out.below hb
   have HB := Lib.hid (HB.out.trans (hb.mono HB.out.size))
   clear hb
   go_wp2_with fail
   go_ret
   exact ⟨rfl, HB.out⟩
 ·rw [if_neg (by decide)]
  by_cases hn : t / 2 + 1 - y1 < 0
  ·have e : needV t y1 = 0 := by unfold needV; rw [if_pos hn]
   rw [e]
   clear e
   go_enter Tryz.func107, Tryz.ntmps107
   go_wp2_with fail
   refine (HS.out _ HB.out).mono ?_
   rintro e w5 ⟨rfl, hb⟩
   obtain ⟨g, o, rfl, hg, z0, z1⟩ := row_two (HRw.out.below (HB.out.trans (hb.mono HB.out.size)))
   obtain ⟨_, t0, t1, t2⟩ := HP.out.below hb
   have HB := Lib.hid (HB.out.trans (hb.mono HB.out.size))
   clear hb
   go_wp2_with fail
   go_ret
   exact ⟨rfl, HB.out⟩
  ·have e : needV t y1 = t / 2 + 1 - y1 := by unfold needV; rw [if_neg hn]
   rw [e]
   clear e
   go_enter Tryz.func107, Tryz.ntmps107
   go_wp2_with fail
   refine (HS.out _ HB.out).mono ?_
   rintro e w5 ⟨rfl, hb⟩
   obtain ⟨g, o, rfl, hg, z0, z1⟩ := row_two (HRw.out.below (HB.out.trans (hb.mono HB.out.size)))
   obtain ⟨_, t0, t1, t2⟩ := HP.out.below hb
   have HB := Lib.hid (HB.out.trans (hb.mono HB.out.size))
   clear hb
   go_wp2_with fail
   go_ret
   exact ⟨rfl, HB.out⟩
/- End9W -/
theorem majority_any (p1 p2 : Option Addr) (pn1 pc1 pn2 pc2 : Nat) (pp : Int) (xs : List Int) (y0 y1 : Int) (w : World) (h : PosR w p1 p2 pn1 pn2 xs [y0, y1]) (hs : seedB xs [y0, y1] = true) :
  Calls Tryz.prog 67 #[.agg #[.slice p1 pn1 pc1, .slice p2 pn2 pc2, .int .i64 pp]] w fun e w' => e = .returned (.int .i64 (majV (tot xs + (y0 + y1)) y0 y1)) ∧ Below w.heap.size w w' := by
 obtain ⟨q1, q2, q3⟩ := seedB_parts hs
 have q4 := posB_tot q1
 simp only [posB, List.all_cons, List.all_nil, Bool.and_true, Bool.and_eq_true, decide_eq_true_eq] at q2
 obtain ⟨r0, r1⟩ := q2
 rw [tot2] at q3
 have ht : 0 ≤ tot xs + (y0 + y1) := by omega
 have HN : Hid (∀ player u, Below w.heap.size w u → (player = 0 ∨ player = 1) → Calls Tryz.prog 107 #[.agg #[.slice p1 pn1 pc1, .slice p2 pn2 pc2, .int .i64 pp], .int .i64 player] u fun e w' => e = .returned (.int .i64 (needV (tot xs + (y0 + y1)) (if player = 0 then y0 else y1))) ∧ Below u.heap.size u w') := Lib.hid (fun player u hu hp => needed_any p1 p2 pn1 pc1 pn2 pc2 pp xs y0 y1 player u (h.below hu) hs hp)
 have HP := Lib.hid (po_new p1 p2 pn1 pc1 pn2 pc2 pp w 33)
 have HB := Lib.hid (al1 w (.cells #[.slice p1 pn1 pc1, .slice p2 pn2 pc2, .int .i64 pp] 33))
 generalize tot xs + (y0 + y1) = t at *
 clear h hs
 obtain ⟨n0, hn0⟩ : ∃ n, n = needV t y0 := ⟨_, rfl⟩
 obtain ⟨n1, hn1⟩ : ∃ n, n = needV t y1 := ⟨_, rfl⟩
 have z0 : n0 = 0 ↔ t < 2 * y0 := by rw [hn0]; exact need_zero ht
 have z1 : n1 = 0 ↔ t < 2 * y1 := by rw [hn1]; exact need_zero ht
 have H0 : Hid (∀ u, Below w.heap.size w u → Calls Tryz.prog 107 #[.agg #[.slice p1 pn1 pc1, .slice p2 pn2 pc2, .int .i64 pp], .int .i64 0] u fun e w' => e = .returned (.int .i64 n0) ∧ Below u.heap.size u w') := Lib.hid (fun u hu => by have := HN.out 0 u hu (.inl rfl); rw [if_pos rfl, ← hn0] at this; exact this)
 have H1 : Hid (∀ u, Below w.heap.size w u → Calls Tryz.prog 107 #[.agg #[.slice p1 pn1 pc1, .slice p2 pn2 pc2, .int .i64 pp], .int .i64 1] u fun e w' => e = .returned (.int .i64 n1) ∧ Below u.heap.size u w') := Lib.hid (fun u hu => by have := HN.out 1 u hu (.inr rfl); rw [if_neg (by decide), ← hn1] at this; exact this)
 clear HN hn0 hn1
 by_cases m0 : t < 2 * y0
 ·have e : majV t y0 y1 = 0 := by unfold majV; rw [if_pos m0]
  obtain rfl : n0 = 0 := z0.2 m0
  rw [e]
  clear e z0 z1 m0
  go_enter Tryz.func67, Tryz.ntmps67
  go_wp2_with fail
  go_loopw [4] (fun i wr => ∃ k : Nat, k ≤ 0 ∧ i = .int .i64 k ∧ Below w.heap.size w wr ∧ PoAt wr w.heap.size p1 p2 pn1 pc1 pn2 pc2 pp) (fun i _ => 2 - (intOf i).toNat)
  case atStart => exact ⟨0, Nat.le_refl _, rfl, HB.out, HP.out⟩
  case round =>
   clear HB HP
   obtain ⟨k, hk, rfl, hb, hp⟩ := hrel
   obtain rfl : k = 0 := by omega
   have HB := Lib.hid hb
   obtain ⟨_, t0, t1, t2⟩ := hp
   clear hb
   go_wp2_with fail
   refine (H0.out _ HB.out).mono ?_
   rintro e w5 ⟨rfl, hb⟩
   have HB := Lib.hid (HB.out.trans (hb.mono HB.out.size))
   clear hb t0 t1 t2
   go_wp2_with fail
   go_ret
   exact ⟨rfl, HB.out⟩
 ·have d0 : (n0 == 0) = false := by simpa using fun e => m0 (z0.1 e)
  by_cases m1 : t < 2 * y1
  ·have e : majV t y0 y1 = 1 := by unfold majV; rw [if_neg m0, if_pos m1]
   obtain rfl : n1 = 0 := z1.2 m1
   rw [e]
   clear e z0 z1 m0 m1
   go_enter Tryz.func67, Tryz.ntmps67
   go_wp2_with fail
   go_loopw [4] (fun i wr => ∃ k : Nat, k ≤ 1 ∧ i = .int .i64 k ∧ Below w.heap.size w wr ∧ PoAt wr w.heap.size p1 p2 pn1 pc1 pn2 pc2 pp) (fun i _ => 2 - (intOf i).toNat)
   case atStart => exact ⟨0, by omega, rfl, HB.out, HP.out⟩
   case round =>
    clear HB HP
    obtain ⟨k, hk, rfl, hb, hp⟩ := hrel
    have HB := Lib.hid hb
    have HP := Lib.hid hp
    obtain ⟨_, t0, t1, t2⟩ := hp
    clear hb
    rcases (show k = 0 ∨ k = 1 by omega) with rfl | rfl
    ·go_wp2_with fail
     refine (H0.out _ HB.out).mono ?_
     rintro e w5 ⟨rfl, hb⟩
     have HB := Lib.hid (HB.out.trans (hb.mono HB.out.size))
     have HP := Lib.hid (HP.out.below hb)
     clear hb t0 t1 t2
     go_wp2_with fail
     go_roundw
     case rel => exact ⟨1, by omega, by go_num, HB.out, HP.out⟩
     case measure => simp [intOf]
    ·go_wp2_with fail
     refine (H1.out _ HB.out).mono ?_
     rintro e w5 ⟨rfl, hb⟩
     have HB := Lib.hid (HB.out.trans (hb.mono HB.out.size))
     clear hb t0 t1 t2
     go_wp2_with fail
     go_ret
     exact ⟨rfl, HB.out⟩
  ·have d1 : (n1 == 0) = false := by simpa using fun e => m1 (z1.1 e)
   have e : majV t y0 y1 = -1 := by unfold majV; rw [if_neg m0, if_neg m1]
   rw [e]
   clear e z0 z1 m0 m1
   go_enter Tryz.func67, Tryz.ntmps67
   go_wp2_with fail
   go_loopw [4] (fun i wr => ∃ k : Nat, k ≤ 2 ∧ i = .int .i64 k ∧ Below w.heap.size w wr ∧ PoAt wr w.heap.size p1 p2 pn1 pc1 pn2 pc2 pp) (fun i _ => 2 - (intOf i).toNat)
   case atStart => exact ⟨0, by omega, rfl, HB.out, HP.out⟩
   case round =>
    clear HB HP
    obtain ⟨k, hk, rfl, hb, hp⟩ := hrel
    have HB := Lib.hid hb
    have HP := Lib.hid hp
    obtain ⟨_, t0, t1, t2⟩ := hp
    clear hb
    rcases (show k = 0 ∨ k = 1 ∨ k = 2 by omega) with rfl | rfl | rfl
    ·go_wp2_with fail
     refine (H0.out _ HB.out).mono ?_
     rintro e w5 ⟨rfl, hb⟩
     have HB := Lib.hid (HB.out.trans (hb.mono HB.out.size))
     have HP := Lib.hid (HP.out.below hb)
     clear hb t0 t1 t2
     go_wp2_with fail
     go_roundw
     case rel => exact ⟨1, by omega, by go_num, HB.out, HP.out⟩
     case measure => simp [intOf]
    ·go_wp2_with fail
     refine (H1.out _ HB.out).mono ?_
     rintro e w5 ⟨rfl, hb⟩
     have HB := Lib.hid (HB.out.trans (hb.mono HB.out.size))
     have HP := Lib.hid (HP.out.below hb)
     clear hb t0 t1 t2
     go_wp2_with fail
     go_roundw
     case rel => exact ⟨2, by omega, by go_num, HB.out, HP.out⟩
     case measure => simp [intOf]
    ·clear t0 t1 t2
     go_wp2_with fail
     go_ret
     exact ⟨rfl, HB.out⟩
/- VS7 -/
theorem RsAt.be {w u : World} {p s c l : Int} {st sk re fe ag : Bool} {p1 p2 : Option Addr} {pn1 pc1 pn2 pc2 : Nat} {pp pq : Int} (h : RsAt w p s c l st sk re fe ag p1 p2 pn1 pc1 pn2 pc2 pp pq u) : Below w.heap.size w u := h.2.2
def L6N (w : World) (b d : Nat) (p s c l : Int) (st sk re fe ag : Bool) (p1 p2 : Option Addr) (pn1 pc1 pn2 pc2 : Nat) (pp pq : Int) (u : World) : Prop := RuAt u b p s c l st sk re fe ag ∧ SoAt u d p1 p2 pn1 pc1 pn2 pc2 pp pq ∧ Below w.heap.size w u
def L6A (w : World) (b d : Nat) (p s c l : Int) (st sk re fe ag : Bool) (p1 p2 : Option Addr) (pn1 pc1 pn2 pc2 : Nat) (pp pq : Int) (q : Addr) (v : Int) (u : World) : Prop := RuAt u b p s c l st sk re fe ag ∧ SoAt u d p1 p2 pn1 pc1 pn2 pc2 pp pq ∧ u.cell? q = some (.int .i64 v) ∧ Below w.heap.size w u
section
variable {w u : World} {b d : Nat} {p s c l : Int} {st sk re fe ag : Bool} {p1 p2 : Option Addr} {pn1 pc1 pn2 pc2 : Nat} {pp pq : Int} {q : Addr} {v : Int}
theorem L6N.drew (h : L6N w b d p s c l st sk re fe ag p1 p2 pn1 pc1 pn2 pc2 pp pq u) : L6N w b d p s c l st sk re fe ag p1 p2 pn1 pc1 pn2 pc2 pp pq u.drew := ⟨h.1, h.2.1, h.2.2.drew⟩
theorem L6A.drew (h : L6A w b d p s c l st sk re fe ag p1 p2 pn1 pc1 pn2 pc2 pp pq q v u) : L6A w b d p s c l st sk re fe ag p1 p2 pn1 pc1 pn2 pc2 pp pq q v u.drew := ⟨h.1, h.2.1, h.2.2.1, h.2.2.2.drew⟩
theorem L6N.dn (h : L6N w b d p s c l st sk re fe ag p1 p2 pn1 pc1 pn2 pc2 pp pq u) (m : Nat) : L6N w b d p s c l st sk re fe ag p1 p2 pn1 pc1 pn2 pc2 pp pq (u.drewN m) := ⟨h.1, h.2.1, below_dn h.2.2 m⟩
theorem L6A.dn (h : L6A w b d p s c l st sk re fe ag p1 p2 pn1 pc1 pn2 pc2 pp pq q v u) (m : Nat) : L6A w b d p s c l st sk re fe ag p1 p2 pn1 pc1 pn2 pc2 pp pq q v (u.drewN m) := ⟨h.1, h.2.1, h.2.2.1, below_dn h.2.2.2 m⟩
end
/- Cap7 -/
def CpAt (w : World) (p s c l : Int) (st sk re fe ag : Bool) (player : Int) (p1 p2 : Option Addr) (pn1 pc1 pn2 pc2 : Nat) (pp pq : Int) (u : World) : Prop := (w.heap.size < u.heap.size ∧ u.cell? ⟨w.heap.size, 0, none⟩ = some (.int .i64 p) ∧ u.cell? ⟨w.heap.size, 1, none⟩ = some (.int .i64 s) ∧ u.cell? ⟨w.heap.size, 2, none⟩ = some (.bool st) ∧ u.cell? ⟨w.heap.size, 3, none⟩ = some (.bool sk) ∧ u.cell? ⟨w.heap.size, 4, none⟩ = some (.bool re) ∧ u.cell? ⟨w.heap.size, 5, none⟩ = some (.bool fe) ∧ u.cell? ⟨w.heap.size, 6, none⟩ = some (.bool ag) ∧ u.cell? ⟨w.heap.size, 7, none⟩ = some (.int .i64 c) ∧ u.cell? ⟨w.heap.size, 8, none⟩ = some (.int .i64 l) ∧ u.cell? ⟨w.heap.size, 9, none⟩ = some (.int .i64 player) ∧ u.cell? ⟨w.heap.size, 10, none⟩ = some (.slice p1 pn1 pc1) ∧ u.cell? ⟨w.heap.size, 11, none⟩ = some (.slice p2 pn2 pc2) ∧ u.cell? ⟨w.heap.size, 12, none⟩ = some (.int .i64 pp) ∧ u.cell? ⟨w.heap.size, 13, none⟩ = some (.int .i64 pq)) ∧ Below w.heap.size w u
section
variable {w u v : World} {p s c l player : Int} {st sk re fe ag : Bool} {p1 p2 : Option Addr} {pn1 pc1 pn2 pc2 : Nat} {pp pq : Int}
theorem CpAt.below (h : CpAt w p s c l st sk re fe ag player p1 p2 pn1 pc1 pn2 pc2 pp pq u) (k : Below u.heap.size u v) : CpAt w p s c l st sk re fe ag player p1 p2 pn1 pc1 pn2 pc2 pp pq v := by
 obtain ⟨⟨hb, h⟩, hw⟩ := h
 have e := fun o => k.cell (p := ⟨w.heap.size, o, none⟩) hb
 exact ⟨⟨Nat.lt_of_lt_of_le hb k.size, by rw [e, e, e, e, e, e, e, e, e, e, e, e, e, e]; exact h⟩, hw.trans (k.mono hw.size)⟩
theorem CpAt.drew (h : CpAt w p s c l st sk re fe ag player p1 p2 pn1 pc1 pn2 pc2 pp pq u) : CpAt w p s c l st sk re fe ag player p1 p2 pn1 pc1 pn2 pc2 pp pq u.drew := ⟨h.1, h.2.drew⟩
theorem CpAt.be (h : CpAt w p s c l st sk re fe ag player p1 p2 pn1 pc1 pn2 pc2 pp pq u) : Below w.heap.size w u := h.2
end
theorem cp_new (p s c l : Int) (st sk re fe ag : Bool) (player : Int) (p1 p2 : Option Addr) (pn1 pc1 pn2 pc2 : Nat) (pp pq : Int) (w : World) (T : TypeId) : CpAt w p s c l st sk re fe ag player p1 p2 pn1 pc1 pn2 pc2 pp pq (w.alloc (.cells #[.int .i64 p, .int .i64 s, .bool st, .bool sk, .bool re, .bool fe, .bool ag, .int .i64 c, .int .i64 l, .int .i64 player, .slice p1 pn1 pc1, .slice p2 pn2 pc2, .int .i64 pp, .int .i64 pq] T)) :=
 ⟨⟨by simp, by go_simp, by go_simp, by go_simp, by go_simp, by go_simp, by go_simp, by go_simp, by go_simp, by go_simp, by go_simp, by go_simp, by go_simp, by go_simp, by go_simp⟩, (Below.refl _ _).alloc (Nat.le_refl _) _⟩
theorem owns_any (p s c l : Int) (st sk re fe ag : Bool) (player place : Int) (w : World) (hp : 2 ≤ p ∧ p ≤ 8) (hpl : player = 0 ∨ player = 1) :
  Calls Tryz.prog 187 #[.agg #[.int .i64 p, .int .i64 s, .bool st, .bool sk, .bool re, .bool fe, .bool ag, .int .i64 c, .int .i64 l], .int .i64 player, .int .i64 place] w fun e w' => e = .returned (.bool (ownB p player place)) ∧ Below w.heap.size w w' := by
 obtain ⟨hp2, hp8⟩ := hp
 have BB := Lib.hid ((Below.refl w.heap.size w).alloc (Nat.le_refl _) (.cells #[.int .i64 p, .int .i64 s, .bool st, .bool sk, .bool re, .bool fe, .bool ag, .int .i64 c, .int .i64 l] 32))
 have hw1 : IntKind.i64.wrap p = p := IntWalk.i64_in _ ⟨by omega, by omega⟩
 have hw2 : IntKind.i64.wrap (2 * p) = 2 * p := IntWalk.i64_in _ ⟨by omega, by omega⟩
 rcases (show player = 0 ∨ player ≠ 0 from Decidable.em _) with rfl | hno
 ·by_cases h1 : 0 ≤ place
  ·have d1 : decide (0 ≤ place) = true := by simpa using h1
   by_cases h2 : place < p
   ·have d2 : decide (place < p) = true := by simpa using h2
    have e : ownB p 0 place = true := by unfold ownB; simp; omega
    rw [e]
    go_enter Tryz.func187, Tryz.ntmps187
    go_wp2_with fail
    go_ret
    exact ⟨rfl, BB.out⟩
   ·have d2 : decide (place < p) = false := by simpa using h2
    have e : ownB p 0 place = false := by unfold ownB; simp; omega
    rw [e]
    go_enter Tryz.func187, Tryz.ntmps187
    go_wp2_with fail
    go_ret
    exact ⟨rfl, BB.out⟩
  ·have d1 : decide (0 ≤ place) = false := by simpa using h1
   have e : ownB p 0 place = false := by unfold ownB; simp; omega
   rw [e]
   go_enter Tryz.func187, Tryz.ntmps187
   go_wp2_with fail
   go_ret
   exact ⟨rfl, BB.out⟩
 rcases (show player = 1 ∨ player ≠ 1 from Decidable.em _) with rfl | hno
 ·by_cases h1 : p ≤ place
  ·have d1 : decide (p ≤ place) = true := by simpa using h1
   by_cases h2 : place < 2 * p
   ·have d2 : decide (place < 2 * p) = true := by simpa using h2
    have e : ownB p 1 place = true := by unfold ownB; simp; omega
    rw [e]
    go_enter Tryz.func187, Tryz.ntmps187
    go_wp2_with fail
    go_ret
    exact ⟨rfl, BB.out⟩
   ·have d2 : decide (place < 2 * p) = false := by simpa using h2
    have e : ownB p 1 place = false := by unfold ownB; simp; omega
    rw [e]
    go_enter Tryz.func187, Tryz.ntmps187
    go_wp2_with fail
    go_ret
    exact ⟨rfl, BB.out⟩
  ·have d1 : decide (p ≤ place) = false := by simpa using h1
   have e : ownB p 1 place = false := by unfold ownB; simp; omega
   rw [e]
   go_enter Tryz.func187, Tryz.ntmps187
   go_wp2_with fail
   go_ret
   exact ⟨rfl, BB.out⟩
 ·omega
theorem isOther_any (p s c l : Int) (st sk re fe ag : Bool) (player : Int) (p1 p2 : Option Addr) (pn1 pc1 pn2 pc2 : Nat) (pp pq : Int) (place : Int) (w : World) (hp : 2 ≤ p ∧ p ≤ 8) (hpl : player = 0 ∨ player = 1) :
  Calls Tryz.prog 179 #[.agg #[.int .i64 p, .int .i64 s, .bool st, .bool sk, .bool re, .bool fe, .bool ag, .int .i64 c, .int .i64 l, .int .i64 player, .slice p1 pn1 pc1, .slice p2 pn2 pc2, .int .i64 pp, .int .i64 pq], .int .i64 place] w fun e w' => e = .returned (.bool (ownB p (1 - player) place)) ∧ Below w.heap.size w w' := by
 have HS := Lib.hid (cp_new p s c l st sk re fe ag player p1 p2 pn1 pc1 pn2 pc2 pp pq w 123)
 have hw1 : IntKind.i64.wrap (1 - player) = 1 - player := IntWalk.i64_in _ ⟨by omega, by omega⟩
 have HP := Lib.hid hp
 have HPl : Hid (1 - player = 0 ∨ 1 - player = 1) := Lib.hid (by omega)
 clear hp hpl
 go_enter Tryz.func179, Tryz.ntmps179
 go_wp2_with (go_at_call 187; refine (owns_any p s c l st sk re fe ag (1 - player) place _ HP.out HPl.out).mono ?_; rintro e w1 ⟨rfl, hb1⟩; obtain ⟨hc1, hf1⟩ := bcell hb1; have hs1 := hb1.size; (try simp at hs1); (try have hz1 : w.heap.size < w1.heap.size := by omega); (try have hy1 : w.heap.size + 1 < w1.heap.size := by omega); (try have hx1 := fun o => hc1 w.heap.size o (by first | omega | (simp; done) | (simp; omega))); (try have hv1 := fun o => hc1 (w.heap.size + 1) o (by first | omega | (simp; done) | (simp; omega))))
 go_ret
 exact ⟨rfl, (by repeat (first | exact Below.refl _ _ | assumption | (refine Below.drew ?_) | (refine Below.setCell ?_ (by first | omega | (simp; done) | (simp; omega)) _) | (refine Below.alloc ?_ (by first | omega | (simp; done) | (simp; omega)) _) | (refine Below.trans ?_ (Below.mono (by assumption) (by first | omega | (simp; done) | (simp; omega))))))⟩
theorem seedsIn_any (p s c l : Int) (st sk re fe ag : Bool) (player : Int) (p1 p2 : Option Addr) (pn1 pc1 pn2 pc2 : Nat) (pp pq : Int) (xs ys L : List Int) (a : Option Addr) (cc n : Nat) (w : World) (h : PosR w p1 p2 pn1 pn2 xs ys) (hp : posB xs = true) (ht : tot xs ≤ 96) (hL : ∀ k ∈ L, 0 ≤ k ∧ k < (pn1 : Int)) (hn : L.length = n) (hn16 : n ≤ 1000) (ha : RowN w a L) :
  Calls Tryz.prog 180 #[.agg #[.int .i64 p, .int .i64 s, .bool st, .bool sk, .bool re, .bool fe, .bool ag, .int .i64 c, .int .i64 l, .int .i64 player, .slice p1 pn1 pc1, .slice p2 pn2 pc2, .int .i64 pp, .int .i64 pq], .slice a n cc] w fun e w' => e = .returned (.int .i64 (sumAt xs L)) ∧ Below w.heap.size w w' := by
 have HS := Lib.hid (cp_new p s c l st sk re fe ag player p1 p2 pn1 pc1 pn2 pc2 pp pq w 123)
 obtain ⟨_, c0, c1, c2, c3, c4, c5, c6, c7, c8, c9, c10, c11, c12, c13⟩ := HS.out.1
 have H := Lib.hid (h.alloc (.cells #[.int .i64 p, .int .i64 s, .bool st, .bool sk, .bool re, .bool fe, .bool ag, .int .i64 c, .int .i64 l, .int .i64 player, .slice p1 pn1 pc1, .slice p2 pn2 pc2, .int .i64 pp, .int .i64 pq] 123))
 have HA := Lib.hid (ha.alloc (.cells #[.int .i64 p, .int .i64 s, .bool st, .bool sk, .bool re, .bool fe, .bool ag, .int .i64 c, .int .i64 l, .int .i64 player, .slice p1 pn1 pc1, .slice p2 pn2 pc2, .int .i64 pp, .int .i64 pq] 123))
 clear h ha
 go_enter Tryz.func180, Tryz.ntmps180
 go_wp2
 generalize w.alloc (.cells #[.int .i64 p, .int .i64 s, .bool st, .bool sk, .bool re, .bool fe, .bool ag, .int .i64 c, .int .i64 l, .int .i64 player, .slice p1 pn1 pc1, .slice p2 pn2 pc2, .int .i64 pp, .int .i64 pq] 123) = w1 at *
 go_loop [5, 10] (fun s i => ∃ (k : Nat) (t : Int), k ≤ n ∧ i = .int .i64 k ∧ s = .int .i64 t ∧ t = sumAt xs (L.take k)) (fun _ i => n - (intOf i).toNat)
 case atStart => exact ⟨0, 0, Nat.zero_le _, rfl, rfl, rfl⟩
 case round =>
  obtain ⟨k, t, hk, rfl, rfl, ht'⟩ := hrel
  have hb := sumAt_bd hp ht (L.take k)
  rw [← ht', List.length_take] at hb
  obtain ⟨b0, b1⟩ := hb
  have b2 : t ≤ 96 * 1000 := by omega
  have Ht := Lib.hid ht'
  have HpT := Lib.hid (And.intro hp ht)
  clear ht' b1
  by_cases hlt : k < n
  ·obtain ⟨q, hq⟩ : ∃ q, L[k]? = some q := ⟨L[k]'(by rw [hn]; exact hlt), List.getElem?_eq_getElem _⟩
   obtain ⟨q0, q1⟩ := hL q (List.mem_of_getElem? hq)
   obtain ⟨Q, rfl⟩ : ∃ Q : Nat, q = (Q : Int) := ⟨q.toNat, by omega⟩
   have hne : L ≠ [] := by intro e; subst e; cases hq
   obtain ⟨ga, oa, rfl, hga, hca⟩ := HA.out.2.resolve_left hne
   have ya := hca k _ hq
   obtain ⟨g, o, rfl, hg, y⟩ := rowV (k := Q) H.out.r1 (by have := H.out.l1; omega)
   have v0 := vAt_bd hp ht (Q : Int)
   obtain ⟨v1, v2⟩ := v0
   have Hq := Lib.hid hq
   have k0 : (0 : Int) ≤ (k : Int) := by omega
   have k1 : (k : Int) < (n : Int) := by omega
   have hs : sumAt xs (L.take (k + 1)) = t + vAt xs (Q : Int) := by rw [take_next Hq.out, sumAt_snoc, ← Ht.out]
   have Hs := Lib.hid hs
   have HLn := Lib.hid (And.intro hL hn)
   clear hca hq hne hs hL hn hp ht
   generalize vAt xs (Q : Int) = v at *
   go_wp2
   go_round
   case rel => exact ⟨k + 1, t + v, by omega, by go_num, by go_num, by rw [Hs.out]⟩
   case measure => simp [intOf]; omega
  ·obtain rfl : k = n := by omega
   have e1 : L.take k = L := List.take_of_length_le (by rw [hn]; exact Nat.le_refl _)
   have e2 : t = sumAt xs L := by rw [Ht.out, e1]
   have E2 := Lib.hid e2
   clear e1 e2 hn hL
   go_wp2
   go_ret
   exact ⟨by rw [E2.out]; rfl, HS.out.2⟩
/- Cap8 -/
theorem row_1 (u : World) (x : Int) (T : TypeId) : RowN (u.alloc (.cells #[.int .i64 x] T)) (some ⟨u.heap.size, 0, none⟩) [x] :=
 ⟨by simp, .inr ⟨u.heap.size, 0, rfl, by simp, fun i y hi => by
  match i, hi with
  | 0, hi =>
   cases hi
   rw [World.cell?_alloc_new]
   rfl⟩⟩
theorem sumAt_one (xs : List Int) (k : Int) : sumAt xs [k] = vAt xs k := by simp [sumAt, tot]
theorem CpAt.grown {w u v : World} {p s c l player : Int} {st sk re fe ag : Bool} {p1 p2 : Option Addr} {pn1 pc1 pn2 pc2 : Nat} {pp pq : Int} {row : Option Nat} (h : CpAt w p s c l st sk re fe ag player p1 p2 pn1 pc1 pn2 pc2 pp pq u) (hg : u.grownBy v row) (hr : ∀ k, row = some k → w.heap.size < k) : CpAt w p s c l st sk re fe ag player p1 p2 pn1 pc1 pn2 pc2 pp pq v := by
 obtain ⟨⟨hb, h⟩, hw⟩ := h
 have hbl := hg.block w.heap.size hb (fun e => by have := hr _ e.symm; omega)
 have e : ∀ o, v.cell? ⟨w.heap.size, o, none⟩ = u.cell? ⟨w.heap.size, o, none⟩ := fun o => World.cell?_of_block (a := ⟨w.heap.size, o, none⟩) hbl
 exact ⟨⟨Nat.lt_of_lt_of_le hb hg.size, by rw [e, e, e, e, e, e, e, e, e, e, e, e, e, e]; exact h⟩, hw.grown hg hw.size (fun k hk => by have := hr k hk; omega)⟩
theorem CpAt.alloc {w u : World} {p s c l player : Int} {st sk re fe ag : Bool} {p1 p2 : Option Addr} {pn1 pc1 pn2 pc2 : Nat} {pp pq : Int} (h : CpAt w p s c l st sk re fe ag player p1 p2 pn1 pc1 pn2 pc2 pp pq u) (o : Obj) : CpAt w p s c l st sk re fe ag player p1 p2 pn1 pc1 pn2 pc2 pp pq (u.alloc o) := h.below (al1 _ _)
theorem none_any (p s c l : Int) (st sk re fe ag : Bool) (player : Int) (p1 p2 : Option Addr) (pn1 pc1 pn2 pc2 : Nat) (pp pq : Int) (w : World) :
  Calls Tryz.prog 181 #[.agg #[.int .i64 p, .int .i64 s, .bool st, .bool sk, .bool re, .bool fe, .bool ag, .int .i64 c, .int .i64 l, .int .i64 player, .slice p1 pn1 pc1, .slice p2 pn2 pc2, .int .i64 pp, .int .i64 pq]] w (OwnP [] 0 w) := by
 have HS := Lib.hid (cp_new p s c l st sk re fe ag player p1 p2 pn1 pc1 pn2 pc2 pp pq w 123)
 go_enter Tryz.func181, Tryz.ntmps181
 go_wp2_with fail
 go_ret
 exact ⟨_, rfl, World.ownsRow_nil _ _ _ _, HS.out.2⟩
theorem twoThree_any (p s c l : Int) (st sk re fe ag : Bool) (player : Int) (p1 p2 : Option Addr) (pn1 pc1 pn2 pc2 : Nat) (pp pq : Int) (xs ys : List Int) (N : Nat) (w : World) (h : PosR w p1 p2 pn1 pn2 xs ys) (hq : posB xs = true) (ht : tot xs ≤ 96) (hp : 2 ≤ p ∧ p ≤ 8) (hn1 : (pn1 : Int) = 2 * p) (hpl : player = 0 ∨ player = 1) (hla : pp = (N : Int) - 1) (hN : (N : Int) ≤ 2 * p) :
  Calls Tryz.prog 182 #[.agg #[.int .i64 p, .int .i64 s, .bool st, .bool sk, .bool re, .bool fe, .bool ag, .int .i64 c, .int .i64 l, .int .i64 player, .slice p1 pn1 pc1, .slice p2 pn2 pc2, .int .i64 pp, .int .i64 pq]] w (OwnP (twF p player xs N) (twF p player xs N).length w) := by
 obtain ⟨i0, hi, hz0, hz1, hz2⟩ := info_parts infoN
 have HS := Lib.hid (cp_new p s c l st sk re fe ag player p1 p2 pn1 pc1 pn2 pc2 pp pq w 123)
 have H0 := Lib.hid h
 have HP := Lib.hid hp
 have HPl := Lib.hid hpl
 have HN := Lib.hid hN
 have Hn1 := Lib.hid hn1
 have HQ := Lib.hid (And.intro hq ht)
 have Hla := Lib.hid hla
 clear h hp hpl hN hn1 hq ht hla
 go_enter Tryz.func182, Tryz.ntmps182
 go_wp2_with fail
 generalize w.alloc (.cells #[.int .i64 p, .int .i64 s, .bool st, .bool sk, .bool re, .bool fe, .bool ag, .int .i64 c, .int .i64 l, .int .i64 player, .slice p1 pn1 pc1, .slice p2 pn2 pc2, .int .i64 pp, .int .i64 pq] 123) = w1 at *
 go_loopw [3, 4] (fun s0 i wr => ∃ (k m : Nat) (acc : List Int) (z : Int), i = .int .i64 z ∧ z = (k : Int) - 1 ∧ m + k ≤ 16 ∧ wr.ownsRow (w.heap.size + 1) 2 1 s0 m (nvs acc) ∧ acc.length = m ∧ acc ++ twF p player xs k = twF p player xs N ∧ k ≤ N ∧ CpAt w p s c l st sk re fe ag player p1 p2 pn1 pc1 pn2 pc2 pp pq wr) (fun _ i _ => (intOf i + 1).toNat)
 case atStart => exact ⟨N, 0, [], pp, rfl, Hla.out, by have := HN.out; have := HP.out; omega, World.ownsRow_nil _ _ _ _, rfl, rfl, Nat.le_refl _, HS.out⟩
 case round =>
  obtain ⟨k, m, acc, z, rfl, hz, hmk, hown, hlen, hacc, hkN, hC⟩ := hrel
  have HC := Lib.hid hC
  have HO := Lib.hid hown
  have HA := Lib.hid (And.intro hlen hacc)
  obtain ⟨⟨_, c0, c1, c2, c3, c4, c5, c6, c7, c8, c9, c10, c11, c12, c13⟩, -⟩ := hC
  have Hz := Lib.hid hz
  clear hown hlen hacc
  rcases k with _ | k
  ·have hb : ownB p (1 - player) z = false := by
    have h1 := HP.out
    have h2 := HPl.out
    unfold ownB
    rcases h2 with rfl | rfl <;> simp <;> omega
   have Hb := Lib.hid hb
   clear hb hz
   go_wp2_with (go_at_call 179; refine (isOther_any p s c l st sk re fe ag player p1 p2 pn1 pc1 pn2 pc2 pp pq z _ HP.out HPl.out).mono ?_; rintro e w5 ⟨rfl, hb5⟩; rw [Hb.out]; have HC := Lib.hid (HC.out.below hb5); have HO := Lib.hid (own_keep HO.out hb5); clear hb5)
   go_ret
   have e := HA.out.2
   simp only [twF, List.append_nil] at e
   rw [← e, HA.out.1]
   exact ⟨_, rfl, own_lower HO.out (by omega), HC.out.be⟩
  ·obtain rfl : z = (k : Int) := by omega
   clear hz Hz
   have HV := Lib.hid (vAt_bd HQ.out.1 HQ.out.2 (k : Int))
   have HR : Hid (∀ x ∈ [(k : Int)], 0 ≤ x ∧ x < (pn1 : Int)) := Lib.hid (fun x hx => by
    have := Hn1.out
    have := HN.out
    rcases List.mem_cons.1 hx with rfl | hx
    ·omega
    ·cases hx)
   rcases hb : ownB p (1 - player) (k : Int) with _ | _
   ·have e := HA.out.2
    rw [tw_no (by rw [hb]; rfl), List.append_nil] at e
    have Hb := Lib.hid hb
    have He := Lib.hid e
    clear hb e
    go_wp2_with (go_at_call 179; refine (isOther_any p s c l st sk re fe ag player p1 p2 pn1 pc1 pn2 pc2 pp pq (k : Int) _ HP.out HPl.out).mono ?_; rintro e w5 ⟨rfl, hb5⟩; rw [Hb.out]; have HC := Lib.hid (HC.out.below hb5); have HO := Lib.hid (own_keep HO.out hb5); clear hb5)
    go_ret
    rw [← He.out, HA.out.1]
    exact ⟨_, rfl, own_lower HO.out (by omega), HC.out.be⟩
   ·have Hb := Lib.hid hb
    have hs1 := sumAt_one xs (k : Int)
    rcases hv : (decide (vAt xs (k : Int) = 2) || decide (vAt xs (k : Int) = 3)) with _ | _
    ·have e := HA.out.2
     rw [tw_no (by rw [hb, hv]; rfl), List.append_nil] at e
     have He := Lib.hid e
     simp only [Bool.or_eq_false_iff, decide_eq_false_iff_not] at hv
     obtain ⟨hv2, hv3⟩ := hv
     generalize vAt xs (k : Int) = v at *
     have t2 : (v == 2) = false := by simpa using hv2
     have t3 : (v == 3) = false := by simpa using hv3
     have Hs1 := Lib.hid hs1
     clear hb e hv2 hv3 hs1
     go_wp2_with (first | (go_at_call 179; refine (isOther_any p s c l st sk re fe ag player p1 p2 pn1 pc1 pn2 pc2 pp pq (k : Int) _ HP.out HPl.out).mono ?_; rintro e w5 ⟨rfl, hb5⟩; rw [Hb.out]; have HC := Lib.hid (HC.out.below hb5); have HO := Lib.hid (own_keep HO.out hb5); clear hb5; obtain ⟨⟨_, c0, c1, c2, c3, c4, c5, c6, c7, c8, c9, c10, c11, c12, c13⟩, -⟩ := HC.out) | (go_at_call 180; refine (seedsIn_any p s c l st sk re fe ag player p1 p2 pn1 pc1 pn2 pc2 pp pq xs ys [(k : Int)] _ 1 1 _ ((H0.out.below HC.out.be).alloc _) HQ.out.1 HQ.out.2 HR.out rfl (by omega) (row_1 _ _ _)).mono ?_; rintro e w6 ⟨rfl, hb6⟩; rw [Hs1.out]; have HC := Lib.hid ((HC.out.alloc _).below hb6); have HO := Lib.hid (own_keep (own_keep HO.out (al1 _ _)) hb6); clear hb6; obtain ⟨⟨_, c0, c1, c2, c3, c4, c5, c6, c7, c8, c9, c10, c11, c12, c13⟩, -⟩ := HC.out))
     go_ret
     rw [← He.out, HA.out.1]
     exact ⟨_, rfl, own_lower HO.out (by omega), HC.out.be⟩
    ·have e := HA.out.2
     rw [tw_yes (by rw [hb, hv]; rfl), show ∀ (a b : List Int) (x : Int), a ++ x :: b = (a ++ [x]) ++ b from fun a b x => by simp] at e
     have He := Lib.hid e
     rw [Bool.or_eq_true, decide_eq_true_eq, decide_eq_true_eq] at hv
     generalize vAt xs (k : Int) = v at *
     have Hs1 := Lib.hid hs1
     have hbase : w.heap.size + 1 ≤ wr.heap.size := HC.out.1.1
     have hk1 : IntKind.i64.wrap ((k : Int) - 1) = (k : Int) - 1 := IntWalk.i64_in _ ⟨by omega, by omega⟩
     clear hb e hs1
     rcases hv with rfl | rfl
     all_goals
      go_wp2_with (first | (go_at_call 179; refine (isOther_any p s c l st sk re fe ag player p1 p2 pn1 pc1 pn2 pc2 pp pq (k : Int) _ HP.out HPl.out).mono ?_; rintro e w5 ⟨rfl, hb5⟩; rw [Hb.out]; have HC := Lib.hid (HC.out.below hb5); have HO := Lib.hid (own_keep HO.out hb5); clear hb5; obtain ⟨⟨_, c0, c1, c2, c3, c4, c5, c6, c7, c8, c9, c10, c11, c12, c13⟩, -⟩ := HC.out) | (go_at_call 180; refine (seedsIn_any p s c l st sk re fe ag player p1 p2 pn1 pc1 pn2 pc2 pp pq xs ys [(k : Int)] _ 1 1 _ ((H0.out.below HC.out.be).alloc _) HQ.out.1 HQ.out.2 HR.out rfl (by omega) (row_1 _ _ _)).mono ?_; rintro e w6 ⟨rfl, hb6⟩; rw [Hs1.out]; have HC := Lib.hid ((HC.out.alloc _).below hb6); have HO := Lib.hid (own_keep (own_keep HO.out (al1 _ _)) hb6); clear hb6; obtain ⟨⟨_, c0, c1, c2, c3, c4, c5, c6, c7, c8, c9, c10, c11, c12, c13⟩, -⟩ := HC.out) | (at_builtin; refine wpList_append_own _ rfl _ _ 24 rfl (w.heap.size + 1) 2 i0 (.int .i64 0) 1 8 Tryz.underlying24 hi hz0 hz1 hz2 rfl (by decide) _ m (nvs acc) rfl (own_keep HO.out (al1 _ _)) ⟨_, 0, none⟩ 1 1 (nvs [(k : Int)]) rfl (by simp [nvs]) (row_news (row_1 _ (k : Int) 2)) (nvs_cell _) (by unfold maxLen; omega) (by omega) (by have := HC.out.1.1; simp; omega) ?_; intro v1 w3 hown1 hgrow1 hnil1))
      go_roundw
      case rel =>
       refine ⟨k, m + 1, acc ++ [(k : Int)], (k : Int) - 1, rfl, rfl, by omega, ?_, by rw [List.length_append, HA.out.1]; rfl, He.out, by omega, ?_⟩
       ·rw [nvs_app]
        exact hown1
       ·exact (HC.out.alloc _).grown hgrow1 (fun q hq => by have := ((own_keep HO.out (al1 _ (.cells #[.int .i64 (k : Int)] 2))).lt q hq).1; omega)
      case measure => first | (simp [intOf]; done) | (simp [intOf]; omega)
/- Cap9 -/
theorem own_slice {w : World} {B n : Nat} {v : Value} {xs : List Int} (h : w.ownsRow B 2 1 v n (nvs xs)) (hn : xs.length = n) (hle : n ≤ 1000) : ∃ a cc, v = .slice a n cc ∧ RowN w a xs := by
 by_cases hne : xs = []
 ·subst hne
  obtain ⟨_, ⟨hv, h0⟩ | ⟨g, cap, cur, hv, _⟩⟩ := h
  ·subst h0
   exact ⟨none, 0, hv, rowN_nil _ _⟩
  ·exact ⟨_, cap, hv, rowN_nil _ _⟩
 ·obtain ⟨c, b, hv, ho, _⟩ := outN_own h hn (by omega) hne
  exact ⟨_, c, hv, ho.row⟩
theorem own_1 (u : World) (x : Int) (B : Nat) (hB : B ≤ u.heap.size) : (u.alloc (.cells #[.int .i64 x] 2)).ownsRow B 2 1 (.slice (some ⟨u.heap.size, 0, none⟩) 1 1) 1 (nvs [x]) :=
 ⟨rfl, .inr ⟨u.heap.size, 1, #[.int .i64 x], rfl, hB, by show (u.heap.push _)[u.heap.size]? = _; simp, Nat.le_refl _, by decide, rfl, rfl⟩⟩
theorem own_2 (u : World) (x y : Int) (B : Nat) (hB : B ≤ u.heap.size) : (u.alloc (.cells #[.int .i64 x, .int .i64 y] 2)).ownsRow B 2 1 (.slice (some ⟨u.heap.size, 0, none⟩) 2 2) 2 (nvs [x, y]) :=
 ⟨rfl, .inr ⟨u.heap.size, 2, #[.int .i64 x, .int .i64 y], rfl, hB, by show (u.heap.push _)[u.heap.size]? = _; simp, Nat.le_refl _, by decide, rfl, rfl⟩⟩
theorem even_any (p s c l : Int) (st sk re fe ag : Bool) (player : Int) (p1 p2 : Option Addr) (pn1 pc1 pn2 pc2 : Nat) (pp pq : Int) (xs ys : List Int) (w : World) (h : PosR w p1 p2 pn1 pn2 xs ys) (hq : posB xs = true) (ht : tot xs ≤ 96) (hp : 2 ≤ p ∧ p ≤ 8) (hn1 : (pn1 : Int) = 2 * p) (hpl : player = 0 ∨ player = 1) (hl1 : -1 ≤ pp) (hl2 : pp < 2 * p) (L : List Int) (hL : (if ownB p (1 - player) pp && decide (vAt xs pp % 2 = 0) then [pp] else []) = L) :
  Calls Tryz.prog 184 #[.agg #[.int .i64 p, .int .i64 s, .bool st, .bool sk, .bool re, .bool fe, .bool ag, .int .i64 c, .int .i64 l, .int .i64 player, .slice p1 pn1 pc1, .slice p2 pn2 pc2, .int .i64 pp, .int .i64 pq]] w (OwnP L L.length w) := by
 have HC := Lib.hid (cp_new p s c l st sk re fe ag player p1 p2 pn1 pc1 pn2 pc2 pp pq w 123)
 obtain ⟨⟨_, c0, c1, c2, c3, c4, c5, c6, c7, c8, c9, c10, c11, c12, c13⟩, -⟩ := HC.out
 have H0 := Lib.hid h
 have HP := Lib.hid hp
 have HPl := Lib.hid hpl
 have HQ := Lib.hid (And.intro hq ht)
 have HV := vAt_bd hq ht pp
 have hs1 := sumAt_one xs pp
 have hR : (ownB p (1 - player) pp = true) → ∀ x ∈ [pp], 0 ≤ x ∧ x < (pn1 : Int) := fun ho x hx => by
  unfold ownB at ho
  simp only [Bool.and_eq_true, decide_eq_true_eq] at ho
  rcases List.mem_cons.1 hx with rfl | hx
  ·rcases hpl with rfl | rfl <;> omega
  ·cases hx
 generalize vAt xs pp = v at *
 rcases hb : ownB p (1 - player) pp with _ | _
 ·have e : L = [] := by rw [← hL, hb]; rfl
  subst e
  have Hb := Lib.hid hb
  clear hb hL h hp hpl hq ht hn1 hR hs1
  go_enter Tryz.func184, Tryz.ntmps184
  go_wp2_with (go_at_call 179; refine (isOther_any p s c l st sk re fe ag player p1 p2 pn1 pc1 pn2 pc2 pp pq pp _ HP.out HPl.out).mono ?_; rintro e w5 ⟨rfl, hb5⟩; rw [Hb.out]; have HC := Lib.hid (HC.out.below hb5); clear hb5; obtain ⟨⟨_, c0, c1, c2, c3, c4, c5, c6, c7, c8, c9, c10, c11, c12, c13⟩, -⟩ := HC.out)
  go_ret
  exact ⟨_, rfl, World.ownsRow_nil _ _ _ _, HC.out.be⟩
 ·have HR := Lib.hid (hR hb)
  have Hb := Lib.hid hb
  have Hs1 := Lib.hid hs1
  by_cases he : v % 2 = 0
  ·have e : L = [pp] := by rw [← hL, hb, decide_eq_true he]; rfl
   subst e
   have t1 : (v % 2 != 0) = false := by simp [he]
   have t2 : (v.tmod 2 != 0) = false := by rw [Int.tmod_eq_emod_of_nonneg HV.1]; exact t1
   clear hb hL h hp hpl hq ht hn1 hR hs1
   go_enter Tryz.func184, Tryz.ntmps184
   go_wp2_with (first | (go_at_call 179; refine (isOther_any p s c l st sk re fe ag player p1 p2 pn1 pc1 pn2 pc2 pp pq pp _ HP.out HPl.out).mono ?_; rintro e w5 ⟨rfl, hb5⟩; rw [Hb.out]; have HC := Lib.hid (HC.out.below hb5); clear hb5; obtain ⟨⟨_, c0, c1, c2, c3, c4, c5, c6, c7, c8, c9, c10, c11, c12, c13⟩, -⟩ := HC.out) | (go_at_call 180; refine (seedsIn_any p s c l st sk re fe ag player p1 p2 pn1 pc1 pn2 pc2 pp pq xs ys [pp] _ 1 1 _ ((H0.out.below HC.out.be).alloc _) HQ.out.1 HQ.out.2 HR.out rfl (by omega) (row_1 _ _ _)).mono ?_; rintro e w6 ⟨rfl, hb6⟩; rw [Hs1.out]; have HC := Lib.hid ((HC.out.alloc _).below hb6); clear hb6; obtain ⟨⟨_, c0, c1, c2, c3, c4, c5, c6, c7, c8, c9, c10, c11, c12, c13⟩, -⟩ := HC.out))
   go_ret
   exact ⟨_, rfl, own_1 _ pp _ HC.out.be.size, (HC.out.alloc _).be⟩
  ·have e : L = [] := by rw [← hL, hb, decide_eq_false he]; rfl
   subst e
   have t1 : (v % 2 != 0) = true := by simp [he]
   have t2 : (v.tmod 2 != 0) = true := by rw [Int.tmod_eq_emod_of_nonneg HV.1]; exact t1
   clear hb hL h hp hpl hq ht hn1 hR hs1
   go_enter Tryz.func184, Tryz.ntmps184
   go_wp2_with (first | (go_at_call 179; refine (isOther_any p s c l st sk re fe ag player p1 p2 pn1 pc1 pn2 pc2 pp pq pp _ HP.out HPl.out).mono ?_; rintro e w5 ⟨rfl, hb5⟩; rw [Hb.out]; have HC := Lib.hid (HC.out.below hb5); clear hb5; obtain ⟨⟨_, c0, c1, c2, c3, c4, c5, c6, c7, c8, c9, c10, c11, c12, c13⟩, -⟩ := HC.out) | (go_at_call 180; refine (seedsIn_any p s c l st sk re fe ag player p1 p2 pn1 pc1 pn2 pc2 pp pq xs ys [pp] _ 1 1 _ ((H0.out.below HC.out.be).alloc _) HQ.out.1 HQ.out.2 HR.out rfl (by omega) (row_1 _ _ _)).mono ?_; rintro e w6 ⟨rfl, hb6⟩; rw [Hs1.out]; have HC := Lib.hid ((HC.out.alloc _).below hb6); clear hb6; obtain ⟨⟨_, c0, c1, c2, c3, c4, c5, c6, c7, c8, c9, c10, c11, c12, c13⟩, -⟩ := HC.out))
   go_ret
   exact ⟨_, rfl, World.ownsRow_nil _ _ _ _, HC.out.be⟩
theorem cross_any (p s c l : Int) (st sk re fe ag : Bool) (player : Int) (p1 p2 : Option Addr) (pn1 pc1 pn2 pc2 : Nat) (pp pq : Int) (xs ys : List Int) (w : World) (h : PosR w p1 p2 pn1 pn2 xs ys) (hq : posB xs = true) (ht : tot xs ≤ 96) (hok : okR p s c l st ag = true) (hn1 : (pn1 : Int) = 2 * p) (hpl : player = 0 ∨ player = 1) (hl1 : -1 ≤ pp) (hl2 : pp < 2 * p) (L : List Int) (hL : (if ownB p player pp && decide (vAt xs pp = 1) && decide (0 < vAt xs (2 * p - 1 - pp)) then [pp, 2 * p - 1 - pp] else []) = L) :
  Calls Tryz.prog 183 #[.agg #[.int .i64 p, .int .i64 s, .bool st, .bool sk, .bool re, .bool fe, .bool ag, .int .i64 c, .int .i64 l, .int .i64 player, .slice p1 pn1 pc1, .slice p2 pn2 pc2, .int .i64 pp, .int .i64 pq]] w (OwnP L L.length w) := by
 have HC := Lib.hid (cp_new p s c l st sk re fe ag player p1 p2 pn1 pc1 pn2 pc2 pp pq w 123)
 obtain ⟨⟨_, c0, c1, c2, c3, c4, c5, c6, c7, c8, c9, c10, c11, c12, c13⟩, -⟩ := HC.out
 have H0 := Lib.hid h
 have hbd := okR_bd hok
 have HP : Hid (2 ≤ p ∧ p ≤ 8) := Lib.hid ⟨hbd.1, hbd.2.1⟩
 have HPl := Lib.hid hpl
 have HQ := Lib.hid (And.intro hq ht)
 have HV := vAt_bd hq ht (2 * p - 1 - pp)
 have hs1 := sumAt_one xs pp
 have hs2 := sumAt_one xs (2 * p - 1 - pp)
 have hr0 : (ownB p player pp = true) → 0 ≤ pp := fun ho => by
  unfold ownB at ho
  simp only [Bool.and_eq_true, decide_eq_true_eq] at ho
  rcases hpl with rfl | rfl <;> omega
 generalize vAt xs pp = v at *
 generalize vAt xs (2 * p - 1 - pp) = v2 at *
 rcases hb : ownB p player pp with _ | _
 ·have e : L = [] := by rw [← hL, hb]; rfl
  subst e
  have Hb := Lib.hid hb
  clear hb hL h hbd hok hpl hq ht hn1 hr0 hs1 hs2
  go_enter Tryz.func183, Tryz.ntmps183
  go_wp2_with (go_at_call 187; refine (owns_any p s c l st sk re fe ag player pp _ HP.out HPl.out).mono ?_; rintro e w5 ⟨rfl, hb5⟩; rw [Hb.out]; have HC := Lib.hid (HC.out.below hb5); clear hb5; obtain ⟨⟨_, c0, c1, c2, c3, c4, c5, c6, c7, c8, c9, c10, c11, c12, c13⟩, -⟩ := HC.out)
  go_ret
  exact ⟨_, rfl, World.ownsRow_nil _ _ _ _, HC.out.be⟩
 ·have h0 := hr0 hb
  have HR : Hid (∀ x ∈ [pp], 0 ≤ x ∧ x < (pn1 : Int)) := Lib.hid (fun x hx => by
   rcases List.mem_cons.1 hx with rfl | hx
   ·omega
   ·cases hx)
  have HR2 : Hid (∀ x ∈ [2 * p - 1 - pp], 0 ≤ x ∧ x < (pn1 : Int)) := Lib.hid (fun x hx => by
   rcases List.mem_cons.1 hx with rfl | hx
   ·omega
   ·cases hx)
  have hpc : pitC (okR p s c l st ag) p pp = 0 := by rw [hok]; exact pitC_in h0 hl2
  have Hpc := Lib.hid hpc
  have Hpv : Hid (pitV 0 (2 * p - 1 - pp) = 2 * p - 1 - pp) := Lib.hid rfl
  have Hb := Lib.hid hb
  have Hs1 := Lib.hid hs1
  have Hs2 := Lib.hid hs2
  by_cases he : v = 1
  ·have t1 : (v != 1) = false := by simp [he]
   by_cases hz : 0 < v2
   ·have e : L = [pp, 2 * p - 1 - pp] := by rw [← hL, hb, decide_eq_true he, decide_eq_true hz]; rfl
    subst e
    have t2 : (v2 == 0) = false := by simp; omega
    clear hb hL h hbd hok hpl hq ht hn1 hr0 hs1 hs2 hpc he
    go_enter Tryz.func183, Tryz.ntmps183
    go_wp2_with (first | (go_at_call 187; refine (owns_any p s c l st sk re fe ag player pp _ HP.out HPl.out).mono ?_; rintro e w5 ⟨rfl, hb5⟩; rw [Hb.out]; have HC := Lib.hid (HC.out.below hb5); clear hb5; obtain ⟨⟨_, c0, c1, c2, c3, c4, c5, c6, c7, c8, c9, c10, c11, c12, c13⟩, -⟩ := HC.out) | (go_at_call 188; refine (impl_opposite p s c l st sk re fe ag pp _).mono ?_; rintro e w7 ⟨rfl, hb7⟩; rw [Hpc.out, Hpv.out]; have HC := Lib.hid (HC.out.below hb7); clear hb7; obtain ⟨⟨_, c0, c1, c2, c3, c4, c5, c6, c7, c8, c9, c10, c11, c12, c13⟩, -⟩ := HC.out) | (go_at_call 180; refine (seedsIn_any p s c l st sk re fe ag player p1 p2 pn1 pc1 pn2 pc2 pp pq xs ys [2 * p - 1 - pp] _ 1 1 _ ((H0.out.below HC.out.be).alloc _) HQ.out.1 HQ.out.2 HR2.out rfl (by omega) (row_1 _ _ _)).mono ?_; rintro e w8 ⟨rfl, hb8⟩; rw [Hs2.out]; have HC := Lib.hid ((HC.out.alloc _).below hb8); clear hb8; obtain ⟨⟨_, c0, c1, c2, c3, c4, c5, c6, c7, c8, c9, c10, c11, c12, c13⟩, -⟩ := HC.out) | (go_at_call 180; refine (seedsIn_any p s c l st sk re fe ag player p1 p2 pn1 pc1 pn2 pc2 pp pq xs ys [pp] _ 1 1 _ ((H0.out.below HC.out.be).alloc _) HQ.out.1 HQ.out.2 HR.out rfl (by omega) (row_1 _ _ _)).mono ?_; rintro e w6 ⟨rfl, hb6⟩; rw [Hs1.out]; have HC := Lib.hid ((HC.out.alloc _).below hb6); clear hb6; obtain ⟨⟨_, c0, c1, c2, c3, c4, c5, c6, c7, c8, c9, c10, c11, c12, c13⟩, -⟩ := HC.out))
    go_ret
    exact ⟨_, rfl, own_2 _ pp _ _ HC.out.be.size, (HC.out.alloc _).be⟩
   ·have e : L = [] := by rw [← hL, hb, decide_eq_true he, decide_eq_false hz]; rfl
    subst e
    have t2 : (v2 == 0) = true := by simp; omega
    clear hb hL h hbd hok hpl hq ht hn1 hr0 hs1 hs2 hpc he
    go_enter Tryz.func183, Tryz.ntmps183
    go_wp2_with (first | (go_at_call 187; refine (owns_any p s c l st sk re fe ag player pp _ HP.out HPl.out).mono ?_; rintro e w5 ⟨rfl, hb5⟩; rw [Hb.out]; have HC := Lib.hid (HC.out.below hb5); clear hb5; obtain ⟨⟨_, c0, c1, c2, c3, c4, c5, c6, c7, c8, c9, c10, c11, c12, c13⟩, -⟩ := HC.out) | (go_at_call 188; refine (impl_opposite p s c l st sk re fe ag pp _).mono ?_; rintro e w7 ⟨rfl, hb7⟩; rw [Hpc.out, Hpv.out]; have HC := Lib.hid (HC.out.below hb7); clear hb7; obtain ⟨⟨_, c0, c1, c2, c3, c4, c5, c6, c7, c8, c9, c10, c11, c12, c13⟩, -⟩ := HC.out) | (go_at_call 180; refine (seedsIn_any p s c l st sk re fe ag player p1 p2 pn1 pc1 pn2 pc2 pp pq xs ys [2 * p - 1 - pp] _ 1 1 _ ((H0.out.below HC.out.be).alloc _) HQ.out.1 HQ.out.2 HR2.out rfl (by omega) (row_1 _ _ _)).mono ?_; rintro e w8 ⟨rfl, hb8⟩; rw [Hs2.out]; have HC := Lib.hid ((HC.out.alloc _).below hb8); clear hb8; obtain ⟨⟨_, c0, c1, c2, c3, c4, c5, c6, c7, c8, c9, c10, c11, c12, c13⟩, -⟩ := HC.out) | (go_at_call 180; refine (seedsIn_any p s c l st sk re fe ag player p1 p2 pn1 pc1 pn2 pc2 pp pq xs ys [pp] _ 1 1 _ ((H0.out.below HC.out.be).alloc _) HQ.out.1 HQ.out.2 HR.out rfl (by omega) (row_1 _ _ _)).mono ?_; rintro e w6 ⟨rfl, hb6⟩; rw [Hs1.out]; have HC := Lib.hid ((HC.out.alloc _).below hb6); clear hb6; obtain ⟨⟨_, c0, c1, c2, c3, c4, c5, c6, c7, c8, c9, c10, c11, c12, c13⟩, -⟩ := HC.out))
    go_ret
    exact ⟨_, rfl, World.ownsRow_nil _ _ _ _, HC.out.be⟩
  ·have t1 : (v != 1) = true := by simp [he]
   have e : L = [] := by rw [← hL, hb, decide_eq_false he]; rfl
   subst e
   clear hb hL h hbd hok hpl hq ht hn1 hr0 hs1 hs2 hpc he
   go_enter Tryz.func183, Tryz.ntmps183
   go_wp2_with (first | (go_at_call 187; refine (owns_any p s c l st sk re fe ag player pp _ HP.out HPl.out).mono ?_; rintro e w5 ⟨rfl, hb5⟩; rw [Hb.out]; have HC := Lib.hid (HC.out.below hb5); clear hb5; obtain ⟨⟨_, c0, c1, c2, c3, c4, c5, c6, c7, c8, c9, c10, c11, c12, c13⟩, -⟩ := HC.out) | (go_at_call 180; refine (seedsIn_any p s c l st sk re fe ag player p1 p2 pn1 pc1 pn2 pc2 pp pq xs ys [pp] _ 1 1 _ ((H0.out.below HC.out.be).alloc _) HQ.out.1 HQ.out.2 HR.out rfl (by omega) (row_1 _ _ _)).mono ?_; rintro e w6 ⟨rfl, hb6⟩; rw [Hs1.out]; have HC := Lib.hid ((HC.out.alloc _).below hb6); clear hb6; obtain ⟨⟨_, c0, c1, c2, c3, c4, c5, c6, c7, c8, c9, c10, c11, c12, c13⟩, -⟩ := HC.out))
   go_ret
   exact ⟨_, rfl, World.ownsRow_nil _ _ _ _, HC.out.be⟩
/- Cap10 -/
def KnAt (w : World) (p s c l : Int) (st sk re fe ag : Bool) (player : Int) (p1 p2 : Option Addr) (pn1 pc1 pn2 pc2 : Nat) (pp pq : Int) (u : World) : Prop := CpAt w p s c l st sk re fe ag player p1 p2 pn1 pc1 pn2 pc2 pp pq u ∧ (w.heap.size + 1 < u.heap.size ∧ u.cell? ⟨w.heap.size + 1, 0, none⟩ = some (.func (.func 181) #[] #[]) ∧ u.cell? ⟨w.heap.size + 1, 1, none⟩ = some (.func (.func 182) #[] #[]) ∧ u.cell? ⟨w.heap.size + 1, 2, none⟩ = some (.func (.func 183) #[] #[]) ∧ u.cell? ⟨w.heap.size + 1, 3, none⟩ = some (.func (.func 184) #[] #[]))
section
variable {w u v : World} {p s c l player : Int} {st sk re fe ag : Bool} {p1 p2 : Option Addr} {pn1 pc1 pn2 pc2 : Nat} {pp pq : Int}
theorem KnAt.below (h : KnAt w p s c l st sk re fe ag player p1 p2 pn1 pc1 pn2 pc2 pp pq u) (k : Below u.heap.size u v) : KnAt w p s c l st sk re fe ag player p1 p2 pn1 pc1 pn2 pc2 pp pq v := by
 obtain ⟨h1, hb, h⟩ := h
 have e := fun o => k.cell (p := ⟨w.heap.size + 1, o, none⟩) hb
 exact ⟨h1.below k, Nat.lt_of_lt_of_le hb k.size, by rw [e, e, e, e]; exact h⟩
theorem KnAt.drew (h : KnAt w p s c l st sk re fe ag player p1 p2 pn1 pc1 pn2 pc2 pp pq u) : KnAt w p s c l st sk re fe ag player p1 p2 pn1 pc1 pn2 pc2 pp pq u.drew := ⟨h.1.drew, h.2⟩
end
theorem kn_new {w u : World} {p s c l player : Int} {st sk re fe ag : Bool} {p1 p2 : Option Addr} {pn1 pc1 pn2 pc2 : Nat} {pp pq : Int} (T : TypeId) (h : CpAt w p s c l st sk re fe ag player p1 p2 pn1 pc1 pn2 pc2 pp pq u) (hs : u.heap.size = w.heap.size + 1) : KnAt w p s c l st sk re fe ag player p1 p2 pn1 pc1 pn2 pc2 pp pq (u.alloc (.cells #[.func (.func 181) #[] #[], .func (.func 182) #[] #[], .func (.func 183) #[] #[], .func (.func 184) #[] #[]] T)) := by
 refine ⟨h.alloc _, ?_⟩
 rw [← hs]
 exact ⟨by simp, by go_simp, by go_simp, by go_simp, by go_simp⟩
theorem raw_any0 (p s c l : Int) (st sk re fe ag : Bool) (player : Int) (p1 p2 : Option Addr) (pn1 pc1 pn2 pc2 : Nat) (pp pq : Int) (w : World) (hc : c = 0) (L : List Int)
  (hf : ∀ u, Below w.heap.size w u → Calls Tryz.prog 181 #[.agg #[.int .i64 p, .int .i64 s, .bool st, .bool sk, .bool re, .bool fe, .bool ag, .int .i64 c, .int .i64 l, .int .i64 player, .slice p1 pn1 pc1, .slice p2 pn2 pc2, .int .i64 pp, .int .i64 pq]] u (OwnP L L.length u)) :
  Calls Tryz.prog 165 #[.agg #[.int .i64 p, .int .i64 s, .bool st, .bool sk, .bool re, .bool fe, .bool ag, .int .i64 c, .int .i64 l, .int .i64 player, .slice p1 pn1 pc1, .slice p2 pn2 pc2, .int .i64 pp, .int .i64 pq]] w (OwnP L L.length w) := by
 subst hc
 have HF := Lib.hid hf
 have HC := Lib.hid (cp_new p s 0 l st sk re fe ag player p1 p2 pn1 pc1 pn2 pc2 pp pq w 123)
 have HX := Lib.hid (kn_new 197 HC.out (by simp))
 obtain ⟨⟨_, c0, c1, c2, c3, c4, c5, c6, c7, c8, c9, c10, c11, c12, c13⟩, -⟩ := HC.out
 clear hf
 go_enter Tryz.func165, Tryz.ntmps165
 go_wp2_with fail
 go_region_held3 (fun u => ((w.heap.size < u.heap.size ∧ u.cell? ⟨w.heap.size, 0, none⟩ = some (.int .i64 p) ∧ u.cell? ⟨w.heap.size, 1, none⟩ = some (.int .i64 s) ∧ u.cell? ⟨w.heap.size, 2, none⟩ = some (.bool st) ∧ u.cell? ⟨w.heap.size, 3, none⟩ = some (.bool sk) ∧ u.cell? ⟨w.heap.size, 4, none⟩ = some (.bool re) ∧ u.cell? ⟨w.heap.size, 5, none⟩ = some (.bool fe) ∧ u.cell? ⟨w.heap.size, 6, none⟩ = some (.bool ag) ∧ u.cell? ⟨w.heap.size, 7, none⟩ = some (.int .i64 0) ∧ u.cell? ⟨w.heap.size, 8, none⟩ = some (.int .i64 l) ∧ u.cell? ⟨w.heap.size, 9, none⟩ = some (.int .i64 player) ∧ u.cell? ⟨w.heap.size, 10, none⟩ = some (.slice p1 pn1 pc1) ∧ u.cell? ⟨w.heap.size, 11, none⟩ = some (.slice p2 pn2 pc2) ∧ u.cell? ⟨w.heap.size, 12, none⟩ = some (.int .i64 pp) ∧ u.cell? ⟨w.heap.size, 13, none⟩ = some (.int .i64 pq)) ∧ Below w.heap.size w u) ∧ (w.heap.size + 1 < u.heap.size ∧ u.cell? ⟨w.heap.size + 1, 0, none⟩ = some (.func (.func 181) #[] #[]) ∧ u.cell? ⟨w.heap.size + 1, 1, none⟩ = some (.func (.func 182) #[] #[]) ∧ u.cell? ⟨w.heap.size + 1, 2, none⟩ = some (.func (.func 183) #[] #[]) ∧ u.cell? ⟨w.heap.size + 1, 3, none⟩ = some (.func (.func 184) #[] #[]))) (first | exact HX.out | exact HX.out.drew)
  ((go_at_call 181; refine (HF.out _ (by first | exact HX.out.1.be | exact HX.out.drew.1.be)).mono ?_; rintro e w5 ⟨v, rfl, hown, hb5⟩; have HO := Lib.hid (own_lower hown (by have h1 := HX.out.1.be.size; exact h1)); have HX := Lib.hid (by first | exact HX.out.below hb5 | exact HX.out.drew.below hb5 : KnAt w p s 0 l st sk re fe ag player p1 p2 pn1 pc1 pn2 pc2 pp pq w5); clear hown hb5))
 go_wp2_with fail
 go_ret
 exact ⟨_, rfl, HO.out, HX.out.1.be⟩
theorem raw_any1 (p s c l : Int) (st sk re fe ag : Bool) (player : Int) (p1 p2 : Option Addr) (pn1 pc1 pn2 pc2 : Nat) (pp pq : Int) (w : World) (hc : c = 1) (L : List Int)
  (hf : ∀ u, Below w.heap.size w u → Calls Tryz.prog 182 #[.agg #[.int .i64 p, .int .i64 s, .bool st, .bool sk, .bool re, .bool fe, .bool ag, .int .i64 c, .int .i64 l, .int .i64 player, .slice p1 pn1 pc1, .slice p2 pn2 pc2, .int .i64 pp, .int .i64 pq]] u (OwnP L L.length u)) :
  Calls Tryz.prog 165 #[.agg #[.int .i64 p, .int .i64 s, .bool st, .bool sk, .bool re, .bool fe, .bool ag, .int .i64 c, .int .i64 l, .int .i64 player, .slice p1 pn1 pc1, .slice p2 pn2 pc2, .int .i64 pp, .int .i64 pq]] w (OwnP L L.length w) := by
 subst hc
 have HF := Lib.hid hf
 have HC := Lib.hid (cp_new p s 1 l st sk re fe ag player p1 p2 pn1 pc1 pn2 pc2 pp pq w 123)
 have HX := Lib.hid (kn_new 197 HC.out (by simp))
 obtain ⟨⟨_, c0, c1, c2, c3, c4, c5, c6, c7, c8, c9, c10, c11, c12, c13⟩, -⟩ := HC.out
 clear hf
 go_enter Tryz.func165, Tryz.ntmps165
 go_wp2_with fail
 go_region_held3 (fun u => ((w.heap.size < u.heap.size ∧ u.cell? ⟨w.heap.size, 0, none⟩ = some (.int .i64 p) ∧ u.cell? ⟨w.heap.size, 1, none⟩ = some (.int .i64 s) ∧ u.cell? ⟨w.heap.size, 2, none⟩ = some (.bool st) ∧ u.cell? ⟨w.heap.size, 3, none⟩ = some (.bool sk) ∧ u.cell? ⟨w.heap.size, 4, none⟩ = some (.bool re) ∧ u.cell? ⟨w.heap.size, 5, none⟩ = some (.bool fe) ∧ u.cell? ⟨w.heap.size, 6, none⟩ = some (.bool ag) ∧ u.cell? ⟨w.heap.size, 7, none⟩ = some (.int .i64 1) ∧ u.cell? ⟨w.heap.size, 8, none⟩ = some (.int .i64 l) ∧ u.cell? ⟨w.heap.size, 9, none⟩ = some (.int .i64 player) ∧ u.cell? ⟨w.heap.size, 10, none⟩ = some (.slice p1 pn1 pc1) ∧ u.cell? ⟨w.heap.size, 11, none⟩ = some (.slice p2 pn2 pc2) ∧ u.cell? ⟨w.heap.size, 12, none⟩ = some (.int .i64 pp) ∧ u.cell? ⟨w.heap.size, 13, none⟩ = some (.int .i64 pq)) ∧ Below w.heap.size w u) ∧ (w.heap.size + 1 < u.heap.size ∧ u.cell? ⟨w.heap.size + 1, 0, none⟩ = some (.func (.func 181) #[] #[]) ∧ u.cell? ⟨w.heap.size + 1, 1, none⟩ = some (.func (.func 182) #[] #[]) ∧ u.cell? ⟨w.heap.size + 1, 2, none⟩ = some (.func (.func 183) #[] #[]) ∧ u.cell? ⟨w.heap.size + 1, 3, none⟩ = some (.func (.func 184) #[] #[]))) (first | exact HX.out | exact HX.out.drew)
  ((go_at_call 182; refine (HF.out _ (by first | exact HX.out.1.be | exact HX.out.drew.1.be)).mono ?_; rintro e w5 ⟨v, rfl, hown, hb5⟩; have HO := Lib.hid (own_lower hown (by have h1 := HX.out.1.be.size; exact h1)); have HX := Lib.hid (by first | exact HX.out.below hb5 | exact HX.out.drew.below hb5 : KnAt w p s 1 l st sk re fe ag player p1 p2 pn1 pc1 pn2 pc2 pp pq w5); clear hown hb5))
 go_wp2_with fail
 go_ret
 exact ⟨_, rfl, HO.out, HX.out.1.be⟩
theorem raw_any2 (p s c l : Int) (st sk re fe ag : Bool) (player : Int) (p1 p2 : Option Addr) (pn1 pc1 pn2 pc2 : Nat) (pp pq : Int) (w : World) (hc : c = 2) (L : List Int)
  (hf : ∀ u, Below w.heap.size w u → Calls Tryz.prog 183 #[.agg #[.int .i64 p, .int .i64 s, .bool st, .bool sk, .bool re, .bool fe, .bool ag, .int .i64 c, .int .i64 l, .int .i64 player, .slice p1 pn1 pc1, .slice p2 pn2 pc2, .int .i64 pp, .int .i64 pq]] u (OwnP L L.length u)) :
  Calls Tryz.prog 165 #[.agg #[.int .i64 p, .int .i64 s, .bool st, .bool sk, .bool re, .bool fe, .bool ag, .int .i64 c, .int .i64 l, .int .i64 player, .slice p1 pn1 pc1, .slice p2 pn2 pc2, .int .i64 pp, .int .i64 pq]] w (OwnP L L.length w) := by
 subst hc
 have HF := Lib.hid hf
 have HC := Lib.hid (cp_new p s 2 l st sk re fe ag player p1 p2 pn1 pc1 pn2 pc2 pp pq w 123)
 have HX := Lib.hid (kn_new 197 HC.out (by simp))
 obtain ⟨⟨_, c0, c1, c2, c3, c4, c5, c6, c7, c8, c9, c10, c11, c12, c13⟩, -⟩ := HC.out
 clear hf
 go_enter Tryz.func165, Tryz.ntmps165
 go_wp2_with fail
 go_region_held3 (fun u => ((w.heap.size < u.heap.size ∧ u.cell? ⟨w.heap.size, 0, none⟩ = some (.int .i64 p) ∧ u.cell? ⟨w.heap.size, 1, none⟩ = some (.int .i64 s) ∧ u.cell? ⟨w.heap.size, 2, none⟩ = some (.bool st) ∧ u.cell? ⟨w.heap.size, 3, none⟩ = some (.bool sk) ∧ u.cell? ⟨w.heap.size, 4, none⟩ = some (.bool re) ∧ u.cell? ⟨w.heap.size, 5, none⟩ = some (.bool fe) ∧ u.cell? ⟨w.heap.size, 6, none⟩ = some (.bool ag) ∧ u.cell? ⟨w.heap.size, 7, none⟩ = some (.int .i64 2) ∧ u.cell? ⟨w.heap.size, 8, none⟩ = some (.int .i64 l) ∧ u.cell? ⟨w.heap.size, 9, none⟩ = some (.int .i64 player) ∧ u.cell? ⟨w.heap.size, 10, none⟩ = some (.slice p1 pn1 pc1) ∧ u.cell? ⟨w.heap.size, 11, none⟩ = some (.slice p2 pn2 pc2) ∧ u.cell? ⟨w.heap.size, 12, none⟩ = some (.int .i64 pp) ∧ u.cell? ⟨w.heap.size, 13, none⟩ = some (.int .i64 pq)) ∧ Below w.heap.size w u) ∧ (w.heap.size + 1 < u.heap.size ∧ u.cell? ⟨w.heap.size + 1, 0, none⟩ = some (.func (.func 181) #[] #[]) ∧ u.cell? ⟨w.heap.size + 1, 1, none⟩ = some (.func (.func 182) #[] #[]) ∧ u.cell? ⟨w.heap.size + 1, 2, none⟩ = some (.func (.func 183) #[] #[]) ∧ u.cell? ⟨w.heap.size + 1, 3, none⟩ = some (.func (.func 184) #[] #[]))) (first | exact HX.out | exact HX.out.drew)
  ((go_at_call 183; refine (HF.out _ (by first | exact HX.out.1.be | exact HX.out.drew.1.be)).mono ?_; rintro e w5 ⟨v, rfl, hown, hb5⟩; have HO := Lib.hid (own_lower hown (by have h1 := HX.out.1.be.size; exact h1)); have HX := Lib.hid (by first | exact HX.out.below hb5 | exact HX.out.drew.below hb5 : KnAt w p s 2 l st sk re fe ag player p1 p2 pn1 pc1 pn2 pc2 pp pq w5); clear hown hb5))
 go_wp2_with fail
 go_ret
 exact ⟨_, rfl, HO.out, HX.out.1.be⟩
theorem raw_any3 (p s c l : Int) (st sk re fe ag : Bool) (player : Int) (p1 p2 : Option Addr) (pn1 pc1 pn2 pc2 : Nat) (pp pq : Int) (w : World) (hc : c = 3) (L : List Int)
  (hf : ∀ u, Below w.heap.size w u → Calls Tryz.prog 184 #[.agg #[.int .i64 p, .int .i64 s, .bool st, .bool sk, .bool re, .bool fe, .bool ag, .int .i64 c, .int .i64 l, .int .i64 player, .slice p1 pn1 pc1, .slice p2 pn2 pc2, .int .i64 pp, .int .i64 pq]] u (OwnP L L.length u)) :
  Calls Tryz.prog 165 #[.agg #[.int .i64 p, .int .i64 s, .bool st, .bool sk, .bool re, .bool fe, .bool ag, .int .i64 c, .int .i64 l, .int .i64 player, .slice p1 pn1 pc1, .slice p2 pn2 pc2, .int .i64 pp, .int .i64 pq]] w (OwnP L L.length w) := by
 subst hc
 have HF := Lib.hid hf
 have HC := Lib.hid (cp_new p s 3 l st sk re fe ag player p1 p2 pn1 pc1 pn2 pc2 pp pq w 123)
 have HX := Lib.hid (kn_new 197 HC.out (by simp))
 obtain ⟨⟨_, c0, c1, c2, c3, c4, c5, c6, c7, c8, c9, c10, c11, c12, c13⟩, -⟩ := HC.out
 clear hf
 go_enter Tryz.func165, Tryz.ntmps165
 go_wp2_with fail
 go_region_held3 (fun u => ((w.heap.size < u.heap.size ∧ u.cell? ⟨w.heap.size, 0, none⟩ = some (.int .i64 p) ∧ u.cell? ⟨w.heap.size, 1, none⟩ = some (.int .i64 s) ∧ u.cell? ⟨w.heap.size, 2, none⟩ = some (.bool st) ∧ u.cell? ⟨w.heap.size, 3, none⟩ = some (.bool sk) ∧ u.cell? ⟨w.heap.size, 4, none⟩ = some (.bool re) ∧ u.cell? ⟨w.heap.size, 5, none⟩ = some (.bool fe) ∧ u.cell? ⟨w.heap.size, 6, none⟩ = some (.bool ag) ∧ u.cell? ⟨w.heap.size, 7, none⟩ = some (.int .i64 3) ∧ u.cell? ⟨w.heap.size, 8, none⟩ = some (.int .i64 l) ∧ u.cell? ⟨w.heap.size, 9, none⟩ = some (.int .i64 player) ∧ u.cell? ⟨w.heap.size, 10, none⟩ = some (.slice p1 pn1 pc1) ∧ u.cell? ⟨w.heap.size, 11, none⟩ = some (.slice p2 pn2 pc2) ∧ u.cell? ⟨w.heap.size, 12, none⟩ = some (.int .i64 pp) ∧ u.cell? ⟨w.heap.size, 13, none⟩ = some (.int .i64 pq)) ∧ Below w.heap.size w u) ∧ (w.heap.size + 1 < u.heap.size ∧ u.cell? ⟨w.heap.size + 1, 0, none⟩ = some (.func (.func 181) #[] #[]) ∧ u.cell? ⟨w.heap.size + 1, 1, none⟩ = some (.func (.func 182) #[] #[]) ∧ u.cell? ⟨w.heap.size + 1, 2, none⟩ = some (.func (.func 183) #[] #[]) ∧ u.cell? ⟨w.heap.size + 1, 3, none⟩ = some (.func (.func 184) #[] #[]))) (first | exact HX.out | exact HX.out.drew)
  ((go_at_call 184; refine (HF.out _ (by first | exact HX.out.1.be | exact HX.out.drew.1.be)).mono ?_; rintro e w5 ⟨v, rfl, hown, hb5⟩; have HO := Lib.hid (own_lower hown (by have h1 := HX.out.1.be.size; exact h1)); have HX := Lib.hid (by first | exact HX.out.below hb5 | exact HX.out.drew.below hb5 : KnAt w p s 3 l st sk re fe ag player p1 p2 pn1 pc1 pn2 pc2 pp pq w5); clear hown hb5))
 go_wp2_with fail
 go_ret
 exact ⟨_, rfl, HO.out, HX.out.1.be⟩
def offH (o P : Nat) (player : Int) : Nat := if player = 0 then o else o + P
def capH (o P : Nat) (player : Int) : Nat := if player = 0 then o else o - P
theorem row_half {w : World} {g o : Nat} {xs : List Int} {P : Nat} {player : Int} (h : RowN w (some ⟨g, o, none⟩) xs) (hne : xs ≠ []) (hpl : player = 0 ∨ player = 1) : RowN w (some ⟨g, offH o P player, none⟩) (halfL xs P player) := by
 rcases hpl with rfl | rfl
 ·have := h.part hne 0 P
  rw [Nat.add_zero] at this
  unfold halfL
  simpa [offH] using this
 ·have := h.part hne P P
  unfold halfL
  simpa [offH] using this
theorem side_d0 (P : Nat) (s c l : Int) (st sk re fe ag : Bool) (g o : Nat) (p2 : Option Addr) (pc1 pn2 pc2 : Nat) (pp : Int) (player : Int) (w : World) (hP : 2 ≤ P) (hP2 : P ≤ 8) (hc : 2 * P ≤ pc1) (hp : player = 0 ∨ player = 1) :
  Calls Tryz.prog 135 #[.agg #[.slice (some ⟨g, o, none⟩) (2 * P) pc1, .slice p2 pn2 pc2, .int .i64 pp], .agg #[.int .i64 P, .int .i64 s, .bool st, .bool sk, .bool re, .bool fe, .bool ag, .int .i64 c, .int .i64 l], .int .i64 player] w fun e w' =>
   e = .returned (.slice (some ⟨g, offH o P player, none⟩) P (capH pc1 P player)) ∧ Below w.heap.size w w' := by
 have BB := Lib.hid (((Below.refl w.heap.size w).alloc (Nat.le_refl _) (.cells #[.slice (some ⟨g, o, none⟩) (2 * P) pc1, .slice p2 pn2 pc2, .int .i64 pp] 33)).alloc (by simp) (.cells #[.int .i64 P, .int .i64 s, .bool st, .bool sk, .bool re, .bool fe, .bool ag, .int .i64 c, .int .i64 l] 32))
 rcases hp with rfl | rfl
 ·go_enter Tryz.func135, Tryz.ntmps135
  go_wp2
  go_ret
  exact ⟨rfl, BB.out⟩
 ·have he : 2 * P - P = P := by omega
  have HE := Lib.hid he
  clear he
  go_enter Tryz.func135, Tryz.ntmps135
  go_wp2
  go_ret
  refine ⟨?_, BB.out⟩
  show Ending.returned (.slice (some ⟨g, o + P, none⟩) (2 * P - P) (pc1 - P)) = _
  rw [HE.out]
  rfl
theorem side_d (p s c l : Int) (st sk re fe ag : Bool) (p1 p2 : Option Addr) (pn1 pc1 pn2 pc2 : Nat) (pp : Int) (g o : Nat) (player : Int) (w : World) (hp1 : p1 = some ⟨g, o, none⟩) (hp : 2 ≤ p ∧ p ≤ 8) (h2 : (pn1 : Int) = 2 * p) (hc : pn1 ≤ pc1) (hpl : player = 0 ∨ player = 1) :
  Calls Tryz.prog 135 #[.agg #[.slice p1 pn1 pc1, .slice p2 pn2 pc2, .int .i64 pp], .agg #[.int .i64 p, .int .i64 s, .bool st, .bool sk, .bool re, .bool fe, .bool ag, .int .i64 c, .int .i64 l], .int .i64 player] w fun e w' => e = .returned (.slice (some ⟨g, offH o p.toNat player, none⟩) p.toNat (capH pc1 p.toNat player)) ∧ Below w.heap.size w w' := by
 obtain ⟨P, rfl⟩ : ∃ P : Nat, p = (P : Int) := ⟨p.toNat, by omega⟩
 rw [Int.toNat_natCast]
 subst hp1
 obtain rfl : pn1 = 2 * P := by omega
 exact side_d0 P s c l st sk re fe ag g o p2 pc1 pn2 pc2 pp player w (by omega) (by omega) hc hpl
theorem isSlam_any (p s c l : Int) (st sk re fe ag : Bool) (player : Int) (p1 p2 : Option Addr) (pn1 pc1 pn2 pc2 : Nat) (pp pq : Int) (xs ys L : List Int) (a : Option Addr) (cc n : Nat) (w : World) (h : PosR w p1 p2 pn1 pn2 xs ys) (hq : posB xs = true) (ht : tot xs ≤ 96) (hp : 2 ≤ p ∧ p ≤ 8) (hn1 : (pn1 : Int) = 2 * p) (hpl : player = 0 ∨ player = 1) (hL : ∀ k ∈ L, 0 ≤ k ∧ k < (pn1 : Int)) (hn : L.length = n) (hn16 : n ≤ 1000) (ha : RowN w a L) (hcap : pn1 ≤ pc1) :
    Calls Tryz.prog 164 #[.agg #[.int .i64 p, .int .i64 s, .bool st, .bool sk, .bool re, .bool fe, .bool ag, .int .i64 c, .int .i64 l, .int .i64 player, .slice p1 pn1 pc1, .slice p2 pn2 pc2, .int .i64 pp, .int .i64 pq], .slice a n cc] w fun e w' => e = .returned (.bool (slamB p player xs L)) ∧ Below w.heap.size w w' := by
  have HC := Lib.hid (cp_new p s c l st sk re fe ag player p1 p2 pn1 pc1 pn2 pc2 pp pq w 123)
  obtain ⟨⟨_, c0, c1, c2, c3, c4, c5, c6, c7, c8, c9, c10, c11, c12, c13⟩, -⟩ := HC.out
  have H0 := Lib.hid h
  have HA := Lib.hid ha
  have HP := Lib.hid hp
  have HPl0 := Lib.hid hpl
  have HPl : Hid (1 - player = 0 ∨ 1 - player = 1) := Lib.hid (by omega)
  have HQ := Lib.hid (And.intro hq ht)
  have Hn1 := Lib.hid hn1
  have Hcap := Lib.hid hcap
  have HL1 := Lib.hid h.l1
  have hlp : xs.length = 2 * p.toNat := by have := h.l1; omega
  have HLh := Lib.hid (half_len hlp HPl.out)
  have hht := half_tot hlp HPl.out hq
  have HH : Hid (posB (halfL xs p.toNat (1 - player)) = true ∧ tot (halfL xs p.toNat (1 - player)) ≤ 96) := Lib.hid ⟨hht.1, by omega⟩
  have hw1 : IntKind.i64.wrap (1 - player) = 1 - player := IntWalk.i64_in _ ⟨by omega, by omega⟩
  have HLn := Lib.hid (And.intro hL hn)
  have hnex : xs ≠ [] := by intro e; have := h.l1; subst e; simp at this; omega
  obtain ⟨gx, ox, hgx, -⟩ := h.r1.2.resolve_left hnex
  have HG := Lib.hid hgx
  have HRow : Hid (∀ u, Below w.heap.size w u → RowN u (some ⟨gx, offH ox p.toNat (1 - player), none⟩) (halfL xs p.toNat (1 - player))) := Lib.hid (fun u hu => row_half (by rw [← HG.out]; exact (H0.out.below hu).r1) hnex HPl.out)
  clear hnex hgx
  clear h ha hp hpl hq ht hn1 hcap hlp hht hL hn
  go_enter Tryz.func164, Tryz.ntmps164
  go_wp2_with fail
  generalize w.alloc (.cells #[.int .i64 p, .int .i64 s, .bool st, .bool sk, .bool re, .bool fe, .bool ag, .int .i64 c, .int .i64 l, .int .i64 player, .slice p1 pn1 pc1, .slice p2 pn2 pc2, .int .i64 pp, .int .i64 pq] 123) = w1 at *
  clear c0 c1 c2 c3 c4 c5 c6 c7 c8 c9 c10 c11 c12 c13
  go_loopw [5, 10] (fun s0 i wr => ∃ (k : Nat) (t : Int), k ≤ n ∧ i = .int .i64 k ∧ s0 = .int .i64 t ∧ t = takenF p player xs (L.take k) ∧ CpAt w p s c l st sk re fe ag player p1 p2 pn1 pc1 pn2 pc2 pp pq wr) (fun _ i _ => n - (intOf i).toNat)
  case atStart => exact ⟨0, 0, Nat.zero_le _, rfl, rfl, rfl, HC.out⟩
  case round =>
    obtain ⟨k, t, hk, rfl, rfl, ht', hC⟩ := hrel
    have hb := taken_bd HQ.out.1 HQ.out.2 p player (L.take k)
    rw [← ht', List.length_take] at hb
    obtain ⟨b0, b1⟩ := hb
    have b2 : t ≤ 96 * 1000 := by omega
    have Ht := Lib.hid ht'
    have HC := Lib.hid hC
    obtain ⟨⟨_, c0, c1, c2, c3, c4, c5, c6, c7, c8, c9, c10, c11, c12, c13⟩, -⟩ := hC
    clear ht' b1
    by_cases hlt : k < n
    · obtain ⟨q, hq⟩ : ∃ q, L[k]? = some q := ⟨L[k]'(by rw [HLn.out.2]; exact hlt), List.getElem?_eq_getElem _⟩
      obtain ⟨q0, q1⟩ := HLn.out.1 q (List.mem_of_getElem? hq)
      obtain ⟨Q, rfl⟩ : ∃ Q : Nat, q = (Q : Int) := ⟨q.toNat, by omega⟩
      have hne : L ≠ [] := by intro e; subst e; cases hq
      obtain ⟨ga, oa, rfl, hga, hca⟩ := (HA.out.below HC.out.be).2.resolve_left hne
      have ya := hca k _ hq
      have HV := vAt_bd HQ.out.1 HQ.out.2 (Q : Int)
      obtain ⟨v1, v2⟩ := HV
      have HR : Hid (∀ x ∈ [(Q : Int)], 0 ≤ x ∧ x < (pn1 : Int)) := Lib.hid (fun x hx => by
        rcases List.mem_cons.1 hx with rfl | hx
        · omega
        · cases hx)
      have hs1 := sumAt_one xs (Q : Int)
      have hst := taken_snoc p player xs (L.take k) (Q : Int)
      rw [← take_next hq, ← Ht.out] at hst
      have k0 : (0 : Int) ≤ (k : Int) := by omega
      have k1 : (k : Int) < (n : Int) := by omega
      clear hca hq hne
      generalize vAt xs (Q : Int) = v at *
      have Hs1 := Lib.hid hs1
      rcases hb : ownB p (1 - player) (Q : Int) with _ | _
      · rw [hb] at hst
        have Hst := Lib.hid hst
        have Hb := Lib.hid hb
        clear hst hb hs1
        go_wp2_with (first | (go_at_call 179; refine (isOther_any p s c l st sk re fe ag player p1 p2 pn1 pc1 pn2 pc2 pp pq (Q : Int) _ HP.out HPl0.out).mono ?_; rintro e w5 ⟨rfl, hb5⟩; rw [Hb.out]; have HC := Lib.hid (HC.out.below hb5); clear hb5; obtain ⟨⟨_, c0, c1, c2, c3, c4, c5, c6, c7, c8, c9, c10, c11, c12, c13⟩, -⟩ := HC.out) | (go_at_call 180; refine (seedsIn_any p s c l st sk re fe ag player p1 p2 pn1 pc1 pn2 pc2 pp pq xs ys [(Q : Int)] _ 1 1 _ ((H0.out.below HC.out.be).alloc _) HQ.out.1 HQ.out.2 HR.out rfl (by omega) (row_1 _ _ _)).mono ?_; rintro e w6 ⟨rfl, hb6⟩; rw [Hs1.out]; have HC := Lib.hid ((HC.out.alloc _).below hb6); clear hb6; obtain ⟨⟨_, c0, c1, c2, c3, c4, c5, c6, c7, c8, c9, c10, c11, c12, c13⟩, -⟩ := HC.out))
        go_roundw
        case rel => exact ⟨k + 1, t, by omega, by go_num, rfl, by rw [Hst.out]; simp, HC.out⟩
        case measure => simp [intOf]; omega
      · rw [hb, if_pos rfl] at hst
        have Hst := Lib.hid hst
        have Hb := Lib.hid hb
        clear hst hb hs1
        go_wp2_with (first | (go_at_call 179; refine (isOther_any p s c l st sk re fe ag player p1 p2 pn1 pc1 pn2 pc2 pp pq (Q : Int) _ HP.out HPl0.out).mono ?_; rintro e w5 ⟨rfl, hb5⟩; rw [Hb.out]; have HC := Lib.hid (HC.out.below hb5); clear hb5; obtain ⟨⟨_, c0, c1, c2, c3, c4, c5, c6, c7, c8, c9, c10, c11, c12, c13⟩, -⟩ := HC.out) | (go_at_call 180; refine (seedsIn_any p s c l st sk re fe ag player p1 p2 pn1 pc1 pn2 pc2 pp pq xs ys [(Q : Int)] _ 1 1 _ ((H0.out.below HC.out.be).alloc _) HQ.out.1 HQ.out.2 HR.out rfl (by omega) (row_1 _ _ _)).mono ?_; rintro e w6 ⟨rfl, hb6⟩; rw [Hs1.out]; have HC := Lib.hid ((HC.out.alloc _).below hb6); clear hb6; obtain ⟨⟨_, c0, c1, c2, c3, c4, c5, c6, c7, c8, c9, c10, c11, c12, c13⟩, -⟩ := HC.out))
        go_roundw
        case rel => exact ⟨k + 1, t + v, by omega, by go_num, by go_num, by rw [Hst.out], HC.out⟩
        case measure => simp [intOf]; omega
    · obtain rfl : k = n := by omega
      have e1 : L.take k = L := List.take_of_length_le (by rw [HLn.out.2]; exact Nat.le_refl _)
      have e2 : slamB p player xs L = (decide (0 < t) && decide (t = tot (halfL xs p.toNat (1 - player)))) := by unfold slamB; rw [Ht.out, e1]
      clear e1
      generalize halfL xs p.toNat (1 - player) = hs at *
      by_cases h0 : 0 < t
      · have d0 : decide (0 < t) = true := by simpa using h0
        generalize hT : tot hs = T at *
        have HT := Lib.hid hT
        by_cases h1 : t = T
        · have d1 : (t == T) = true := by simpa using h1
          have e3 : (decide (0 < t) && decide (t = T)) = true := by rw [decide_eq_true h0, decide_eq_true h1]; rfl
          rw [e3] at e2
          have HE2 := Lib.hid e2
          clear h1 hT e2 e3
          go_wp2_with fail
          apply region_class (CpAt w p s c l st sk re fe ag player p1 p2 pn1 pc1 pn2 pc2 pp pq) (by kernel_rfl) (by kernel_rfl) (HC.out.drew)
          repeat (first
            | (apply step_skip (by rfl)
               simp only [Act.put, List.setIfInBounds_toArray, List.set_cons_zero, List.set_cons_succ])
            | (apply step_val (by rfl)
               · intro u hu
                 obtain ⟨⟨_, r0, r1, r2, r3, r4, r5, r6, r7, r8, r9, r10, r11, r12, r13⟩, _⟩ := hu
                 go_simp
                 try with_reducible rfl
               simp only [Act.put, List.setIfInBounds_toArray, List.set_cons_zero, List.set_cons_succ])
            | (apply step_call (by rfl)
               · intro u
                 go_simp
                 exact ⟨rfl, rfl⟩
               · intro u hu
                 (with_reducible refine (position_any p1 p2 pn1 pc1 pn2 pc2 pp pq player _).mono ?_); (rintro e u' ⟨rfl, hb5⟩; exact ⟨rfl, hu.below hb5⟩)
               simp only [Act.put, List.setIfInBounds_toArray, List.set_cons_zero, List.set_cons_succ])
            | (apply step_call (by rfl)
               · intro u
                 go_simp
                 exact ⟨rfl, rfl⟩
               · intro u hu
                 (with_reducible refine (side_d p s c l st sk re fe ag p1 p2 pn1 pc1 pn2 pc2 player gx ox (1 - player) _ HG.out HP.out Hn1.out Hcap.out HPl.out).mono ?_); (rintro e u' ⟨rfl, hb5⟩; exact ⟨rfl, hu.below hb5⟩)
               simp only [Act.put, List.setIfInBounds_toArray, List.set_cons_zero, List.set_cons_succ])
            | (apply step_call (by rfl)
               · intro u
                 go_simp
                 exact ⟨rfl, rfl⟩
               · intro u hu
                 (with_reducible refine (sumOf_any _ _ p.toNat hs _ HLh.out (HRow.out _ hu.be) HH.out.1 (by rw [HT.out]; exact HH.out.2)).mono ?_); (rintro e u' ⟨rfl, rfl⟩; rw [HT.out]; exact ⟨rfl, hu⟩)
               simp only [Act.put, List.setIfInBounds_toArray, List.set_cons_zero, List.set_cons_succ]))
          apply step_nil
          intro w5 hs5
          have HS5 := Lib.hid hs5
          clear hs5
          go_wp2_with fail
          go_ret
          exact ⟨by rw [HE2.out]; rfl, HS5.out.be⟩
        · have d1 : (t == T) = false := by simpa using h1
          have e3 : (decide (0 < t) && decide (t = T)) = false := by rw [decide_eq_false h1]; simp
          rw [e3] at e2
          have HE2 := Lib.hid e2
          clear h1 hT e2 e3
          go_wp2_with fail
          apply region_class (CpAt w p s c l st sk re fe ag player p1 p2 pn1 pc1 pn2 pc2 pp pq) (by kernel_rfl) (by kernel_rfl) (HC.out.drew)
          repeat (first
            | (apply step_skip (by rfl)
               simp only [Act.put, List.setIfInBounds_toArray, List.set_cons_zero, List.set_cons_succ])
            | (apply step_val (by rfl)
               · intro u hu
                 obtain ⟨⟨_, r0, r1, r2, r3, r4, r5, r6, r7, r8, r9, r10, r11, r12, r13⟩, _⟩ := hu
                 go_simp
                 try with_reducible rfl
               simp only [Act.put, List.setIfInBounds_toArray, List.set_cons_zero, List.set_cons_succ])
            | (apply step_call (by rfl)
               · intro u
                 go_simp
                 exact ⟨rfl, rfl⟩
               · intro u hu
                 (with_reducible refine (position_any p1 p2 pn1 pc1 pn2 pc2 pp pq player _).mono ?_); (rintro e u' ⟨rfl, hb5⟩; exact ⟨rfl, hu.below hb5⟩)
               simp only [Act.put, List.setIfInBounds_toArray, List.set_cons_zero, List.set_cons_succ])
            | (apply step_call (by rfl)
               · intro u
                 go_simp
                 exact ⟨rfl, rfl⟩
               · intro u hu
                 (with_reducible refine (side_d p s c l st sk re fe ag p1 p2 pn1 pc1 pn2 pc2 player gx ox (1 - player) _ HG.out HP.out Hn1.out Hcap.out HPl.out).mono ?_); (rintro e u' ⟨rfl, hb5⟩; exact ⟨rfl, hu.below hb5⟩)
               simp only [Act.put, List.setIfInBounds_toArray, List.set_cons_zero, List.set_cons_succ])
            | (apply step_call (by rfl)
               · intro u
                 go_simp
                 exact ⟨rfl, rfl⟩
               · intro u hu
                 (with_reducible refine (sumOf_any _ _ p.toNat hs _ HLh.out (HRow.out _ hu.be) HH.out.1 (by rw [HT.out]; exact HH.out.2)).mono ?_); (rintro e u' ⟨rfl, rfl⟩; rw [HT.out]; exact ⟨rfl, hu⟩)
               simp only [Act.put, List.setIfInBounds_toArray, List.set_cons_zero, List.set_cons_succ]))
          apply step_nil
          intro w5 hs5
          have HS5 := Lib.hid hs5
          clear hs5
          go_wp2_with fail
          go_ret
          exact ⟨by rw [HE2.out]; rfl, HS5.out.be⟩
      · have d0 : decide (0 < t) = false := by simpa using h0
        have e3 : (decide (0 < t) && decide (t = tot hs)) = false := by rw [decide_eq_false h0]; rfl
        rw [e3] at e2
        have HE2 := Lib.hid e2
        clear e2 e3
        go_wp2_with fail
        apply region_class (CpAt w p s c l st sk re fe ag player p1 p2 pn1 pc1 pn2 pc2 pp pq) (by kernel_rfl) (by kernel_rfl) (HC.out.drew)
        repeat (first
          | (apply step_skip (by rfl)
             simp only [Act.put, List.setIfInBounds_toArray, List.set_cons_zero, List.set_cons_succ])
          | (apply step_val (by rfl)
             · intro u hu
               obtain ⟨⟨_, r0, r1, r2, r3, r4, r5, r6, r7, r8, r9, r10, r11, r12, r13⟩, _⟩ := hu
               go_simp
               try with_reducible rfl
             simp only [Act.put, List.setIfInBounds_toArray, List.set_cons_zero, List.set_cons_succ]))
        apply step_nil
        intro w5 hs5
        have HS5 := Lib.hid hs5
        clear hs5
        go_wp2_with fail
        go_ret
        exact ⟨by rw [HE2.out]; rfl, HS5.out.be⟩
/- Cap11 -/
structure Good (p s c l : Int) (st sk re fe ag : Bool) (player : Int) (pn1 pn2 : Nat) (pp : Int) (xs ys : List Int) : Prop where
 ok : okR p s c l st ag = true
 p2 : 2 ≤ p ∧ p ≤ 8
 c3 : 0 ≤ c ∧ c ≤ 3
 n1 : (pn1 : Int) = 2 * p
 n2 : pn2 = 2
 pl : player = 0 ∨ player = 1
 q1 : posB xs = true
 q2 : posB ys = true
 q3 : tot xs + tot ys ≤ 96
 l1 : -1 ≤ pp
 l2 : pp < 2 * p
theorem Good.t1 {p s c l player : Int} {st sk re fe ag : Bool} {pn1 pn2 : Nat} {pp : Int} {xs ys : List Int} (h : Good p s c l st sk re fe ag player pn1 pn2 pp xs ys) : tot xs ≤ 96 := by
 have := posB_tot h.q2
 have := h.q3
 omega
theorem Good.raw {p s c l player : Int} {st sk re fe ag : Bool} {pn1 pn2 : Nat} {pp : Int} {xs ys : List Int} (h : Good p s c l st sk re fe ag player pn1 pn2 pp xs ys) (cp : Int) : ∀ k ∈ rawF cp p player pp xs, 0 ≤ k ∧ k < (pn1 : Int) := fun k hk => by
 have := raw_in h.l2 k hk
 have := h.n1
 omega
theorem own_out {p pl k : Int} (hp : 2 ≤ p) (hpl : pl = 0 ∨ pl = 1) (hk : k < 0) : ownB p pl k = false := by
 unfold ownB
 rcases hpl with rfl | rfl <;> simp <;> omega
theorem rawI_any (p s c l : Int) (st sk re fe ag : Bool) (player : Int) (p1 p2 : Option Addr) (pn1 pc1 pn2 pc2 : Nat) (pp pq : Int) (xs ys : List Int) (w : World) (h : PosR w p1 p2 pn1 pn2 xs ys) (g : Good p s c l st sk re fe ag player pn1 pn2 pp xs ys) :
  Calls Tryz.prog 165 #[.agg #[.int .i64 p, .int .i64 s, .bool st, .bool sk, .bool re, .bool fe, .bool ag, .int .i64 c, .int .i64 l, .int .i64 player, .slice p1 pn1 pc1, .slice p2 pn2 pc2, .int .i64 pp, .int .i64 pq]] w (OwnP (rawF c p player pp xs) (rawF c p player pp xs).length w) := by
 have hc := g.c3
 have hp2 := g.p2.1
 have hl1 := g.l1
 rcases (show c = 0 ∨ c = 1 ∨ c = 2 ∨ c = 3 by omega) with e | e | e | e
 ·refine raw_any0 p s c l st sk re fe ag player _ _ _ _ _ _ _ _ w e _ (fun u hu => ?_)
  have er : rawF c p player pp xs = [] := by
   unfold rawF
   by_cases hlt : pp < 0
   ·rw [if_pos hlt]
   ·rw [if_neg hlt, if_neg (by omega), if_neg (by omega), if_neg (by omega)]
  rw [er]
  exact none_any p s c l st sk re fe ag player _ _ _ _ _ _ _ _ u
 ·refine raw_any1 p s c l st sk re fe ag player _ _ _ _ _ _ _ _ w e _ (fun u hu => ?_)
  have er : rawF c p player pp xs = twF p player xs (pp + 1).toNat := by
   unfold rawF
   by_cases hlt : pp < 0
   ·rw [if_pos hlt, show (pp + 1).toNat = 0 by omega]; rfl
   ·rw [if_neg hlt, if_pos e, show (pp + 1).toNat = pp.toNat + 1 by omega]
  rw [er]
  exact twoThree_any p s c l st sk re fe ag player _ _ _ _ _ _ _ _ xs ys _ u (h.below hu) g.q1 g.t1 g.p2 g.n1 g.pl (by omega) (by have := g.l2; omega)
 ·refine raw_any2 p s c l st sk re fe ag player _ _ _ _ _ _ _ _ w e _ (fun u hu => ?_)
  refine cross_any p s c l st sk re fe ag player _ _ _ _ _ _ _ _ xs ys u (h.below hu) g.q1 g.t1 g.ok g.n1 g.pl g.l1 g.l2 _ ?_
  unfold rawF
  by_cases hlt : pp < 0
  ·rw [if_pos hlt, own_out hp2 g.pl hlt]; rfl
  ·rw [if_neg hlt, if_neg (show ¬ c = 1 by omega), if_pos e]
 ·refine raw_any3 p s c l st sk re fe ag player _ _ _ _ _ _ _ _ w e _ (fun u hu => ?_)
  refine even_any p s c l st sk re fe ag player _ _ _ _ _ _ _ _ xs ys u (h.below hu) g.q1 g.t1 g.p2 g.n1 g.pl g.l1 g.l2 _ ?_
  unfold rawF
  by_cases hlt : pp < 0
  ·rw [if_pos hlt, own_out hp2 (by have := g.pl; omega) hlt]; rfl
  ·rw [if_neg hlt, if_neg (show ¬ c = 1 by omega), if_neg (show ¬ c = 2 by omega), if_pos e]
theorem spared_any (p s c l : Int) (st sk re fe ag : Bool) (player : Int) (p1 p2 : Option Addr) (pn1 pc1 pn2 pc2 : Nat) (pp pq : Int) (xs ys : List Int) (w : World) (h : PosR w p1 p2 pn1 pn2 xs ys) (g : Good p s c l st sk re fe ag player pn1 pn2 pp xs ys) (hcap : pn1 ≤ pc1) :
  Calls Tryz.prog 178 #[.agg #[.int .i64 p, .int .i64 s, .bool st, .bool sk, .bool re, .bool fe, .bool ag, .int .i64 c, .int .i64 l, .int .i64 player, .slice p1 pn1 pc1, .slice p2 pn2 pc2, .int .i64 pp, .int .i64 pq]] w fun e w' => e = .returned (.bool (decide (l = 2) && slamB p player xs (rawF c p player pp xs))) ∧ Below w.heap.size w w' := by
 have HC := Lib.hid (cp_new p s c l st sk re fe ag player p1 p2 pn1 pc1 pn2 pc2 pp pq w 123)
 obtain ⟨⟨_, c0, c1, c2, c3, c4, c5, c6, c7, c8, c9, c10, c11, c12, c13⟩, -⟩ := HC.out
 have H0 := Lib.hid h
 have G := Lib.hid g
 have Hcap := Lib.hid hcap
 have HLn : Hid ((rawF c p player pp xs).length ≤ 1000) := Lib.hid (by have := raw_len (cp := c) (pl := player) (xs := xs) g.p2.2 g.p2.1 g.l2; omega)
 have HRaw : Hid (∀ u, Below w.heap.size w u → Calls Tryz.prog 165 #[.agg #[.int .i64 p, .int .i64 s, .bool st, .bool sk, .bool re, .bool fe, .bool ag, .int .i64 c, .int .i64 l, .int .i64 player, .slice p1 pn1 pc1, .slice p2 pn2 pc2, .int .i64 pp, .int .i64 pq]] u (OwnP (rawF c p player pp xs) (rawF c p player pp xs).length u)) := Lib.hid (fun u hu => rawI_any p s c l st sk re fe ag player _ _ _ _ _ _ _ _ xs ys u (h.below hu) g)
 have HRin := Lib.hid (g.raw c)
 generalize rawF c p player pp xs = R at *
 clear h g hcap
 by_cases hl : l = 2
 ·have t1 : (l == 2) = true := by simpa using hl
  rw [decide_eq_true hl, Bool.true_and]
  clear hl
  go_enter Tryz.func178, Tryz.ntmps178
  go_wp2_with fail
  go_region_held3 (fun u => (w.heap.size < u.heap.size ∧ u.cell? ⟨w.heap.size, 0, none⟩ = some (.int .i64 p) ∧ u.cell? ⟨w.heap.size, 1, none⟩ = some (.int .i64 s) ∧ u.cell? ⟨w.heap.size, 2, none⟩ = some (.bool st) ∧ u.cell? ⟨w.heap.size, 3, none⟩ = some (.bool sk) ∧ u.cell? ⟨w.heap.size, 4, none⟩ = some (.bool re) ∧ u.cell? ⟨w.heap.size, 5, none⟩ = some (.bool fe) ∧ u.cell? ⟨w.heap.size, 6, none⟩ = some (.bool ag) ∧ u.cell? ⟨w.heap.size, 7, none⟩ = some (.int .i64 c) ∧ u.cell? ⟨w.heap.size, 8, none⟩ = some (.int .i64 l) ∧ u.cell? ⟨w.heap.size, 9, none⟩ = some (.int .i64 player) ∧ u.cell? ⟨w.heap.size, 10, none⟩ = some (.slice p1 pn1 pc1) ∧ u.cell? ⟨w.heap.size, 11, none⟩ = some (.slice p2 pn2 pc2) ∧ u.cell? ⟨w.heap.size, 12, none⟩ = some (.int .i64 pp) ∧ u.cell? ⟨w.heap.size, 13, none⟩ = some (.int .i64 pq)) ∧ Below w.heap.size w u) (first | exact HC.out | exact HC.out.drew)
   (first
   | (go_at_call 165; refine (HRaw.out _ (by first | exact HC.out.be | exact HC.out.drew.be)).mono ?_; rintro e w5 ⟨v5, rfl, hown, hb5⟩; obtain ⟨a5, cc5, rfl, hr5⟩ := own_slice hown rfl HLn.out; have HR5 := Lib.hid hr5; have HC := Lib.hid (by first | exact HC.out.below hb5 | exact HC.out.drew.below hb5 : CpAt w p s c l st sk re fe ag player p1 p2 pn1 pc1 pn2 pc2 pp pq w5); clear hown hr5 hb5)
   | (go_at_call 164; refine (isSlam_any p s c l st sk re fe ag player p1 p2 pn1 pc1 pn2 pc2 pp pq xs ys _ a5 cc5 _ _ (H0.out.below (by first | exact HC.out.be | exact HC.out.drew.be)) G.out.q1 G.out.t1 G.out.p2 G.out.n1 G.out.pl HRin.out rfl HLn.out (by first | exact HR5.out | exact HR5.out.drewN 1) Hcap.out).mono ?_; rintro e w6 ⟨rfl, hb6⟩; have HC := Lib.hid (by first | exact HC.out.below hb6 | exact HC.out.drew.below hb6 : CpAt w p s c l st sk re fe ag player p1 p2 pn1 pc1 pn2 pc2 pp pq w6); clear hb6))
  go_wp2_with fail
  go_ret
  exact ⟨rfl, HC.out.be⟩
 ·have t1 : (l == 2) = false := by simpa using hl
  rw [decide_eq_false hl, Bool.false_and]
  clear hl
  go_enter Tryz.func178, Tryz.ntmps178
  go_wp2_with fail
  go_quiet (fail)
  go_wp2_with fail
  go_ret
  exact ⟨rfl, by first | exact HC.out.be | exact (show Below w.heap.size w _ from HC.out.be.trans ((Below.refl _ _).mono HC.out.be.size)) | exact HC.out.drew.be | exact below_dn HC.out.be _⟩
theorem pits_any (p s c l : Int) (st sk re fe ag : Bool) (player : Int) (p1 p2 : Option Addr) (pn1 pc1 pn2 pc2 : Nat) (pp pq : Int) (xs ys : List Int) (w : World) (h : PosR w p1 p2 pn1 pn2 xs ys) (g : Good p s c l st sk re fe ag player pn1 pn2 pp xs ys) (hcap : pn1 ≤ pc1) :
  Calls Tryz.prog 163 #[.agg #[.int .i64 p, .int .i64 s, .bool st, .bool sk, .bool re, .bool fe, .bool ag, .int .i64 c, .int .i64 l, .int .i64 player, .slice p1 pn1 pc1, .slice p2 pn2 pc2, .int .i64 pp, .int .i64 pq]] w (OwnP (pitsF c l p player pp xs) (pitsF c l p player pp xs).length w) := by
 have HC := Lib.hid (cp_new p s c l st sk re fe ag player p1 p2 pn1 pc1 pn2 pc2 pp pq w 123)
 obtain ⟨⟨_, c0, c1, c2, c3, c4, c5, c6, c7, c8, c9, c10, c11, c12, c13⟩, -⟩ := HC.out
 have hpf : pitsF c l p player pp xs = if decide (l = 2) && slamB p player xs (rawF c p player pp xs) then [] else rawF c p player pp xs := rfl
 have HRaw : Hid (∀ u, Below w.heap.size w u → Calls Tryz.prog 165 #[.agg #[.int .i64 p, .int .i64 s, .bool st, .bool sk, .bool re, .bool fe, .bool ag, .int .i64 c, .int .i64 l, .int .i64 player, .slice p1 pn1 pc1, .slice p2 pn2 pc2, .int .i64 pp, .int .i64 pq]] u (OwnP (rawF c p player pp xs) (rawF c p player pp xs).length u)) := Lib.hid (fun u hu => rawI_any p s c l st sk re fe ag player _ _ _ _ _ _ _ _ xs ys u (h.below hu) g)
 have HSp : Hid (∀ u, Below w.heap.size w u → Calls Tryz.prog 178 #[.agg #[.int .i64 p, .int .i64 s, .bool st, .bool sk, .bool re, .bool fe, .bool ag, .int .i64 c, .int .i64 l, .int .i64 player, .slice p1 pn1 pc1, .slice p2 pn2 pc2, .int .i64 pp, .int .i64 pq]] u fun e w' => e = .returned (.bool (decide (l = 2) && slamB p player xs (rawF c p player pp xs))) ∧ Below u.heap.size u w') := Lib.hid (fun u hu => spared_any p s c l st sk re fe ag player p1 p2 pn1 pc1 pn2 pc2 pp pq xs ys u (h.below hu) g hcap)
 generalize pitsF c l p player pp xs = PF at *
 generalize rawF c p player pp xs = R at *
 generalize (decide (l = 2) && slamB p player xs R) = sb at *
 clear h g hcap
 cases sb
 ·have e : PF = R := by rw [hpf]; simp
  subst e
  clear hpf
  go_enter Tryz.func163, Tryz.ntmps163
  go_wp2_with (first | (go_at_call 178; refine (HSp.out _ HC.out.be).mono ?_; rintro e w4 ⟨rfl, hb4⟩; have HC := Lib.hid (HC.out.below hb4); clear hb4; obtain ⟨⟨_, c0, c1, c2, c3, c4, c5, c6, c7, c8, c9, c10, c11, c12, c13⟩, -⟩ := HC.out) | (go_at_call 165; refine (HRaw.out _ HC.out.be).mono ?_; rintro e w5 ⟨v5, rfl, hown, hb5⟩; have HO := Lib.hid (own_lower hown (by have h1 := HC.out.be.size; exact h1)); have HC := Lib.hid (HC.out.below hb5); clear hown hb5))
  go_ret
  exact ⟨_, rfl, HO.out, HC.out.be⟩
 ·have e : PF = [] := by rw [hpf]; rfl
  subst e
  clear hpf
  go_enter Tryz.func163, Tryz.ntmps163
  go_wp2_with (go_at_call 178; refine (HSp.out _ HC.out.be).mono ?_; rintro e w4 ⟨rfl, hb4⟩; have HC := Lib.hid (HC.out.below hb4); clear hb4; obtain ⟨⟨_, c0, c1, c2, c3, c4, c5, c6, c7, c8, c9, c10, c11, c12, c13⟩, -⟩ := HC.out)
  go_ret
  exact ⟨_, rfl, World.ownsRow_nil _ _ _ _, HC.out.be⟩
/- RefC -/
section
variable {w u v : World} {b d : Nat} {p s c l : Int} {st sk re fe ag : Bool} {p1 p2 : Option Addr} {pn1 pc1 pn2 pc2 : Nat} {pp pq : Int}
theorem L6N.below (h : L6N w b d p s c l st sk re fe ag p1 p2 pn1 pc1 pn2 pc2 pp pq u) (k : Below u.heap.size u v) : L6N w b d p s c l st sk re fe ag p1 p2 pn1 pc1 pn2 pc2 pp pq v := ⟨h.1.below k, h.2.1.below k, h.2.2.trans (k.mono h.2.2.size)⟩
theorem L6N.be (h : L6N w b d p s c l st sk re fe ag p1 p2 pn1 pc1 pn2 pc2 pp pq u) : Below w.heap.size w u := h.2.2
end
theorem L6N.grown {w u v : World} {b d : Nat} {p s c l : Int} {st sk re fe ag : Bool} {p1 p2 : Option Addr} {pn1 pc1 pn2 pc2 : Nat} {pp pq : Int} {row : Option Nat} (h : L6N w b d p s c l st sk re fe ag p1 p2 pn1 pc1 pn2 pc2 pp pq u) (hg : u.grownBy v row) (hb : b < w.heap.size) (hd : d < w.heap.size) (hr : ∀ k, row = some k → w.heap.size ≤ k) : L6N w b d p s c l st sk re fe ag p1 p2 pn1 pc1 pn2 pc2 pp pq v := by
 obtain ⟨⟨hb1, h1⟩, ⟨hd1, h2⟩, hw⟩ := h
 have e1 : ∀ o, v.cell? ⟨b, o, none⟩ = u.cell? ⟨b, o, none⟩ := fun o => World.cell?_of_block (a := ⟨b, o, none⟩) (hg.block b hb1 (fun e => by have := hr _ e.symm; omega))
 have e2 : ∀ o, v.cell? ⟨d, o, none⟩ = u.cell? ⟨d, o, none⟩ := fun o => World.cell?_of_block (a := ⟨d, o, none⟩) (hg.block d hd1 (fun e => by have := hr _ e.symm; omega))
 exact ⟨⟨Nat.lt_of_lt_of_le hb1 hg.size, by rw [e1, e1, e1, e1, e1, e1, e1, e1, e1]; exact h1⟩, ⟨Nat.lt_of_lt_of_le hd1 hg.size, by rw [e2, e2, e2, e2]; exact h2⟩, hw.grown hg hw.size hr⟩
theorem own_eq {p pl k : Int} (hp : 2 ≤ p) (h0 : 0 ≤ k) (h1 : k < 2 * p) (hpl : pl = 0 ∨ pl = 1) : (k / p == pl) = ownB p pl k := by
 have h := own_div hp h0 h1 hpl
 cases e : ownB p pl k
 ·rw [e] at h
  simpa using h
 ·rw [e] at h
  simpa using h
theorem own_ne {p pl k : Int} (hp : 2 ≤ p) (h0 : 0 ≤ k) (h1 : k < 2 * p) (hpl : pl = 0 ∨ pl = 1) : (k / p != pl) = ownB p (1 - pl) k := by
 rw [own_other hp h0 h1 hpl, ← own_eq hp h0 h1 hpl]
 rfl
theorem in_23 (v : Int) : (decide (2 ≤ v) && decide (v ≤ 3)) = (decide (v = 2) || decide (v = 3)) := by
 by_cases h2 : v = 2
 ·subst h2; rfl
 ·by_cases h3 : v = 3
  ·subst h3; rfl
  ·rw [decide_eq_false h2, decide_eq_false h3]
   by_cases h : 2 ≤ v
   ·have : decide (v ≤ 3) = false := by simp; omega
    rw [this]; simp
   ·rw [decide_eq_false h]; rfl
theorem l06Sum_still (p1 p2 : Option Addr) (pn1 pc1 pn2 pc2 : Nat) (pp pq : Int) (xs ys L : List Int) (d : Nat) (a : Option Addr) (cc n : Nat) (w : World) (hs : SoAt w d p1 p2 pn1 pc1 pn2 pc2 pp pq) (h : PosR w p1 p2 pn1 pn2 xs ys) (hp : posB xs = true) (ht : tot xs ≤ 96) (hL : ∀ k ∈ L, 0 ≤ k ∧ k < (pn1 : Int)) (hn : L.length = n) (hn16 : n ≤ 1000) (ha : RowN w a L) :
  Calls Tryz.prog 159 #[.pointer (some ⟨d, 0, none⟩), .slice a n cc] w (Still (.int .i64 (sumAt xs L)) w) := by
 obtain ⟨_, s0, s1, s2, s3⟩ := hs
 have H := Lib.hid h
 have HA := Lib.hid ha
 clear h ha
 go_enter Tryz.func159, Tryz.ntmps159
 go_wp2
 go_loopw [5, 6] (fun s0 i wr => ∃ (k m : Nat) (t : Int), k ≤ n ∧ i = .int .i64 k ∧ s0 = .int .i64 t ∧ wr = w.drewN m ∧ t = sumAt xs (L.take k)) (fun _ i _ => n - (intOf i).toNat)
 case atStart => exact ⟨0, 0, 0, Nat.zero_le _, rfl, rfl, rfl, rfl⟩
 case round =>
  obtain ⟨k, m, t, hk, rfl, rfl, rfl, ht'⟩ := hrel
  have hb := sumAt_bd hp ht (L.take k)
  rw [← ht', List.length_take] at hb
  obtain ⟨b0, b1⟩ := hb
  have b2 : t ≤ 96 * 1000 := by omega
  have Ht := Lib.hid ht'
  clear ht' b1
  by_cases hlt : k < n
  ·obtain ⟨q, hq⟩ : ∃ q, L[k]? = some q := ⟨L[k]'(by rw [hn]; exact hlt), List.getElem?_eq_getElem _⟩
   obtain ⟨q0, q1⟩ := hL q (List.mem_of_getElem? hq)
   obtain ⟨Q, rfl⟩ : ∃ Q : Nat, q = (Q : Int) := ⟨q.toNat, by omega⟩
   have hne : L ≠ [] := by intro e; subst e; cases hq
   obtain ⟨ga, oa, rfl, hga, hca⟩ := HA.out.2.resolve_left hne
   have ya := hca k _ hq
   obtain ⟨g, o, rfl, hg, y⟩ := rowV (k := Q) H.out.r1 (by have := H.out.l1; omega)
   obtain ⟨v1, v2⟩ := vAt_bd hp ht (Q : Int)
   have Hq := Lib.hid hq
   have k0 : (0 : Int) ≤ (k : Int) := by omega
   have k1 : (k : Int) < (n : Int) := by omega
   have hs : sumAt xs (L.take (k + 1)) = t + vAt xs (Q : Int) := by rw [take_next Hq.out, sumAt_snoc, ← Ht.out]
   have Hs := Lib.hid hs
   clear hca hq hne hs hL hn hp ht
   generalize vAt xs (Q : Int) = v at *
   go_wp2
   go_region
   go_wp2
   go_roundw
   case rel => exact ⟨k + 1, _, t + v, by omega, by go_num, by go_num, rfl, by rw [Hs.out]⟩
   case measure => simp [intOf]; omega
  ·obtain rfl : k = n := by omega
   have e1 : L.take k = L := List.take_of_length_le (by rw [hn]; exact Nat.le_refl _)
   have e2 : t = sumAt xs L := by rw [Ht.out, e1]
   have E2 := Lib.hid e2
   clear e1 e2 hn hL
   go_wp2
   go_ret
   exact ⟨by rw [E2.out]; rfl, _, rfl⟩
theorem l06Raw_0 (p s c l : Int) (st sk re fe ag : Bool) (player : Int) (p1 p2 : Option Addr) (pn1 pc1 pn2 pc2 : Nat) (pp pq : Int) (xs ys : List Int) (b d : Nat) (w : World) (hr : RuAt w b p s c l st sk re fe ag) (hs : SoAt w d p1 p2 pn1 pc1 pn2 pc2 pp pq) (g : Good p s c l st sk re fe ag player pn1 pn2 pp xs ys) (hc : pp < 0 ∨ c = 0) :
  Calls Tryz.prog 156 #[.pointer (some ⟨b, 0, none⟩), .pointer (some ⟨d, 0, none⟩), .int .i64 player] w (OwnP [] 0 w) := by
 have HX := Lib.hid (show L6N w b d p s c l st sk re fe ag p1 p2 pn1 pc1 pn2 pc2 pp pq w from ⟨hr, hs, Below.refl _ _⟩)
 obtain ⟨hb, r0, r1, r2, r3, r4, r5, r6, r7, r8⟩ := hr
 obtain ⟨hd, s0, s1, s2, s3⟩ := hs
 have g1 := g.p2.1
 have g2 := g.p2.2
 have g3 := g.l2
 by_cases t0 : pp < 0
 ·clear hc g
  go_enter Tryz.func156, Tryz.ntmps156
  go_wp2_with fail
  go_ret
  exact ⟨_, rfl, World.ownsRow_made w #[] 0 (Nat.le_refl _) (by decide) rfl, (HX.out.below (al1 _ _)).be⟩
 ·have e : c = 0 := by omega
  have e1 : (c == 1) = false := by simp [e]
  have e2 : (c == 2) = false := by simp [e]
  have e3 : (c == 3) = false := by simp [e]
  clear hc g e
  go_enter Tryz.func156, Tryz.ntmps156
  go_wp2_with (go_at_call 157; refine (owner_any p _ _ _ (by go_simp) (by omega) (by omega) (by omega) (by omega)).mono ?_; rintro e w' ⟨rfl, rfl⟩)
  go_ret
  exact ⟨_, rfl, World.ownsRow_made w #[] 0 (Nat.le_refl _) (by decide) rfl, (HX.out.below (al1 _ _)).be⟩
theorem l06Raw_1 (p s c l : Int) (st sk re fe ag : Bool) (player : Int) (p1 p2 : Option Addr) (pn1 pc1 pn2 pc2 : Nat) (pp pq : Int) (xs ys : List Int) (N : Nat) (b d : Nat) (w : World) (hr : RuAt w b p s c l st sk re fe ag) (hs : SoAt w d p1 p2 pn1 pc1 pn2 pc2 pp pq) (h : PosR w p1 p2 pn1 pn2 xs ys) (g : Good p s c l st sk re fe ag player pn1 pn2 pp xs ys) (h0 : 0 ≤ pp) (hN : pp = (N : Int) - 1) (e1 : (c == 1) = true) :
  Calls Tryz.prog 156 #[.pointer (some ⟨b, 0, none⟩), .pointer (some ⟨d, 0, none⟩), .int .i64 player] w (OwnP (twF p player xs N) (twF p player xs N).length w) := by
 obtain ⟨i0, hi, hz0, hz1, hz2⟩ := info_parts infoN
 have HX := Lib.hid (show L6N w b d p s c l st sk re fe ag p1 p2 pn1 pc1 pn2 pc2 pp pq w from ⟨hr, hs, Below.refl _ _⟩)
 have H0 := Lib.hid h
 have G := Lib.hid g
 have HN := Lib.hid hN
 obtain ⟨hb, r0, r1, r2, r3, r4, r5, r6, r7, r8⟩ := hr
 obtain ⟨hd, s0, s1, s2, s3⟩ := hs
 have g1 := g.p2.1
 have g2 := g.p2.2
 have g3 := g.l2
 have t0 : ¬ pp < 0 := by omega
 clear g h hN
 go_enter Tryz.func156, Tryz.ntmps156
 go_wp2_with (go_at_call 157; refine (owner_any p _ _ _ (by go_simp) (by omega) (by omega) (by omega) (by omega)).mono ?_; rintro e w' ⟨rfl, rfl⟩)
 have HX := Lib.hid (HX.out.below (al1 w (.cells #[] 2)))
 have hown0 := World.ownsRow_made (e := 2) (size := 1) w #[] 0 (Nat.le_refl _) (by decide) rfl
 generalize w.alloc (.cells #[] 2) = w1 at *
 clear r0 r1 r2 r3 r4 r5 r6 r7 r8 s0 s1 s2 s3 t0 h0
 go_loopw [7, 8] (fun s0 i wr => ∃ (k m : Nat) (acc : List Int) (z : Int), i = .int .i64 z ∧ z = (k : Int) - 1 ∧ m + k ≤ 16 ∧ wr.ownsRow w.heap.size 2 1 s0 m (nvs acc) ∧ acc.length = m ∧ acc ++ twF p player xs k = twF p player xs N ∧ k ≤ N ∧ L6N w b d p s c l st sk re fe ag p1 p2 pn1 pc1 pn2 pc2 pp pq wr) (fun _ i _ => (intOf i + 1).toNat)
 case atStart => exact ⟨N, 0, [], pp, rfl, HN.out, by have := HN.out; omega, hown0, rfl, rfl, Nat.le_refl _, HX.out⟩
 case round =>
  obtain ⟨k, m, acc, z, rfl, hz, hmk, hown, hlen, hacc, hkN, hC⟩ := hrel
  have HX := Lib.hid hC
  have HO := Lib.hid hown
  have HA := Lib.hid (And.intro hlen hacc)
  obtain ⟨⟨hbl, r0, r1, r2, r3, r4, r5, r6, r7, r8⟩, ⟨hdl, s0, s1, s2, s3⟩, -⟩ := hC
  have Hz := Lib.hid hz
  clear hown hlen hacc hown0
  rcases k with _ | k
  ·have t1 : ¬ 0 ≤ z := by omega
   clear hz
   go_wp2_with (go_at_call 157; refine (owner_any p _ _ _ (by go_simp) (by omega) (by omega) (by omega) (by omega)).mono ?_; rintro e w' ⟨rfl, rfl⟩)
   go_ret
   have e := HA.out.2
   simp only [twF, List.append_nil] at e
   rw [← e, HA.out.1]
   exact ⟨_, rfl, HO.out, HX.out.be⟩
  ·obtain rfl : z = (k : Int) := by omega
   have hkp : (k : Int) < 2 * p := by have := HN.out; omega
   have k0 : (0 : Int) ≤ (k : Int) := by omega
   obtain ⟨gx, ox, rfl, hg, y⟩ := rowV (k := k) (H0.out.below HX.out.be).r1 (by have := G.out.n1; have := H0.out.l1; omega)
   have q1 : (k : Int) < (pn1 : Int) := by have := G.out.n1; omega
   have hne := own_ne (p := p) (pl := player) g1 k0 hkp G.out.pl
   clear hz Hz
   rcases hb : ownB p (1 - player) (k : Int) with _ | _
   ·have e := HA.out.2
    rw [tw_no (by rw [hb]; rfl), List.append_nil] at e
    have He := Lib.hid e
    rw [hb] at hne
    clear hb e
    go_wp2_with (go_at_call 157; refine (owner_any p _ _ _ (by go_simp) (by omega) (by omega) (by omega) (by omega)).mono ?_; rintro e w' ⟨rfl, rfl⟩)
    go_ret
    rw [← He.out, HA.out.1]
    exact ⟨_, rfl, HO.out, HX.out.be⟩
   ·rw [hb] at hne
    have hin := in_23 (vAt xs (k : Int))
    rcases hv : (decide (vAt xs (k : Int) = 2) || decide (vAt xs (k : Int) = 3)) with _ | _
    ·have e := HA.out.2
     rw [tw_no (by rw [hb, hv]; rfl), List.append_nil] at e
     have He := Lib.hid e
     rw [hv] at hin
     have HI := Lib.hid hin
     generalize vAt xs (k : Int) = v at *
     clear hb e hv hin
     go_wp2_with (first | (go_at_call 157; refine (owner_any p _ _ _ (by go_simp) (by omega) (by omega) (by omega) (by omega)).mono ?_; rintro e w' ⟨rfl, rfl⟩) | (go_at_call 74; refine (in_b v 2 3 _ HI.out _).mono ?_; rintro e w' ⟨rfl, rfl⟩))
     go_ret
     rw [← He.out, HA.out.1]
     exact ⟨_, rfl, HO.out, HX.out.be⟩
    ·have e := HA.out.2
     rw [tw_yes (by rw [hb, hv]; rfl), show ∀ (a b : List Int) (x : Int), a ++ x :: b = (a ++ [x]) ++ b from fun a b x => by simp] at e
     have He := Lib.hid e
     rw [hv] at hin
     have HI := Lib.hid hin
     generalize vAt xs (k : Int) = v at *
     clear hb e hv hin
     go_wp2_with (first | (go_at_call 157; refine (owner_any p _ _ _ (by go_simp) (by omega) (by omega) (by omega) (by omega)).mono ?_; rintro e w' ⟨rfl, rfl⟩) | (go_at_call 74; refine (in_b v 2 3 _ HI.out _).mono ?_; rintro e w' ⟨rfl, rfl⟩) | (at_builtin; refine wpList_append_own _ rfl _ _ 24 rfl w.heap.size 2 i0 (.int .i64 0) 1 8 Tryz.underlying24 hi hz0 hz1 hz2 rfl (by decide) _ m (nvs acc) rfl (own_keep HO.out (al1 _ _)) ⟨_, 0, none⟩ 1 1 (nvs [(k : Int)]) rfl (by simp [nvs]) (row_news (row_1 _ (k : Int) 2)) (nvs_cell _) (by unfold maxLen; omega) (by omega) (by have := HX.out.be.size; simp; omega) ?_; intro v1 w3 hown1 hgrow1 hnil1))
     go_roundw
     case rel =>
      refine ⟨k, m + 1, acc ++ [(k : Int)], (k : Int) - 1, rfl, rfl, by omega, ?_, by rw [List.length_append, HA.out.1]; rfl, He.out, by omega, ?_⟩
      ·rw [nvs_app]
       exact hown1
      ·exact L6N.grown (HX.out.below (al1 _ _)) hgrow1 hb hd (fun q hq => ((own_keep HO.out (al1 _ (.cells #[.int .i64 (k : Int)] 2))).lt q hq).1)
     case measure => first | (simp [intOf]; done) | (simp [intOf]; omega)
/- RefC2 -/
theorem own_dq {w : World} {B e n : Nat} {v : Value} {xs : List Value} (h : w.ownsRow B e 1 v n xs) (q : Nat) : (w.drewN q).ownsRow B e 1 v n xs := own_keep h (below_dn (Below.refl w.heap.size w) q)
theorem own_da {w : World} {B e n : Nat} {v : Value} {xs : List Value} (h : w.ownsRow B e 1 v n xs) (q : Nat) (o : Obj) : ((w.drewN q).alloc o).ownsRow B e 1 v n xs := own_keep (own_dq h q) (al1 _ _)
theorem opp_O (p : Int) (K O : Nat) (b : Nat) (w : World) (c0 : w.cell? ⟨b, 0, none⟩ = some (.int .i64 p)) (h0 : 2 ≤ p) (h1 : p ≤ 8) (h3 : (K : Int) < 2 * p) (hO : 2 * p - 1 - (K : Int) = (O : Int)) :
  Calls Tryz.prog 173 #[.pointer (some ⟨b, 0, none⟩), .int .i64 K] w fun e w' => e = .returned (.int .i64 (O : Int)) ∧ w = w' := by
 rw [← hO]
 exact opposite_any p K b w c0 h0 h1 (by omega) h3
theorem l06Raw_2 (p s c l : Int) (st sk re fe ag : Bool) (player : Int) (p1 p2 : Option Addr) (pn1 pc1 pn2 pc2 K : Nat) (pq : Int) (xs ys : List Int) (b d : Nat) (w : World) (hr : RuAt w b p s c l st sk re fe ag) (hs : SoAt w d p1 p2 pn1 pc1 pn2 pc2 (K : Int) pq) (h : PosR w p1 p2 pn1 pn2 xs ys) (g : Good p s c l st sk re fe ag player pn1 pn2 (K : Int) xs ys) (e1 : (c == 1) = false) (e2 : (c == 2) = true)
  (L : List Int) (hL : (if ownB p player K && decide (vAt xs K = 1) && decide (0 < vAt xs (2 * p - 1 - K)) then [(K : Int), 2 * p - 1 - K] else []) = L) :
  Calls Tryz.prog 156 #[.pointer (some ⟨b, 0, none⟩), .pointer (some ⟨d, 0, none⟩), .int .i64 player] w (OwnP L L.length w) := by
 obtain ⟨i0, hi, hz0, hz1, hz2⟩ := info_parts infoN
 have HX := Lib.hid (show L6N w b d p s c l st sk re fe ag p1 p2 pn1 pc1 pn2 pc2 (K : Int) pq w from ⟨hr, hs, Below.refl _ _⟩)
 have HO := Lib.hid (World.ownsRow_made (e := 2) (size := 1) w #[] 0 (Nat.le_refl _) (by decide) rfl)
 have HX := Lib.hid (HX.out.below (al1 w (.cells #[] 2)))
 have G := Lib.hid g
 obtain ⟨hb, r0, r1, r2, r3, r4, r5, r6, r7, r8⟩ := hr
 obtain ⟨hd, s0, s1, s2, s3⟩ := hs
 have g1 := g.p2.1
 have g2 := g.p2.2
 have g3 := g.l2
 have gn := g.n1
 have k0 : (0 : Int) ≤ (K : Int) := by omega
 have q1 : (K : Int) < (pn1 : Int) := by omega
 obtain ⟨gx, ox, rfl, hg, y⟩ := rowV (k := K) h.r1 (by have := h.l1; omega)
 have oe := own_eq (p := p) (pl := player) g1 k0 g3 g.pl
 obtain ⟨O, hO⟩ : ∃ O : Nat, 2 * p - 1 - (K : Int) = (O : Int) := ⟨(2 * p - 1 - (K : Int)).toNat, by omega⟩
 have q2 : (O : Int) < (pn1 : Int) := by omega
 obtain ⟨g', o', ha, _, y2⟩ := rowV (k := O) h.r1 (by have := h.l1; omega)
 cases ha
 have v20 := (vAt_bd g.q1 g.t1 (O : Int)).1
 rw [hO] at hL
 have HOe := Lib.hid hO
 clear h g gn hO
 generalize vAt xs (K : Int) = v at *
 generalize vAt xs (O : Int) = v2 at *
 rcases hb1 : ownB p player (K : Int) with _ | _
 ·have e : L = [] := by rw [← hL, hb1]; rfl
  subst e
  rw [hb1] at oe
  clear hL hb1
  go_enter Tryz.func156, Tryz.ntmps156
  go_wp2_with (go_at_call 157; refine (owner_any p _ _ _ (by go_simp) (by omega) (by omega) (by omega) (by omega)).mono ?_; rintro e w' ⟨rfl, rfl⟩)
  go_quiet ((go_at_call 173; exact quiet_w (opp_O p K O _ _ (by go_simp) (by omega) (by omega) (by omega) HOe.out) ⟨_, rfl⟩))
  go_wp2_with (first | (go_at_call 157; refine (owner_any p _ _ _ (by go_simp) (by omega) (by omega) (by omega) (by omega)).mono ?_; rintro e w' ⟨rfl, rfl⟩) | (go_at_call 173; refine (opp_O p K O _ _ (by go_simp) (by omega) (by omega) (by omega) HOe.out).mono ?_; rintro e w' ⟨rfl, rfl⟩))
  go_ret
  exact ⟨_, rfl, own_keep HO.out (below_dn (Below.refl _ _) _), (HX.out.dn _).be⟩
 ·rw [hb1] at oe
  by_cases hv : v = 1
  ·have t1 : (v == 1) = true := by simp [hv]
   by_cases hv2 : 0 < v2
   ·have e : L = [(K : Int), (O : Int)] := by rw [← hL, hb1, decide_eq_true hv, decide_eq_true hv2]; rfl
    subst e
    have t2 : decide (0 < v2) = true := by simpa using hv2
    clear hL hb1 hv
    go_enter Tryz.func156, Tryz.ntmps156
    go_wp2_with (go_at_call 157; refine (owner_any p _ _ _ (by go_simp) (by omega) (by omega) (by omega) (by omega)).mono ?_; rintro e w' ⟨rfl, rfl⟩)
    go_quiet ((go_at_call 173; exact quiet_w (opp_O p K O _ _ (by go_simp) (by omega) (by omega) (by omega) HOe.out) ⟨_, rfl⟩))
    go_wp2_with (first | (go_at_call 157; refine (owner_any p _ _ _ (by go_simp) (by omega) (by omega) (by omega) (by omega)).mono ?_; rintro e w' ⟨rfl, rfl⟩) | (go_at_call 173; refine (opp_O p K O _ _ (by go_simp) (by omega) (by omega) (by omega) HOe.out).mono ?_; rintro e w' ⟨rfl, rfl⟩) | (at_builtin; refine wpList_append_own _ rfl _ _ 24 rfl w.heap.size 2 i0 (.int .i64 0) 1 8 Tryz.underlying24 hi hz0 hz1 hz2 rfl (by decide) _ 0 [] rfl (own_da HO.out _ _) ⟨_, 0, none⟩ 2 2 (nvs [(K : Int), (O : Int)]) rfl (by simp [nvs]) (row_news (by have h := (out_two ((w.alloc (.cells #[] 2)).drewN nq) (K : Int) (O : Int) 2).row; simpa using h)) (nvs_cell _) (by unfold maxLen; omega) (by omega) (by have := HX.out.be.size; simp; omega) ?_; intro v1 w3 hown1 hgrow1 hnil1))
    go_ret
    exact ⟨_, rfl, hown1, (L6N.grown (by first | exact HX.out.below (al1 _ _) | exact HX.out.drew.below (al1 _ _) | exact (HX.out.dn _).below (al1 _ _)) hgrow1 hb hd (fun q hq => (HO.out.lt q hq).1)).be⟩
   ·have e : L = [] := by rw [← hL, hb1, decide_eq_false hv2]; simp
    subst e
    have t2 : decide (0 < v2) = false := by simpa using hv2
    clear hL hb1 hv
    go_enter Tryz.func156, Tryz.ntmps156
    go_wp2_with (go_at_call 157; refine (owner_any p _ _ _ (by go_simp) (by omega) (by omega) (by omega) (by omega)).mono ?_; rintro e w' ⟨rfl, rfl⟩)
    go_quiet ((go_at_call 173; exact quiet_w (opp_O p K O _ _ (by go_simp) (by omega) (by omega) (by omega) HOe.out) ⟨_, rfl⟩))
    go_wp2_with (first | (go_at_call 157; refine (owner_any p _ _ _ (by go_simp) (by omega) (by omega) (by omega) (by omega)).mono ?_; rintro e w' ⟨rfl, rfl⟩) | (go_at_call 173; refine (opp_O p K O _ _ (by go_simp) (by omega) (by omega) (by omega) HOe.out).mono ?_; rintro e w' ⟨rfl, rfl⟩))
    go_ret
    exact ⟨_, rfl, own_keep HO.out (below_dn (Below.refl _ _) _), (HX.out.dn _).be⟩
  ·have t1 : (v == 1) = false := by simp [hv]
   have e : L = [] := by rw [← hL, decide_eq_false hv]; simp
   subst e
   clear hL hb1 hv
   go_enter Tryz.func156, Tryz.ntmps156
   go_wp2_with (go_at_call 157; refine (owner_any p _ _ _ (by go_simp) (by omega) (by omega) (by omega) (by omega)).mono ?_; rintro e w' ⟨rfl, rfl⟩)
   go_quiet ((go_at_call 173; exact quiet_w (opp_O p K O _ _ (by go_simp) (by omega) (by omega) (by omega) HOe.out) ⟨_, rfl⟩))
   go_wp2_with (first | (go_at_call 157; refine (owner_any p _ _ _ (by go_simp) (by omega) (by omega) (by omega) (by omega)).mono ?_; rintro e w' ⟨rfl, rfl⟩) | (go_at_call 173; refine (opp_O p K O _ _ (by go_simp) (by omega) (by omega) (by omega) HOe.out).mono ?_; rintro e w' ⟨rfl, rfl⟩))
   go_ret
   exact ⟨_, rfl, own_keep HO.out (below_dn (Below.refl _ _) _), (HX.out.dn _).be⟩
theorem l06Raw_3 (p s c l : Int) (st sk re fe ag : Bool) (player : Int) (p1 p2 : Option Addr) (pn1 pc1 pn2 pc2 K : Nat) (pq : Int) (xs ys : List Int) (b d : Nat) (w : World) (hr : RuAt w b p s c l st sk re fe ag) (hs : SoAt w d p1 p2 pn1 pc1 pn2 pc2 (K : Int) pq) (h : PosR w p1 p2 pn1 pn2 xs ys) (g : Good p s c l st sk re fe ag player pn1 pn2 (K : Int) xs ys) (e1 : (c == 1) = false) (e2 : (c == 2) = false) (e3 : (c == 3) = true)
  (L : List Int) (hL : (if ownB p (1 - player) K && decide (vAt xs K % 2 = 0) then [(K : Int)] else []) = L) :
  Calls Tryz.prog 156 #[.pointer (some ⟨b, 0, none⟩), .pointer (some ⟨d, 0, none⟩), .int .i64 player] w (OwnP L L.length w) := by
 obtain ⟨i0, hi, hz0, hz1, hz2⟩ := info_parts infoN
 have HX := Lib.hid (show L6N w b d p s c l st sk re fe ag p1 p2 pn1 pc1 pn2 pc2 (K : Int) pq w from ⟨hr, hs, Below.refl _ _⟩)
 have HO := Lib.hid (World.ownsRow_made (e := 2) (size := 1) w #[] 0 (Nat.le_refl _) (by decide) rfl)
 have HX := Lib.hid (HX.out.below (al1 w (.cells #[] 2)))
 have G := Lib.hid g
 obtain ⟨hb, r0, r1, r2, r3, r4, r5, r6, r7, r8⟩ := hr
 obtain ⟨hd, s0, s1, s2, s3⟩ := hs
 have g1 := g.p2.1
 have g2 := g.p2.2
 have g3 := g.l2
 have gn := g.n1
 have k0 : (0 : Int) ≤ (K : Int) := by omega
 have q1 : (K : Int) < (pn1 : Int) := by omega
 obtain ⟨gx, ox, rfl, hg, y⟩ := rowV (k := K) h.r1 (by have := h.l1; omega)
 have oe := own_eq (p := p) (pl := player) g1 k0 g3 g.pl
 rw [own_other g1 k0 g3 g.pl] at hL
 have v0 := (vAt_bd g.q1 g.t1 (K : Int)).1
 clear h g gn
 generalize vAt xs (K : Int) = v at *
 rcases hb1 : ownB p player (K : Int) with _ | _
 ·rw [hb1] at oe hL
  by_cases hv : v % 2 = 0
  ·have e : L = [(K : Int)] := by rw [← hL, decide_eq_true hv]; rfl
   subst e
   have t1 : (v % 2 == 0) = true := by simp [hv]
   have t2 : (v.tmod 2 == 0) = true := by rw [Int.tmod_eq_emod_of_nonneg v0]; exact t1
   clear hL hb1 hv
   go_enter Tryz.func156, Tryz.ntmps156
   go_wp2_with (first | (go_at_call 157; refine (owner_any p _ _ _ (by go_simp) (by omega) (by omega) (by omega) (by omega)).mono ?_; rintro e w' ⟨rfl, rfl⟩) | (at_builtin; refine wpList_append_own _ rfl _ _ 24 rfl w.heap.size 2 i0 (.int .i64 0) 1 8 Tryz.underlying24 hi hz0 hz1 hz2 rfl (by decide) _ 0 [] rfl (own_keep HO.out (al1 _ _)) ⟨_, 0, none⟩ 1 1 (nvs [(K : Int)]) rfl (by simp [nvs]) (row_news (by have h := row_1 (w.alloc (.cells #[] 2)) (K : Int) 2; simpa using h)) (nvs_cell _) (by unfold maxLen; omega) (by omega) (by have := HX.out.be.size; simp; omega) ?_; intro v1 w3 hown1 hgrow1 hnil1))
   go_ret
   exact ⟨_, rfl, hown1, (L6N.grown (by first | exact HX.out.below (al1 _ _) | exact HX.out.drew.below (al1 _ _) | exact (HX.out.dn _).below (al1 _ _)) hgrow1 hb hd (fun q hq => (HO.out.lt q hq).1)).be⟩
  ·have e : L = [] := by rw [← hL, decide_eq_false hv]; simp
   subst e
   have t1 : (v % 2 == 0) = false := by simp [hv]
   have t2 : (v.tmod 2 == 0) = false := by rw [Int.tmod_eq_emod_of_nonneg v0]; exact t1
   clear hL hb1 hv
   go_enter Tryz.func156, Tryz.ntmps156
   go_wp2_with (go_at_call 157; refine (owner_any p _ _ _ (by go_simp) (by omega) (by omega) (by omega) (by omega)).mono ?_; rintro e w' ⟨rfl, rfl⟩)
   go_ret
   exact ⟨_, rfl, HO.out, HX.out.be⟩
 ·rw [hb1] at oe hL
  have e : L = [] := by rw [← hL]; rfl
  subst e
  clear hL hb1
  go_enter Tryz.func156, Tryz.ntmps156
  go_wp2_with (go_at_call 157; refine (owner_any p _ _ _ (by go_simp) (by omega) (by omega) (by omega) (by omega)).mono ?_; rintro e w' ⟨rfl, rfl⟩)
  go_ret
  exact ⟨_, rfl, HO.out, HX.out.be⟩
theorem l06Raw_any (p s c l : Int) (st sk re fe ag : Bool) (player : Int) (p1 p2 : Option Addr) (pn1 pc1 pn2 pc2 : Nat) (pp pq : Int) (xs ys : List Int) (b d : Nat) (w : World) (hr : RuAt w b p s c l st sk re fe ag) (hs : SoAt w d p1 p2 pn1 pc1 pn2 pc2 pp pq) (h : PosR w p1 p2 pn1 pn2 xs ys) (g : Good p s c l st sk re fe ag player pn1 pn2 pp xs ys) :
  Calls Tryz.prog 156 #[.pointer (some ⟨b, 0, none⟩), .pointer (some ⟨d, 0, none⟩), .int .i64 player] w (OwnP (rawF c p player pp xs) (rawF c p player pp xs).length w) := by
 by_cases hz : pp < 0 ∨ c = 0
 ·have er : rawF c p player pp xs = [] := by
   unfold rawF
   by_cases hlt : pp < 0
   ·rw [if_pos hlt]
   ·have e : c = 0 := by omega
    rw [if_neg hlt, if_neg (show ¬ c = 1 by omega), if_neg (show ¬ c = 2 by omega), if_neg (show ¬ c = 3 by omega)]
  rw [er]
  exact l06Raw_0 p s c l st sk re fe ag player p1 p2 pn1 pc1 pn2 pc2 pp pq xs ys b d w hr hs g hz
 ·have hlt : ¬ pp < 0 := by omega
  have hc := g.c3
  obtain ⟨K, rfl⟩ : ∃ K : Nat, pp = (K : Int) := ⟨pp.toNat, by omega⟩
  rcases (show c = 1 ∨ c = 2 ∨ c = 3 by omega) with e | e | e
  ·have er : rawF c p player (K : Int) xs = twF p player xs (K + 1) := by unfold rawF; rw [if_neg hlt, if_pos e]; rfl
   rw [er]
   exact l06Raw_1 p s c l st sk re fe ag player _ _ _ _ _ _ _ _ xs ys (K + 1) b d w hr hs h g (by omega) (by omega) (by simp [e])
  ·refine l06Raw_2 p s c l st sk re fe ag player _ _ _ _ _ _ K _ xs ys b d w hr hs h g (by simp [e]) (by simp [e]) _ ?_
   unfold rawF
   rw [if_neg hlt, if_neg (show ¬ c = 1 by omega), if_pos e]
  ·refine l06Raw_3 p s c l st sk re fe ag player _ _ _ _ _ _ K _ xs ys b d w hr hs h g (by simp [e]) (by simp [e]) (by simp [e]) _ ?_
   unfold rawF
   rw [if_neg hlt, if_neg (show ¬ c = 1 by omega), if_neg (show ¬ c = 2 by omega), if_pos e]
end Go.Proofs.YtgbaneildbdgdaaGreat
