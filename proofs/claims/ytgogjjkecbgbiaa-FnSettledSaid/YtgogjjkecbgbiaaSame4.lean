/- Whether positions are equal: the reference's answer and the program's. No conditions. -/
import Derived.Test.YtgogjjkecbgbiaaCmp4
namespace Go.Proofs.Ytgogjjkecbgbiaa
open Go.Joins Go.ChangeShapes Go.WideShapes Go.ChangeAt Go.RowKit Go.Deep
set_option linter.unusedVariables false

theorem cmpL_zero : ∀ {a b : List Int}, cmpL a b = 0 ↔ a = b
  | [], [] => by simp [cmpL]
  | [], _ :: _ => by simp [cmpL]
  | _ :: _, [] => by simp [cmpL]
  | x :: r, y :: q => by
    unfold cmpL
    split
    · constructor
      · intro h; omega
      · intro h; cases h; omega
    · split
      · constructor
        · intro h; omega
        · intro h; cases h; omega
      · rw [cmpL_zero]
        have : x = y := by omega
        simp [this]
/-- Two positions are equal. -/
def sameB (xs us ys vs : List Int) (p q : Int) : Bool := decide (xs = us) && decide (ys = vs) && (p == q)
theorem cmpP_zero (xs us ys vs : List Int) (p q : Int) : (cmpP xs us ys vs p q == 0) = sameB xs us ys vs p q := by
  unfold cmpP or3 sameB
  by_cases h1 : cmpL xs us = 0
  · rw [if_pos h1, decide_eq_true (cmpL_zero.1 h1)]
    by_cases h2 : cmpL ys vs = 0
    · rw [if_pos h2, decide_eq_true (cmpL_zero.1 h2)]
      by_cases h3 : p = q
      · subst h3
        simp [cmpL]
      · have : cmpL [p] [q] ≠ 0 := fun h => h3 (by have := cmpL_zero.1 h; simpa using this)
        rw [beq_eq_false_iff_ne.2 this, beq_eq_false_iff_ne.2 h3]
        rfl
    · rw [if_neg h2, decide_eq_false (fun h => h2 (cmpL_zero.2 h))]
      simp [h2]
  · rw [if_neg h1, decide_eq_false (fun h => h1 (cmpL_zero.2 h))]
    simp [h1]

theorem quiet_s {P : Program} {f : FuncId} {args : Array Value} {W w : World} {v : Value} (h : Calls P f args W (Still v W)) (hw : ∃ m, W = w.drewN m) :
    Calls P f args W fun e w'' => e = .returned v ∧ ∃ m, w'' = w.drewN m := h.mono fun _ _ ⟨he, m, hm⟩ => ⟨he, by
      obtain ⟨k, hk⟩ := hw
      exact ⟨k + m, by rw [hm, hk, World.drewN_drewN]⟩⟩

theorem take_snoc {xs : List Int} {k : Nat} {x : Int} (h : xs[k]? = some x) : xs.take (k + 1) = xs.take k ++ [x] := take_next h
theorem ne_at {xs ys : List Int} {k : Nat} {x y : Int} (hx : xs[k]? = some x) (hy : ys[k]? = some y) (h : x ≠ y) : xs ≠ ys := by
  intro e
  subst e
  rw [hx] at hy
  cases hy
  exact h rfl
set_option maxHeartbeats 2000000 in
theorem l00Same_any (a d : Option Addr) (c1 c2 n m : Nat) (xs ys : List Int) (w : World) (hn : xs.length = n) (hm : ys.length = m) (h1 : RowN w a xs) (h2 : RowN w d ys) :
    Calls Try.prog 46 #[.slice a n c1, .slice d m c2] w (Still (.bool (decide (xs = ys))) w) := by
  have hl : n ≤ 1000000000000 := by rw [← hn]; exact h1.1
  have Hn := Lib.hid hn
  have Hm := Lib.hid hm
  have H1 := Lib.hid h1
  have H2 := Lib.hid h2
  clear hn hm h1 h2
  by_cases hne : n = m
  · obtain rfl := hne
    go_enter Try.func46, Try.ntmps46
    go_wp2
    go_loopw [5] (fun i wr => ∃ k q : Nat, k ≤ n ∧ i = .int .i64 k ∧ wr = w.drewN q ∧ xs.take k = ys.take k) (fun i _ => n - (intOf i).toNat)
    case atStart => exact ⟨0, 0, Nat.zero_le _, rfl, rfl, rfl⟩
    case round =>
      obtain ⟨k, q, hk, rfl, rfl, ht⟩ := hrel
      have Ht := Lib.hid ht
      clear ht
      by_cases hlt : k < n
      · obtain ⟨x, hx⟩ : ∃ x, xs[k]? = some x := ⟨xs[k]'(by rw [Hn.out]; exact hlt), List.getElem?_eq_getElem _⟩
        obtain ⟨y, hy⟩ : ∃ y, ys[k]? = some y := ⟨ys[k]'(by rw [Hm.out]; exact hlt), List.getElem?_eq_getElem _⟩
        obtain ⟨g1, o1, rfl, y1⟩ := cell_of H1.out hx
        obtain ⟨g2, o2, rfl, y2⟩ := cell_of H2.out hy
        have Hx := Lib.hid hx
        have Hy := Lib.hid hy
        have q0 : (0 : Int) ≤ (k : Int) := by omega
        have q1 : (k : Int) < (n : Int) := by omega
        clear hx hy
        by_cases e1 : x = y
        · subst e1
          go_wp2_with fail
          go_quiet (fail)
          go_wp2_with fail
          go_roundw
          case rel => exact ⟨k + 1, _, by omega, by go_num, rfl, by rw [take_snoc Hx.out, take_snoc Hy.out, Ht.out]⟩
          case measure => simp [intOf]; omega
        · have E : Hid (decide (xs = ys) = false) := Lib.hid (decide_eq_false (ne_at Hx.out Hy.out e1))
          have d1 : (x != y) = true := by simpa using e1
          clear e1
          go_wp2_with fail
          go_quiet (fail)
          go_wp2_with fail
          go_ret
          exact ⟨by rw [E.out]; rfl, by first | exact dn2 _ _ _ | exact dn1 _ _⟩
      · obtain rfl : k = n := by omega
        have E : Hid (decide (xs = ys) = true) := Lib.hid (decide_eq_true (by
          have := Ht.out
          rwa [List.take_of_length_le (by rw [Hn.out]; exact Nat.le_refl _), List.take_of_length_le (by rw [Hm.out]; exact Nat.le_refl _)] at this))
        go_wp2
        go_ret
        exact ⟨by rw [E.out]; rfl, dn1 _ _⟩
  · have E : Hid (decide (xs = ys) = false) := Lib.hid (decide_eq_false (fun e => hne (by rw [← Hn.out, ← Hm.out, e])))
    have d1 : ((n : Int) != (m : Int)) = true := by simp; omega
    clear hne
    go_enter Try.func46, Try.ntmps46
    go_wp2
    go_ret
    exact ⟨by rw [E.out]; rfl, 0, rfl⟩
set_option maxHeartbeats 2000000 in
theorem l04Same_any (p1 p2 : Option Addr) (pn1 pc1 pn2 pc2 : Nat) (pp : Int) (x1 x2 : Option Addr) (xn1 xc1 xn2 xc2 : Nat) (xp : Int) (xs ys us vs : List Int) (b d : Nat) (w : World) (hp : PoAt w b p1 p2 pn1 pc1 pn2 pc2 pp) (hx : PoAt w d x1 x2 xn1 xc1 xn2 xc2 xp) (h1 : PosR w p1 p2 pn1 pn2 xs ys) (h2 : PosR w x1 x2 xn1 xn2 us vs) :
    Calls Try.prog 31 #[.pointer (some ⟨b, 0, none⟩), .pointer (some ⟨d, 0, none⟩)] w (Still (.bool (sameB xs us ys vs pp xp)) w) := by
  obtain ⟨_, g0, g1, g2⟩ := hp
  obtain ⟨_, k0, k1, k2⟩ := hx
  have C1 := Lib.hid (fun m => l00Same_any p1 x1 pc1 xc1 pn1 xn1 xs us (w.drewN m) h1.l1 h2.l1 (h1.drewN m).r1 (h2.drewN m).r1)
  have C2 := Lib.hid (fun m => l00Same_any p2 x2 pc2 xc2 pn2 xn2 ys vs (w.drewN m) h1.l2 h2.l2 (h1.drewN m).r2 (h2.drewN m).r2)
  clear h1 h2
  unfold sameB
  generalize hv1 : decide (xs = us) = v1 at *
  generalize hv2 : decide (ys = vs) = v2 at *
  clear hv1 hv2
  cases v1
  · go_enter Try.func31, Try.ntmps31
    go_wp2_with fail
    go_quiet ((go_at_call 46; with_reducible exact quiet_s (C1.out _) ⟨_, rfl⟩))
    go_wp2_with fail
    go_ret
    exact ⟨rfl, _, rfl⟩
  · cases v2
    all_goals
      go_enter Try.func31, Try.ntmps31
      go_wp2_with fail
      go_quiet ((first | (go_at_call 46; with_reducible exact quiet_s (C1.out _) ⟨_, rfl⟩) | (go_at_call 46; with_reducible exact quiet_s (C2.out _) ⟨_, rfl⟩)))
      go_wp2_with fail
      go_ret
      exact ⟨rfl, _, rfl⟩
theorem specSame_any (p1 p2 : Option Addr) (pn1 pc1 pn2 pc2 : Nat) (pp : Int) (x1 x2 : Option Addr) (xn1 xc1 xn2 xc2 : Nat) (xp : Int) (xs ys us vs : List Int) (w : World) (h1 : PosR w p1 p2 pn1 pn2 xs ys) (h2 : PosR w x1 x2 xn1 xn2 us vs) :
    Calls Try.prog 16 #[.agg #[.slice p1 pn1 pc1, .slice p2 pn2 pc2, .int .i64 pp], .agg #[.slice x1 xn1 xc1, .slice x2 xn2 xc2, .int .i64 xp]] w fun e w' => e = .returned (.bool (sameB xs us ys vs pp xp)) ∧ Below w.heap.size w w' := by
  have HS := Lib.hid (pp_new p1 p2 pn1 pc1 pn2 pc2 pp x1 x2 xn1 xc1 xn2 xc2 xp w 28)
  have H1 := Lib.hid h1
  have H2 := Lib.hid h2
  clear h1 h2
  generalize hk : sameB xs us ys vs pp xp = k
  have Hk := Lib.hid hk
  clear hk
  go_enter Try.func16, Try.ntmps16
  go_wp2_with fail
  refine (l04Same_any p1 p2 pn1 pc1 pn2 pc2 pp x1 x2 xn1 xc1 xn2 xc2 xp xs ys us vs _ _ _ HS.out.1 HS.out.2.1 (H1.out.below HS.out.2.2) (H2.out.below HS.out.2.2)).mono ?_
  rintro e u ⟨rfl, m, rfl⟩
  rw [Hk.out]
  have HS := Lib.hid (HS.out.drewN m)
  go_wp2_with fail
  go_ret
  exact ⟨rfl, HS.out.2.2⟩
end Go.Proofs.Ytgogjjkecbgbiaa
