/- The other kinds of captures, as the program finds their pits. No conditions. -/
import Derived.Test.YtdhkfkfoibddnaaCap8
import Derived.Test.YtdhkfkfoibddnaaCh2Pit
namespace Go.Proofs.Ytdhkfkfoibddnaa
open Go.Joins Go.ChangeShapes Go.WideShapes Go.ChangeAt Go.RowKit Go.Deep
set_option linter.unusedVariables false

/-- An owned row as a slice. -/
theorem own_slice {w : World} {B n : Nat} {v : Value} {xs : List Int} (h : w.ownsRow B 2 1 v n (nvs xs)) (hn : xs.length = n) (hle : n ≤ 1000) : ∃ a cc, v = .slice a n cc ∧ RowN w a xs := by
  by_cases hne : xs = []
  · subst hne
    obtain ⟨_, ⟨hv, h0⟩ | ⟨g, cap, cur, hv, _⟩⟩ := h
    · subst h0
      exact ⟨none, 0, hv, rowN_nil _ _⟩
    · exact ⟨_, cap, hv, rowN_nil _ _⟩
  · obtain ⟨c, b, hv, ho, _⟩ := outN_own h hn (by omega) hne
    exact ⟨_, c, hv, ho.row⟩
theorem own_1 (u : World) (x : Int) (B : Nat) (hB : B ≤ u.heap.size) : (u.alloc (.cells #[.int .i64 x] 2)).ownsRow B 2 1 (.slice (some ⟨u.heap.size, 0, none⟩) 1 1) 1 (nvs [x]) :=
  ⟨rfl, .inr ⟨u.heap.size, 1, #[.int .i64 x], rfl, hB, by show (u.heap.push _)[u.heap.size]? = _; simp, Nat.le_refl _, by decide, rfl, rfl⟩⟩
theorem own_2 (u : World) (x y : Int) (B : Nat) (hB : B ≤ u.heap.size) : (u.alloc (.cells #[.int .i64 x, .int .i64 y] 2)).ownsRow B 2 1 (.slice (some ⟨u.heap.size, 0, none⟩) 2 2) 2 (nvs [x, y]) :=
  ⟨rfl, .inr ⟨u.heap.size, 2, #[.int .i64 x, .int .i64 y], rfl, hB, by show (u.heap.push _)[u.heap.size]? = _; simp, Nat.le_refl _, by decide, rfl, rfl⟩⟩
set_option maxHeartbeats 4000000 in
set_option maxRecDepth 100000 in
theorem even_any (p s c l : Int) (st sk re fe ag : Bool) (player : Int) (p1 p2 : Option Addr) (pn1 pc1 pn2 pc2 : Nat) (pp pq : Int) (xs ys : List Int) (w : World) (h : PosR w p1 p2 pn1 pn2 xs ys) (hq : posB xs = true) (ht : tot xs ≤ 96) (hp : 2 ≤ p ∧ p ≤ 8) (hn1 : (pn1 : Int) = 2 * p) (hpl : player = 0 ∨ player = 1) (hl1 : -1 ≤ pp) (hl2 : pp < 2 * p) (L : List Int) (hL : (if ownB p (1 - player) pp && decide (vAt xs pp % 2 = 0) then [pp] else []) = L) :
    Calls Try.prog 98 #[.agg #[.int .i64 p, .int .i64 s, .bool st, .bool sk, .bool re, .bool fe, .bool ag, .int .i64 c, .int .i64 l, .int .i64 player, .slice p1 pn1 pc1, .slice p2 pn2 pc2, .int .i64 pp, .int .i64 pq]] w (OwnP L L.length w) := by
  have HC := Lib.hid (cp_new p s c l st sk re fe ag player p1 p2 pn1 pc1 pn2 pc2 pp pq w 73)
  obtain ⟨⟨_, c0, c1, c2, c3, c4, c5, c6, c7, c8, c9, c10, c11, c12, c13⟩, -⟩ := HC.out
  have H0 := Lib.hid h
  have HP := Lib.hid hp
  have HPl := Lib.hid hpl
  have HQ := Lib.hid (And.intro hq ht)
  have HV := vAt_bd hq ht pp
  have hs1 := sumAt_one xs pp
  have hR : (ownB p (1 - player) pp = true) → ∀ x ∈ [pp], 0 ≤ x ∧ x < (pn1 : Int) := fun ho x hx => by
    unfold ownB at ho
    simp only [Bool.and_eq_true, decide_eq_true_eq] at ho
    rcases List.mem_cons.1 hx with rfl | hx
    · rcases hpl with rfl | rfl <;> omega
    · cases hx
  generalize vAt xs pp = v at *
  rcases hb : ownB p (1 - player) pp with _ | _
  · have e : L = [] := by rw [← hL, hb]; rfl
    subst e
    have Hb := Lib.hid hb
    clear hb hL h hp hpl hq ht hn1 hR hs1
    go_enter Try.func98, Try.ntmps98
    go_wp2_with (go_at_call 105; refine (isOther_any p s c l st sk re fe ag player p1 p2 pn1 pc1 pn2 pc2 pp pq pp _ HP.out HPl.out).mono ?_; rintro e w5 ⟨rfl, hb5⟩; rw [Hb.out]; have HC := Lib.hid (HC.out.below hb5); clear hb5; obtain ⟨⟨_, c0, c1, c2, c3, c4, c5, c6, c7, c8, c9, c10, c11, c12, c13⟩, -⟩ := HC.out)
    go_ret
    exact ⟨_, rfl, World.ownsRow_nil _ _ _ _, HC.out.be⟩
  · have HR := Lib.hid (hR hb)
    have Hb := Lib.hid hb
    have Hs1 := Lib.hid hs1
    by_cases he : v % 2 = 0
    · have e : L = [pp] := by rw [← hL, hb, decide_eq_true he]; rfl
      subst e
      have t1 : (v % 2 != 0) = false := by simp [he]
      have t2 : (v.tmod 2 != 0) = false := by rw [Int.tmod_eq_emod_of_nonneg HV.1]; exact t1
      clear hb hL h hp hpl hq ht hn1 hR hs1
      go_enter Try.func98, Try.ntmps98
      go_wp2_with (first | (go_at_call 105; refine (isOther_any p s c l st sk re fe ag player p1 p2 pn1 pc1 pn2 pc2 pp pq pp _ HP.out HPl.out).mono ?_; rintro e w5 ⟨rfl, hb5⟩; rw [Hb.out]; have HC := Lib.hid (HC.out.below hb5); clear hb5; obtain ⟨⟨_, c0, c1, c2, c3, c4, c5, c6, c7, c8, c9, c10, c11, c12, c13⟩, -⟩ := HC.out) | (go_at_call 61; refine (seedsIn_any p s c l st sk re fe ag player p1 p2 pn1 pc1 pn2 pc2 pp pq xs ys [pp] _ 1 1 _ ((H0.out.below HC.out.be).alloc _) HQ.out.1 HQ.out.2 HR.out rfl (by omega) (row_1 _ _ _)).mono ?_; rintro e w6 ⟨rfl, hb6⟩; rw [Hs1.out]; have HC := Lib.hid ((HC.out.alloc _).below hb6); clear hb6; obtain ⟨⟨_, c0, c1, c2, c3, c4, c5, c6, c7, c8, c9, c10, c11, c12, c13⟩, -⟩ := HC.out))
      go_ret
      exact ⟨_, rfl, own_1 _ pp _ HC.out.be.size, (HC.out.alloc _).be⟩
    · have e : L = [] := by rw [← hL, hb, decide_eq_false he]; rfl
      subst e
      have t1 : (v % 2 != 0) = true := by simp [he]
      have t2 : (v.tmod 2 != 0) = true := by rw [Int.tmod_eq_emod_of_nonneg HV.1]; exact t1
      clear hb hL h hp hpl hq ht hn1 hR hs1
      go_enter Try.func98, Try.ntmps98
      go_wp2_with (first | (go_at_call 105; refine (isOther_any p s c l st sk re fe ag player p1 p2 pn1 pc1 pn2 pc2 pp pq pp _ HP.out HPl.out).mono ?_; rintro e w5 ⟨rfl, hb5⟩; rw [Hb.out]; have HC := Lib.hid (HC.out.below hb5); clear hb5; obtain ⟨⟨_, c0, c1, c2, c3, c4, c5, c6, c7, c8, c9, c10, c11, c12, c13⟩, -⟩ := HC.out) | (go_at_call 61; refine (seedsIn_any p s c l st sk re fe ag player p1 p2 pn1 pc1 pn2 pc2 pp pq xs ys [pp] _ 1 1 _ ((H0.out.below HC.out.be).alloc _) HQ.out.1 HQ.out.2 HR.out rfl (by omega) (row_1 _ _ _)).mono ?_; rintro e w6 ⟨rfl, hb6⟩; rw [Hs1.out]; have HC := Lib.hid ((HC.out.alloc _).below hb6); clear hb6; obtain ⟨⟨_, c0, c1, c2, c3, c4, c5, c6, c7, c8, c9, c10, c11, c12, c13⟩, -⟩ := HC.out))
      go_ret
      exact ⟨_, rfl, World.ownsRow_nil _ _ _ _, HC.out.be⟩
set_option maxHeartbeats 4000000 in
set_option maxRecDepth 100000 in
theorem cross_any (p s c l : Int) (st sk re fe ag : Bool) (player : Int) (p1 p2 : Option Addr) (pn1 pc1 pn2 pc2 : Nat) (pp pq : Int) (xs ys : List Int) (w : World) (h : PosR w p1 p2 pn1 pn2 xs ys) (hq : posB xs = true) (ht : tot xs ≤ 96) (hok : okR p s c l st ag = true) (hn1 : (pn1 : Int) = 2 * p) (hpl : player = 0 ∨ player = 1) (hl1 : -1 ≤ pp) (hl2 : pp < 2 * p) (L : List Int) (hL : (if ownB p player pp && decide (vAt xs pp = 1) && decide (0 < vAt xs (2 * p - 1 - pp)) then [pp, 2 * p - 1 - pp] else []) = L) :
    Calls Try.prog 97 #[.agg #[.int .i64 p, .int .i64 s, .bool st, .bool sk, .bool re, .bool fe, .bool ag, .int .i64 c, .int .i64 l, .int .i64 player, .slice p1 pn1 pc1, .slice p2 pn2 pc2, .int .i64 pp, .int .i64 pq]] w (OwnP L L.length w) := by
  have HC := Lib.hid (cp_new p s c l st sk re fe ag player p1 p2 pn1 pc1 pn2 pc2 pp pq w 73)
  obtain ⟨⟨_, c0, c1, c2, c3, c4, c5, c6, c7, c8, c9, c10, c11, c12, c13⟩, -⟩ := HC.out
  have H0 := Lib.hid h
  have hbd := okR_bd hok
  have HP : Hid (2 ≤ p ∧ p ≤ 8) := Lib.hid ⟨hbd.1, hbd.2.1⟩
  have HPl := Lib.hid hpl
  have HQ := Lib.hid (And.intro hq ht)
  have HV := vAt_bd hq ht (2 * p - 1 - pp)
  have hs1 := sumAt_one xs pp
  have hs2 := sumAt_one xs (2 * p - 1 - pp)
  have hr0 : (ownB p player pp = true) → 0 ≤ pp := fun ho => by
    unfold ownB at ho
    simp only [Bool.and_eq_true, decide_eq_true_eq] at ho
    rcases hpl with rfl | rfl <;> omega
  generalize vAt xs pp = v at *
  generalize vAt xs (2 * p - 1 - pp) = v2 at *
  rcases hb : ownB p player pp with _ | _
  · have e : L = [] := by rw [← hL, hb]; rfl
    subst e
    have Hb := Lib.hid hb
    clear hb hL h hbd hok hpl hq ht hn1 hr0 hs1 hs2
    go_enter Try.func97, Try.ntmps97
    go_wp2_with (go_at_call 108; refine (owns_any p s c l st sk re fe ag player pp _ HP.out HPl.out).mono ?_; rintro e w5 ⟨rfl, hb5⟩; rw [Hb.out]; have HC := Lib.hid (HC.out.below hb5); clear hb5; obtain ⟨⟨_, c0, c1, c2, c3, c4, c5, c6, c7, c8, c9, c10, c11, c12, c13⟩, -⟩ := HC.out)
    go_ret
    exact ⟨_, rfl, World.ownsRow_nil _ _ _ _, HC.out.be⟩
  · have h0 := hr0 hb
    have HR : Hid (∀ x ∈ [pp], 0 ≤ x ∧ x < (pn1 : Int)) := Lib.hid (fun x hx => by
      rcases List.mem_cons.1 hx with rfl | hx
      · omega
      · cases hx)
    have HR2 : Hid (∀ x ∈ [2 * p - 1 - pp], 0 ≤ x ∧ x < (pn1 : Int)) := Lib.hid (fun x hx => by
      rcases List.mem_cons.1 hx with rfl | hx
      · omega
      · cases hx)
    have hpc : pitC (okR p s c l st ag) p pp = 0 := by rw [hok]; exact pitC_in h0 hl2
    have Hpc := Lib.hid hpc
    have Hpv : Hid (pitV 0 (2 * p - 1 - pp) = 2 * p - 1 - pp) := Lib.hid rfl
    have Hb := Lib.hid hb
    have Hs1 := Lib.hid hs1
    have Hs2 := Lib.hid hs2
    by_cases he : v = 1
    · have t1 : (v != 1) = false := by simp [he]
      by_cases hz : 0 < v2
      · have e : L = [pp, 2 * p - 1 - pp] := by rw [← hL, hb, decide_eq_true he, decide_eq_true hz]; rfl
        subst e
        have t2 : (v2 == 0) = false := by simp; omega
        clear hb hL h hbd hok hpl hq ht hn1 hr0 hs1 hs2 hpc he
        go_enter Try.func97, Try.ntmps97
        go_wp2_with (first | (go_at_call 108; refine (owns_any p s c l st sk re fe ag player pp _ HP.out HPl.out).mono ?_; rintro e w5 ⟨rfl, hb5⟩; rw [Hb.out]; have HC := Lib.hid (HC.out.below hb5); clear hb5; obtain ⟨⟨_, c0, c1, c2, c3, c4, c5, c6, c7, c8, c9, c10, c11, c12, c13⟩, -⟩ := HC.out) | (go_at_call 109; refine (impl_opposite p s c l st sk re fe ag pp _).mono ?_; rintro e w7 ⟨rfl, hb7⟩; rw [Hpc.out, Hpv.out]; have HC := Lib.hid (HC.out.below hb7); clear hb7; obtain ⟨⟨_, c0, c1, c2, c3, c4, c5, c6, c7, c8, c9, c10, c11, c12, c13⟩, -⟩ := HC.out) | (go_at_call 61; refine (seedsIn_any p s c l st sk re fe ag player p1 p2 pn1 pc1 pn2 pc2 pp pq xs ys [2 * p - 1 - pp] _ 1 1 _ ((H0.out.below HC.out.be).alloc _) HQ.out.1 HQ.out.2 HR2.out rfl (by omega) (row_1 _ _ _)).mono ?_; rintro e w8 ⟨rfl, hb8⟩; rw [Hs2.out]; have HC := Lib.hid ((HC.out.alloc _).below hb8); clear hb8; obtain ⟨⟨_, c0, c1, c2, c3, c4, c5, c6, c7, c8, c9, c10, c11, c12, c13⟩, -⟩ := HC.out) | (go_at_call 61; refine (seedsIn_any p s c l st sk re fe ag player p1 p2 pn1 pc1 pn2 pc2 pp pq xs ys [pp] _ 1 1 _ ((H0.out.below HC.out.be).alloc _) HQ.out.1 HQ.out.2 HR.out rfl (by omega) (row_1 _ _ _)).mono ?_; rintro e w6 ⟨rfl, hb6⟩; rw [Hs1.out]; have HC := Lib.hid ((HC.out.alloc _).below hb6); clear hb6; obtain ⟨⟨_, c0, c1, c2, c3, c4, c5, c6, c7, c8, c9, c10, c11, c12, c13⟩, -⟩ := HC.out))
        go_ret
        exact ⟨_, rfl, own_2 _ pp _ _ HC.out.be.size, (HC.out.alloc _).be⟩
      · have e : L = [] := by rw [← hL, hb, decide_eq_true he, decide_eq_false hz]; rfl
        subst e
        have t2 : (v2 == 0) = true := by simp; omega
        clear hb hL h hbd hok hpl hq ht hn1 hr0 hs1 hs2 hpc he
        go_enter Try.func97, Try.ntmps97
        go_wp2_with (first | (go_at_call 108; refine (owns_any p s c l st sk re fe ag player pp _ HP.out HPl.out).mono ?_; rintro e w5 ⟨rfl, hb5⟩; rw [Hb.out]; have HC := Lib.hid (HC.out.below hb5); clear hb5; obtain ⟨⟨_, c0, c1, c2, c3, c4, c5, c6, c7, c8, c9, c10, c11, c12, c13⟩, -⟩ := HC.out) | (go_at_call 109; refine (impl_opposite p s c l st sk re fe ag pp _).mono ?_; rintro e w7 ⟨rfl, hb7⟩; rw [Hpc.out, Hpv.out]; have HC := Lib.hid (HC.out.below hb7); clear hb7; obtain ⟨⟨_, c0, c1, c2, c3, c4, c5, c6, c7, c8, c9, c10, c11, c12, c13⟩, -⟩ := HC.out) | (go_at_call 61; refine (seedsIn_any p s c l st sk re fe ag player p1 p2 pn1 pc1 pn2 pc2 pp pq xs ys [2 * p - 1 - pp] _ 1 1 _ ((H0.out.below HC.out.be).alloc _) HQ.out.1 HQ.out.2 HR2.out rfl (by omega) (row_1 _ _ _)).mono ?_; rintro e w8 ⟨rfl, hb8⟩; rw [Hs2.out]; have HC := Lib.hid ((HC.out.alloc _).below hb8); clear hb8; obtain ⟨⟨_, c0, c1, c2, c3, c4, c5, c6, c7, c8, c9, c10, c11, c12, c13⟩, -⟩ := HC.out) | (go_at_call 61; refine (seedsIn_any p s c l st sk re fe ag player p1 p2 pn1 pc1 pn2 pc2 pp pq xs ys [pp] _ 1 1 _ ((H0.out.below HC.out.be).alloc _) HQ.out.1 HQ.out.2 HR.out rfl (by omega) (row_1 _ _ _)).mono ?_; rintro e w6 ⟨rfl, hb6⟩; rw [Hs1.out]; have HC := Lib.hid ((HC.out.alloc _).below hb6); clear hb6; obtain ⟨⟨_, c0, c1, c2, c3, c4, c5, c6, c7, c8, c9, c10, c11, c12, c13⟩, -⟩ := HC.out))
        go_ret
        exact ⟨_, rfl, World.ownsRow_nil _ _ _ _, HC.out.be⟩
    · have t1 : (v != 1) = true := by simp [he]
      have e : L = [] := by rw [← hL, hb, decide_eq_false he]; rfl
      subst e
      clear hb hL h hbd hok hpl hq ht hn1 hr0 hs1 hs2 hpc he
      go_enter Try.func97, Try.ntmps97
      go_wp2_with (first | (go_at_call 108; refine (owns_any p s c l st sk re fe ag player pp _ HP.out HPl.out).mono ?_; rintro e w5 ⟨rfl, hb5⟩; rw [Hb.out]; have HC := Lib.hid (HC.out.below hb5); clear hb5; obtain ⟨⟨_, c0, c1, c2, c3, c4, c5, c6, c7, c8, c9, c10, c11, c12, c13⟩, -⟩ := HC.out) | (go_at_call 61; refine (seedsIn_any p s c l st sk re fe ag player p1 p2 pn1 pc1 pn2 pc2 pp pq xs ys [pp] _ 1 1 _ ((H0.out.below HC.out.be).alloc _) HQ.out.1 HQ.out.2 HR.out rfl (by omega) (row_1 _ _ _)).mono ?_; rintro e w6 ⟨rfl, hb6⟩; rw [Hs1.out]; have HC := Lib.hid ((HC.out.alloc _).below hb6); clear hb6; obtain ⟨⟨_, c0, c1, c2, c3, c4, c5, c6, c7, c8, c9, c10, c11, c12, c13⟩, -⟩ := HC.out))
      go_ret
      exact ⟨_, rfl, World.ownsRow_nil _ _ _ _, HC.out.be⟩
end Go.Proofs.Ytdhkfkfoibddnaa
