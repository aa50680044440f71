/- Cap9, Cap10, Cap11, RefC, RefC2, Tk5, Cap12, Tk7, Cap13, RefC3, RefTk, Rnd5, Last5, Scope, Stp5, one after the other (what the laws reach of them). No conditions. -/
import Derived.Test.YtmngmbpdiaocjaaVz1
import Derived.Test.YtmngmbpdiaocjaaCh2Pit
import Derived.Laws.EntriesVeiled
import Derived.Test.YtmngmbpdiaocjaaPlaces
import Derived.Scope
import Derived.ControlIn
import Derived.Test.YtmngmbpdiaocjaaPut5
namespace Go.Proofs.Ytmngmbpdiaocjaa
open Go.Joins Go.ChangeShapes Go.WideShapes Go.ChangeAt Go.RowKit Go.Deep
set_option linter.unusedVariables false
set_option maxHeartbeats 8000000
set_option maxRecDepth 100000
/- Cap9 -/
theorem own_slice {w : World} {B n : Nat} {v : Value} {xs : List Int} (h : w.ownsRow B 2 1 v n (nvs xs)) (hn : xs.length = n) (hle : n ≤ 1000) : ∃ a cc, v = .slice a n cc ∧ RowN w a xs := by
 by_cases hne : xs = []
 ·subst hne
  obtain ⟨_, ⟨hv, h0⟩ | ⟨g, cap, cur, hv, _⟩⟩ := h
  ·subst h0
   exact ⟨none, 0, hv, rowN_nil _ _⟩
  ·exact ⟨_, cap, hv, rowN_nil _ _⟩
 ·obtain ⟨c, b, hv, ho, _⟩ := outN_own h hn (by omega) hne
  exact ⟨_, c, hv, ho.row⟩
theorem own_1 (u : World) (x : Int) (B : Nat) (hB : B ≤ u.heap.size) : (u.alloc (.cells #[.int .i64 x] 2)).ownsRow B 2 1 (.slice (some ⟨u.heap.size, 0, none⟩) 1 1) 1 (nvs [x]) :=
 ⟨rfl, .inr ⟨u.heap.size, 1, #[.int .i64 x], rfl, hB, by show (u.heap.push _)[u.heap.size]? = _; simp, Nat.le_refl _, by decide, rfl, rfl⟩⟩
theorem own_2 (u : World) (x y : Int) (B : Nat) (hB : B ≤ u.heap.size) : (u.alloc (.cells #[.int .i64 x, .int .i64 y] 2)).ownsRow B 2 1 (.slice (some ⟨u.heap.size, 0, none⟩) 2 2) 2 (nvs [x, y]) :=
 ⟨rfl, .inr ⟨u.heap.size, 2, #[.int .i64 x, .int .i64 y], rfl, hB, by show (u.heap.push _)[u.heap.size]? = _; simp, Nat.le_refl _, by decide, rfl, rfl⟩⟩
theorem even_any (p s c l : Int) (st sk re fe ag : Bool) (player : Int) (p1 p2 : Option Addr) (pn1 pc1 pn2 pc2 : Nat) (pp pq : Int) (xs ys : List Int) (w : World) (h : PosR w p1 p2 pn1 pn2 xs ys) (hq : posB xs = true) (ht : tot xs ≤ 96) (hp : 2 ≤ p ∧ p ≤ 8) (hn1 : (pn1 : Int) = 2 * p) (hpl : player = 0 ∨ player = 1) (hl1 : -1 ≤ pp) (hl2 : pp < 2 * p) (L : List Int) (hL : (if ownB p (1 - player) pp && decide (vAt xs pp % 2 = 0) then [pp] else []) = L) :
  Calls Try.prog 111 #[.agg #[.int .i64 p, .int .i64 s, .bool st, .bool sk, .bool re, .bool fe, .bool ag, .int .i64 c, .int .i64 l, .int .i64 player, .slice p1 pn1 pc1, .slice p2 pn2 pc2, .int .i64 pp, .int .i64 pq]] w (OwnP L L.length w) := by
 have HC := Lib.hid (cp_new p s c l st sk re fe ag player p1 p2 pn1 pc1 pn2 pc2 pp pq w 77)
 obtain ⟨⟨_, c0, c1, c2, c3, c4, c5, c6, c7, c8, c9, c10, c11, c12, c13⟩, -⟩ := HC.out
 have H0 := Lib.hid h
 have HP := Lib.hid hp
 have HPl := Lib.hid hpl
 have HQ := Lib.hid (And.intro hq ht)
 have HV := vAt_bd hq ht pp
 have hs1 := sumAt_one xs pp
 have hR : (ownB p (1 - player) pp = true) → ∀ x ∈ [pp], 0 ≤ x ∧ x < (pn1 : Int) := fun ho x hx => by
  unfold ownB at ho
  simp only [Bool.and_eq_true, decide_eq_true_eq] at ho
  rcases List.mem_cons.1 hx with rfl | hx
  ·rcases hpl with rfl | rfl <;> omega
  ·cases hx
 generalize vAt xs pp = v at *
 rcases hb : ownB p (1 - player) pp with _ | _
 ·have e : L = [] := by rw [← hL, hb]; rfl
  subst e
  have Hb := Lib.hid hb
  clear hb hL h hp hpl hq ht hn1 hR hs1
  go_enter Try.func111, Try.ntmps111
  go_wp2_with (go_at_call 104; refine (isOther_any p s c l st sk re fe ag player p1 p2 pn1 pc1 pn2 pc2 pp pq pp _ HP.out HPl.out).mono ?_; rintro e w5 ⟨rfl, hb5⟩; rw [Hb.out]; have HC := Lib.hid (HC.out.below hb5); clear hb5; obtain ⟨⟨_, c0, c1, c2, c3, c4, c5, c6, c7, c8, c9, c10, c11, c12, c13⟩, -⟩ := HC.out)
  go_ret
  exact ⟨_, rfl, World.ownsRow_nil _ _ _ _, HC.out.be⟩
 ·have HR := Lib.hid (hR hb)
  have Hb := Lib.hid hb
  have Hs1 := Lib.hid hs1
  by_cases he : v % 2 = 0
  ·have e : L = [pp] := by rw [← hL, hb, decide_eq_true he]; rfl
   subst e
   have t1 : (v % 2 != 0) = false := by simp [he]
   have t2 : (v.tmod 2 != 0) = false := by rw [Int.tmod_eq_emod_of_nonneg HV.1]; exact t1
   clear hb hL h hp hpl hq ht hn1 hR hs1
   go_enter Try.func111, Try.ntmps111
   go_wp2_with (first | (go_at_call 104; refine (isOther_any p s c l st sk re fe ag player p1 p2 pn1 pc1 pn2 pc2 pp pq pp _ HP.out HPl.out).mono ?_; rintro e w5 ⟨rfl, hb5⟩; rw [Hb.out]; have HC := Lib.hid (HC.out.below hb5); clear hb5; obtain ⟨⟨_, c0, c1, c2, c3, c4, c5, c6, c7, c8, c9, c10, c11, c12, c13⟩, -⟩ := HC.out) | (go_at_call 105; refine (seedsIn_any p s c l st sk re fe ag player p1 p2 pn1 pc1 pn2 pc2 pp pq xs ys [pp] _ 1 1 _ ((H0.out.below HC.out.be).alloc _) HQ.out.1 HQ.out.2 HR.out rfl (by omega) (row_1 _ _ _)).mono ?_; rintro e w6 ⟨rfl, hb6⟩; rw [Hs1.out]; have HC := Lib.hid ((HC.out.alloc _).below hb6); clear hb6; obtain ⟨⟨_, c0, c1, c2, c3, c4, c5, c6, c7, c8, c9, c10, c11, c12, c13⟩, -⟩ := HC.out))
   go_ret
   exact ⟨_, rfl, own_1 _ pp _ HC.out.be.size, (HC.out.alloc _).be⟩
  ·have e : L = [] := by rw [← hL, hb, decide_eq_false he]; rfl
   subst e
   have t1 : (v % 2 != 0) = true := by simp [he]
   have t2 : (v.tmod 2 != 0) = true := by rw [Int.tmod_eq_emod_of_nonneg HV.1]; exact t1
   clear hb hL h hp hpl hq ht hn1 hR hs1
   go_enter Try.func111, Try.ntmps111
   go_wp2_with (first | (go_at_call 104; refine (isOther_any p s c l st sk re fe ag player p1 p2 pn1 pc1 pn2 pc2 pp pq pp _ HP.out HPl.out).mono ?_; rintro e w5 ⟨rfl, hb5⟩; rw [Hb.out]; have HC := Lib.hid (HC.out.below hb5); clear hb5; obtain ⟨⟨_, c0, c1, c2, c3, c4, c5, c6, c7, c8, c9, c10, c11, c12, c13⟩, -⟩ := HC.out) | (go_at_call 105; refine (seedsIn_any p s c l st sk re fe ag player p1 p2 pn1 pc1 pn2 pc2 pp pq xs ys [pp] _ 1 1 _ ((H0.out.below HC.out.be).alloc _) HQ.out.1 HQ.out.2 HR.out rfl (by omega) (row_1 _ _ _)).mono ?_; rintro e w6 ⟨rfl, hb6⟩; rw [Hs1.out]; have HC := Lib.hid ((HC.out.alloc _).below hb6); clear hb6; obtain ⟨⟨_, c0, c1, c2, c3, c4, c5, c6, c7, c8, c9, c10, c11, c12, c13⟩, -⟩ := HC.out))
   go_ret
   exact ⟨_, rfl, World.ownsRow_nil _ _ _ _, HC.out.be⟩
theorem cross_any (p s c l : Int) (st sk re fe ag : Bool) (player : Int) (p1 p2 : Option Addr) (pn1 pc1 pn2 pc2 : Nat) (pp pq : Int) (xs ys : List Int) (w : World) (h : PosR w p1 p2 pn1 pn2 xs ys) (hq : posB xs = true) (ht : tot xs ≤ 96) (hok : okR p s c l st ag = true) (hn1 : (pn1 : Int) = 2 * p) (hpl : player = 0 ∨ player = 1) (hl1 : -1 ≤ pp) (hl2 : pp < 2 * p) (L : List Int) (hL : (if ownB p player pp && decide (vAt xs pp = 1) && decide (0 < vAt xs (2 * p - 1 - pp)) then [pp, 2 * p - 1 - pp] else []) = L) :
  Calls Try.prog 110 #[.agg #[.int .i64 p, .int .i64 s, .bool st, .bool sk, .bool re, .bool fe, .bool ag, .int .i64 c, .int .i64 l, .int .i64 player, .slice p1 pn1 pc1, .slice p2 pn2 pc2, .int .i64 pp, .int .i64 pq]] w (OwnP L L.length w) := by
 have HC := Lib.hid (cp_new p s c l st sk re fe ag player p1 p2 pn1 pc1 pn2 pc2 pp pq w 77)
 obtain ⟨⟨_, c0, c1, c2, c3, c4, c5, c6, c7, c8, c9, c10, c11, c12, c13⟩, -⟩ := HC.out
 have H0 := Lib.hid h
 have hbd := okR_bd hok
 have HP : Hid (2 ≤ p ∧ p ≤ 8) := Lib.hid ⟨hbd.1, hbd.2.1⟩
 have HPl := Lib.hid hpl
 have HQ := Lib.hid (And.intro hq ht)
 have HV := vAt_bd hq ht (2 * p - 1 - pp)
 have hs1 := sumAt_one xs pp
 have hs2 := sumAt_one xs (2 * p - 1 - pp)
 have hr0 : (ownB p player pp = true) → 0 ≤ pp := fun ho => by
  unfold ownB at ho
  simp only [Bool.and_eq_true, decide_eq_true_eq] at ho
  rcases hpl with rfl | rfl <;> omega
 generalize vAt xs pp = v at *
 generalize vAt xs (2 * p - 1 - pp) = v2 at *
 rcases hb : ownB p player pp with _ | _
 ·have e : L = [] := by rw [← hL, hb]; rfl
  subst e
  have Hb := Lib.hid hb
  clear hb hL h hbd hok hpl hq ht hn1 hr0 hs1 hs2
  go_enter Try.func110, Try.ntmps110
  go_wp2_with (go_at_call 114; refine (owns_any p s c l st sk re fe ag player pp _ HP.out HPl.out).mono ?_; rintro e w5 ⟨rfl, hb5⟩; rw [Hb.out]; have HC := Lib.hid (HC.out.below hb5); clear hb5; obtain ⟨⟨_, c0, c1, c2, c3, c4, c5, c6, c7, c8, c9, c10, c11, c12, c13⟩, -⟩ := HC.out)
  go_ret
  exact ⟨_, rfl, World.ownsRow_nil _ _ _ _, HC.out.be⟩
 ·have h0 := hr0 hb
  have HR : Hid (∀ x ∈ [pp], 0 ≤ x ∧ x < (pn1 : Int)) := Lib.hid (fun x hx => by
   rcases List.mem_cons.1 hx with rfl | hx
   ·omega
   ·cases hx)
  have HR2 : Hid (∀ x ∈ [2 * p - 1 - pp], 0 ≤ x ∧ x < (pn1 : Int)) := Lib.hid (fun x hx => by
   rcases List.mem_cons.1 hx with rfl | hx
   ·omega
   ·cases hx)
  have hpc : pitC (okR p s c l st ag) p pp = 0 := by rw [hok]; exact pitC_in h0 hl2
  have Hpc := Lib.hid hpc
  have Hpv : Hid (pitV 0 (2 * p - 1 - pp) = 2 * p - 1 - pp) := Lib.hid rfl
  have Hb := Lib.hid hb
  have Hs1 := Lib.hid hs1
  have Hs2 := Lib.hid hs2
  by_cases he : v = 1
  ·have t1 : (v != 1) = false := by simp [he]
   by_cases hz : 0 < v2
   ·have e : L = [pp, 2 * p - 1 - pp] := by rw [← hL, hb, decide_eq_true he, decide_eq_true hz]; rfl
    subst e
    have t2 : (v2 == 0) = false := by simp; omega
    clear hb hL h hbd hok hpl hq ht hn1 hr0 hs1 hs2 hpc he
    go_enter Try.func110, Try.ntmps110
    go_wp2_with (first | (go_at_call 114; refine (owns_any p s c l st sk re fe ag player pp _ HP.out HPl.out).mono ?_; rintro e w5 ⟨rfl, hb5⟩; rw [Hb.out]; have HC := Lib.hid (HC.out.below hb5); clear hb5; obtain ⟨⟨_, c0, c1, c2, c3, c4, c5, c6, c7, c8, c9, c10, c11, c12, c13⟩, -⟩ := HC.out) | (go_at_call 115; refine (impl_opposite p s c l st sk re fe ag pp _).mono ?_; rintro e w7 ⟨rfl, hb7⟩; rw [Hpc.out, Hpv.out]; have HC := Lib.hid (HC.out.below hb7); clear hb7; obtain ⟨⟨_, c0, c1, c2, c3, c4, c5, c6, c7, c8, c9, c10, c11, c12, c13⟩, -⟩ := HC.out) | (go_at_call 105; refine (seedsIn_any p s c l st sk re fe ag player p1 p2 pn1 pc1 pn2 pc2 pp pq xs ys [2 * p - 1 - pp] _ 1 1 _ ((H0.out.below HC.out.be).alloc _) HQ.out.1 HQ.out.2 HR2.out rfl (by omega) (row_1 _ _ _)).mono ?_; rintro e w8 ⟨rfl, hb8⟩; rw [Hs2.out]; have HC := Lib.hid ((HC.out.alloc _).below hb8); clear hb8; obtain ⟨⟨_, c0, c1, c2, c3, c4, c5, c6, c7, c8, c9, c10, c11, c12, c13⟩, -⟩ := HC.out) | (go_at_call 105; refine (seedsIn_any p s c l st sk re fe ag player p1 p2 pn1 pc1 pn2 pc2 pp pq xs ys [pp] _ 1 1 _ ((H0.out.below HC.out.be).alloc _) HQ.out.1 HQ.out.2 HR.out rfl (by omega) (row_1 _ _ _)).mono ?_; rintro e w6 ⟨rfl, hb6⟩; rw [Hs1.out]; have HC := Lib.hid ((HC.out.alloc _).below hb6); clear hb6; obtain ⟨⟨_, c0, c1, c2, c3, c4, c5, c6, c7, c8, c9, c10, c11, c12, c13⟩, -⟩ := HC.out))
    go_ret
    exact ⟨_, rfl, own_2 _ pp _ _ HC.out.be.size, (HC.out.alloc _).be⟩
   ·have e : L = [] := by rw [← hL, hb, decide_eq_true he, decide_eq_false hz]; rfl
    subst e
    have t2 : (v2 == 0) = true := by simp; omega
    clear hb hL h hbd hok hpl hq ht hn1 hr0 hs1 hs2 hpc he
    go_enter Try.func110, Try.ntmps110
    go_wp2_with (first | (go_at_call 114; refine (owns_any p s c l st sk re fe ag player pp _ HP.out HPl.out).mono ?_; rintro e w5 ⟨rfl, hb5⟩; rw [Hb.out]; have HC := Lib.hid (HC.out.below hb5); clear hb5; obtain ⟨⟨_, c0, c1, c2, c3, c4, c5, c6, c7, c8, c9, c10, c11, c12, c13⟩, -⟩ := HC.out) | (go_at_call 115; refine (impl_opposite p s c l st sk re fe ag pp _).mono ?_; rintro e w7 ⟨rfl, hb7⟩; rw [Hpc.out, Hpv.out]; have HC := Lib.hid (HC.out.below hb7); clear hb7; obtain ⟨⟨_, c0, c1, c2, c3, c4, c5, c6, c7, c8, c9, c10, c11, c12, c13⟩, -⟩ := HC.out) | (go_at_call 105; refine (seedsIn_any p s c l st sk re fe ag player p1 p2 pn1 pc1 pn2 pc2 pp pq xs ys [2 * p - 1 - pp] _ 1 1 _ ((H0.out.below HC.out.be).alloc _) HQ.out.1 HQ.out.2 HR2.out rfl (by omega) (row_1 _ _ _)).mono ?_; rintro e w8 ⟨rfl, hb8⟩; rw [Hs2.out]; have HC := Lib.hid ((HC.out.alloc _).below hb8); clear hb8; obtain ⟨⟨_, c0, c1, c2, c3, c4, c5, c6, c7, c8, c9, c10, c11, c12, c13⟩, -⟩ := HC.out) | (go_at_call 105; refine (seedsIn_any p s c l st sk re fe ag player p1 p2 pn1 pc1 pn2 pc2 pp pq xs ys [pp] _ 1 1 _ ((H0.out.below HC.out.be).alloc _) HQ.out.1 HQ.out.2 HR.out rfl (by omega) (row_1 _ _ _)).mono ?_; rintro e w6 ⟨rfl, hb6⟩; rw [Hs1.out]; have HC := Lib.hid ((HC.out.alloc _).below hb6); clear hb6; obtain ⟨⟨_, c0, c1, c2, c3, c4, c5, c6, c7, c8, c9, c10, c11, c12, c13⟩, -⟩ := HC.out))
    go_ret
    exact ⟨_, rfl, World.ownsRow_nil _ _ _ _, HC.out.be⟩
  ·have t1 : (v != 1) = true := by simp [he]
   have e : L = [] := by rw [← hL, hb, decide_eq_false he]; rfl
   subst e
   clear hb hL h hbd hok hpl hq ht hn1 hr0 hs1 hs2 hpc he
   go_enter Try.func110, Try.ntmps110
   go_wp2_with (first | (go_at_call 114; refine (owns_any p s c l st sk re fe ag player pp _ HP.out HPl.out).mono ?_; rintro e w5 ⟨rfl, hb5⟩; rw [Hb.out]; have HC := Lib.hid (HC.out.below hb5); clear hb5; obtain ⟨⟨_, c0, c1, c2, c3, c4, c5, c6, c7, c8, c9, c10, c11, c12, c13⟩, -⟩ := HC.out) | (go_at_call 105; refine (seedsIn_any p s c l st sk re fe ag player p1 p2 pn1 pc1 pn2 pc2 pp pq xs ys [pp] _ 1 1 _ ((H0.out.below HC.out.be).alloc _) HQ.out.1 HQ.out.2 HR.out rfl (by omega) (row_1 _ _ _)).mono ?_; rintro e w6 ⟨rfl, hb6⟩; rw [Hs1.out]; have HC := Lib.hid ((HC.out.alloc _).below hb6); clear hb6; obtain ⟨⟨_, c0, c1, c2, c3, c4, c5, c6, c7, c8, c9, c10, c11, c12, c13⟩, -⟩ := HC.out))
   go_ret
   exact ⟨_, rfl, World.ownsRow_nil _ _ _ _, HC.out.be⟩
/- Cap10 -/
def KnAt (w : World) (p s c l : Int) (st sk re fe ag : Bool) (player : Int) (p1 p2 : Option Addr) (pn1 pc1 pn2 pc2 : Nat) (pp pq : Int) (u : World) : Prop := CpAt w p s c l st sk re fe ag player p1 p2 pn1 pc1 pn2 pc2 pp pq u ∧ (w.heap.size + 1 < u.heap.size ∧ u.cell? ⟨w.heap.size + 1, 0, none⟩ = some (.func (.func 108) #[] #[]) ∧ u.cell? ⟨w.heap.size + 1, 1, none⟩ = some (.func (.func 109) #[] #[]) ∧ u.cell? ⟨w.heap.size + 1, 2, none⟩ = some (.func (.func 110) #[] #[]) ∧ u.cell? ⟨w.heap.size + 1, 3, none⟩ = some (.func (.func 111) #[] #[]))
section
variable {w u v : World} {p s c l player : Int} {st sk re fe ag : Bool} {p1 p2 : Option Addr} {pn1 pc1 pn2 pc2 : Nat} {pp pq : Int}
theorem KnAt.below (h : KnAt w p s c l st sk re fe ag player p1 p2 pn1 pc1 pn2 pc2 pp pq u) (k : Below u.heap.size u v) : KnAt w p s c l st sk re fe ag player p1 p2 pn1 pc1 pn2 pc2 pp pq v := by
 obtain ⟨h1, hb, h⟩ := h
 have e := fun o => k.cell (p := ⟨w.heap.size + 1, o, none⟩) hb
 exact ⟨h1.below k, Nat.lt_of_lt_of_le hb k.size, by rw [e, e, e, e]; exact h⟩
theorem KnAt.drew (h : KnAt w p s c l st sk re fe ag player p1 p2 pn1 pc1 pn2 pc2 pp pq u) : KnAt w p s c l st sk re fe ag player p1 p2 pn1 pc1 pn2 pc2 pp pq u.drew := ⟨h.1.drew, h.2⟩
end
theorem kn_new {w u : World} {p s c l player : Int} {st sk re fe ag : Bool} {p1 p2 : Option Addr} {pn1 pc1 pn2 pc2 : Nat} {pp pq : Int} (T : TypeId) (h : CpAt w p s c l st sk re fe ag player p1 p2 pn1 pc1 pn2 pc2 pp pq u) (hs : u.heap.size = w.heap.size + 1) : KnAt w p s c l st sk re fe ag player p1 p2 pn1 pc1 pn2 pc2 pp pq (u.alloc (.cells #[.func (.func 108) #[] #[], .func (.func 109) #[] #[], .func (.func 110) #[] #[], .func (.func 111) #[] #[]] T)) := by
 refine ⟨h.alloc _, ?_⟩
 rw [← hs]
 exact ⟨by simp, by go_simp, by go_simp, by go_simp, by go_simp⟩
theorem raw_any0 (p s c l : Int) (st sk re fe ag : Bool) (player : Int) (p1 p2 : Option Addr) (pn1 pc1 pn2 pc2 : Nat) (pp pq : Int) (w : World) (hc : c = 0) (L : List Int)
  (hf : ∀ u, Below w.heap.size w u → Calls Try.prog 108 #[.agg #[.int .i64 p, .int .i64 s, .bool st, .bool sk, .bool re, .bool fe, .bool ag, .int .i64 c, .int .i64 l, .int .i64 player, .slice p1 pn1 pc1, .slice p2 pn2 pc2, .int .i64 pp, .int .i64 pq]] u (OwnP L L.length u)) :
  Calls Try.prog 93 #[.agg #[.int .i64 p, .int .i64 s, .bool st, .bool sk, .bool re, .bool fe, .bool ag, .int .i64 c, .int .i64 l, .int .i64 player, .slice p1 pn1 pc1, .slice p2 pn2 pc2, .int .i64 pp, .int .i64 pq]] w (OwnP L L.length w) := by
 subst hc
 have HF := Lib.hid hf
 have HC := Lib.hid (cp_new p s 0 l st sk re fe ag player p1 p2 pn1 pc1 pn2 pc2 pp pq w 77)
 have HX := Lib.hid (kn_new 139 HC.out (by simp))
 obtain ⟨⟨_, c0, c1, c2, c3, c4, c5, c6, c7, c8, c9, c10, c11, c12, c13⟩, -⟩ := HC.out
 clear hf
 go_enter Try.func93, Try.ntmps93
 go_wp2_with fail
 go_region_held3 (fun u => ((w.heap.size < u.heap.size ∧ u.cell? ⟨w.heap.size, 0, none⟩ = some (.int .i64 p) ∧ u.cell? ⟨w.heap.size, 1, none⟩ = some (.int .i64 s) ∧ u.cell? ⟨w.heap.size, 2, none⟩ = some (.bool st) ∧ u.cell? ⟨w.heap.size, 3, none⟩ = some (.bool sk) ∧ u.cell? ⟨w.heap.size, 4, none⟩ = some (.bool re) ∧ u.cell? ⟨w.heap.size, 5, none⟩ = some (.bool fe) ∧ u.cell? ⟨w.heap.size, 6, none⟩ = some (.bool ag) ∧ u.cell? ⟨w.heap.size, 7, none⟩ = some (.int .i64 0) ∧ u.cell? ⟨w.heap.size, 8, none⟩ = some (.int .i64 l) ∧ u.cell? ⟨w.heap.size, 9, none⟩ = some (.int .i64 player) ∧ u.cell? ⟨w.heap.size, 10, none⟩ = some (.slice p1 pn1 pc1) ∧ u.cell? ⟨w.heap.size, 11, none⟩ = some (.slice p2 pn2 pc2) ∧ u.cell? ⟨w.heap.size, 12, none⟩ = some (.int .i64 pp) ∧ u.cell? ⟨w.heap.size, 13, none⟩ = some (.int .i64 pq)) ∧ Below w.heap.size w u) ∧ (w.heap.size + 1 < u.heap.size ∧ u.cell? ⟨w.heap.size + 1, 0, none⟩ = some (.func (.func 108) #[] #[]) ∧ u.cell? ⟨w.heap.size + 1, 1, none⟩ = some (.func (.func 109) #[] #[]) ∧ u.cell? ⟨w.heap.size + 1, 2, none⟩ = some (.func (.func 110) #[] #[]) ∧ u.cell? ⟨w.heap.size + 1, 3, none⟩ = some (.func (.func 111) #[] #[]))) (first | exact HX.out | exact HX.out.drew)
  ((go_at_call 108; refine (HF.out _ (by first | exact HX.out.1.be | exact HX.out.drew.1.be)).mono ?_; rintro e w5 ⟨v, rfl, hown, hb5⟩; have HO := Lib.hid (own_lower hown (by have h1 := HX.out.1.be.size; exact h1)); have HX := Lib.hid (by first | exact HX.out.below hb5 | exact HX.out.drew.below hb5 : KnAt w p s 0 l st sk re fe ag player p1 p2 pn1 pc1 pn2 pc2 pp pq w5); clear hown hb5))
 go_wp2_with fail
 go_ret
 exact ⟨_, rfl, HO.out, HX.out.1.be⟩
theorem raw_any1 (p s c l : Int) (st sk re fe ag : Bool) (player : Int) (p1 p2 : Option Addr) (pn1 pc1 pn2 pc2 : Nat) (pp pq : Int) (w : World) (hc : c = 1) (L : List Int)
  (hf : ∀ u, Below w.heap.size w u → Calls Try.prog 109 #[.agg #[.int .i64 p, .int .i64 s, .bool st, .bool sk, .bool re, .bool fe, .bool ag, .int .i64 c, .int .i64 l, .int .i64 player, .slice p1 pn1 pc1, .slice p2 pn2 pc2, .int .i64 pp, .int .i64 pq]] u (OwnP L L.length u)) :
  Calls Try.prog 93 #[.agg #[.int .i64 p, .int .i64 s, .bool st, .bool sk, .bool re, .bool fe, .bool ag, .int .i64 c, .int .i64 l, .int .i64 player, .slice p1 pn1 pc1, .slice p2 pn2 pc2, .int .i64 pp, .int .i64 pq]] w (OwnP L L.length w) := by
 subst hc
 have HF := Lib.hid hf
 have HC := Lib.hid (cp_new p s 1 l st sk re fe ag player p1 p2 pn1 pc1 pn2 pc2 pp pq w 77)
 have HX := Lib.hid (kn_new 139 HC.out (by simp))
 obtain ⟨⟨_, c0, c1, c2, c3, c4, c5, c6, c7, c8, c9, c10, c11, c12, c13⟩, -⟩ := HC.out
 clear hf
 go_enter Try.func93, Try.ntmps93
 go_wp2_with fail
 go_region_held3 (fun u => ((w.heap.size < u.heap.size ∧ u.cell? ⟨w.heap.size, 0, none⟩ = some (.int .i64 p) ∧ u.cell? ⟨w.heap.size, 1, none⟩ = some (.int .i64 s) ∧ u.cell? ⟨w.heap.size, 2, none⟩ = some (.bool st) ∧ u.cell? ⟨w.heap.size, 3, none⟩ = some (.bool sk) ∧ u.cell? ⟨w.heap.size, 4, none⟩ = some (.bool re) ∧ u.cell? ⟨w.heap.size, 5, none⟩ = some (.bool fe) ∧ u.cell? ⟨w.heap.size, 6, none⟩ = some (.bool ag) ∧ u.cell? ⟨w.heap.size, 7, none⟩ = some (.int .i64 1) ∧ u.cell? ⟨w.heap.size, 8, none⟩ = some (.int .i64 l) ∧ u.cell? ⟨w.heap.size, 9, none⟩ = some (.int .i64 player) ∧ u.cell? ⟨w.heap.size, 10, none⟩ = some (.slice p1 pn1 pc1) ∧ u.cell? ⟨w.heap.size, 11, none⟩ = some (.slice p2 pn2 pc2) ∧ u.cell? ⟨w.heap.size, 12, none⟩ = some (.int .i64 pp) ∧ u.cell? ⟨w.heap.size, 13, none⟩ = some (.int .i64 pq)) ∧ Below w.heap.size w u) ∧ (w.heap.size + 1 < u.heap.size ∧ u.cell? ⟨w.heap.size + 1, 0, none⟩ = some (.func (.func 108) #[] #[]) ∧ u.cell? ⟨w.heap.size + 1, 1, none⟩ = some (.func (.func 109) #[] #[]) ∧ u.cell? ⟨w.heap.size + 1, 2, none⟩ = some (.func (.func 110) #[] #[]) ∧ u.cell? ⟨w.heap.size + 1, 3, none⟩ = some (.func (.func 111) #[] #[]))) (first | exact HX.out | exact HX.out.drew)
  ((go_at_call 109; refine (HF.out _ (by first | exact HX.out.1.be | exact HX.out.drew.1.be)).mono ?_; rintro e w5 ⟨v, rfl, hown, hb5⟩; have HO := Lib.hid (own_lower hown (by have h1 := HX.out.1.be.size; exact h1)); have HX := Lib.hid (by first | exact HX.out.below hb5 | exact HX.out.drew.below hb5 : KnAt w p s 1 l st sk re fe ag player p1 p2 pn1 pc1 pn2 pc2 pp pq w5); clear hown hb5))
 go_wp2_with fail
 go_ret
 exact ⟨_, rfl, HO.out, HX.out.1.be⟩
theorem raw_any2 (p s c l : Int) (st sk re fe ag : Bool) (player : Int) (p1 p2 : Option Addr) (pn1 pc1 pn2 pc2 : Nat) (pp pq : Int) (w : World) (hc : c = 2) (L : List Int)
  (hf : ∀ u, Below w.heap.size w u → Calls Try.prog 110 #[.agg #[.int .i64 p, .int .i64 s, .bool st, .bool sk, .bool re, .bool fe, .bool ag, .int .i64 c, .int .i64 l, .int .i64 player, .slice p1 pn1 pc1, .slice p2 pn2 pc2, .int .i64 pp, .int .i64 pq]] u (OwnP L L.length u)) :
  Calls Try.prog 93 #[.agg #[.int .i64 p, .int .i64 s, .bool st, .bool sk, .bool re, .bool fe, .bool ag, .int .i64 c, .int .i64 l, .int .i64 player, .slice p1 pn1 pc1, .slice p2 pn2 pc2, .int .i64 pp, .int .i64 pq]] w (OwnP L L.length w) := by
 subst hc
 have HF := Lib.hid hf
 have HC := Lib.hid (cp_new p s 2 l st sk re fe ag player p1 p2 pn1 pc1 pn2 pc2 pp pq w 77)
 have HX := Lib.hid (kn_new 139 HC.out (by simp))
 obtain ⟨⟨_, c0, c1, c2, c3, c4, c5, c6, c7, c8, c9, c10, c11, c12, c13⟩, -⟩ := HC.out
 clear hf
 go_enter Try.func93, Try.ntmps93
 go_wp2_with fail
 go_region_held3 (fun u => ((w.heap.size < u.heap.size ∧ u.cell? ⟨w.heap.size, 0, none⟩ = some (.int .i64 p) ∧ u.cell? ⟨w.heap.size, 1, none⟩ = some (.int .i64 s) ∧ u.cell? ⟨w.heap.size, 2, none⟩ = some (.bool st) ∧ u.cell? ⟨w.heap.size, 3, none⟩ = some (.bool sk) ∧ u.cell? ⟨w.heap.size, 4, none⟩ = some (.bool re) ∧ u.cell? ⟨w.heap.size, 5, none⟩ = some (.bool fe) ∧ u.cell? ⟨w.heap.size, 6, none⟩ = some (.bool ag) ∧ u.cell? ⟨w.heap.size, 7, none⟩ = some (.int .i64 2) ∧ u.cell? ⟨w.heap.size, 8, none⟩ = some (.int .i64 l) ∧ u.cell? ⟨w.heap.size, 9, none⟩ = some (.int .i64 player) ∧ u.cell? ⟨w.heap.size, 10, none⟩ = some (.slice p1 pn1 pc1) ∧ u.cell? ⟨w.heap.size, 11, none⟩ = some (.slice p2 pn2 pc2) ∧ u.cell? ⟨w.heap.size, 12, none⟩ = some (.int .i64 pp) ∧ u.cell? ⟨w.heap.size, 13, none⟩ = some (.int .i64 pq)) ∧ Below w.heap.size w u) ∧ (w.heap.size + 1 < u.heap.size ∧ u.cell? ⟨w.heap.size + 1, 0, none⟩ = some (.func (.func 108) #[] #[]) ∧ u.cell? ⟨w.heap.size + 1, 1, none⟩ = some (.func (.func 109) #[] #[]) ∧ u.cell? ⟨w.heap.size + 1, 2, none⟩ = some (.func (.func 110) #[] #[]) ∧ u.cell? ⟨w.heap.size + 1, 3, none⟩ = some (.func (.func 111) #[] #[]))) (first | exact HX.out | exact HX.out.drew)
  ((go_at_call 110; refine (HF.out _ (by first | exact HX.out.1.be | exact HX.out.drew.1.be)).mono ?_; rintro e w5 ⟨v, rfl, hown, hb5⟩; have HO := Lib.hid (own_lower hown (by have h1 := HX.out.1.be.size; exact h1)); have HX := Lib.hid (by first | exact HX.out.below hb5 | exact HX.out.drew.below hb5 : KnAt w p s 2 l st sk re fe ag player p1 p2 pn1 pc1 pn2 pc2 pp pq w5); clear hown hb5))
 go_wp2_with fail
 go_ret
 exact ⟨_, rfl, HO.out, HX.out.1.be⟩
theorem raw_any3 (p s c l : Int) (st sk re fe ag : Bool) (player : Int) (p1 p2 : Option Addr) (pn1 pc1 pn2 pc2 : Nat) (pp pq : Int) (w : World) (hc : c = 3) (L : List Int)
  (hf : ∀ u, Below w.heap.size w u → Calls Try.prog 111 #[.agg #[.int .i64 p, .int .i64 s, .bool st, .bool sk, .bool re, .bool fe, .bool ag, .int .i64 c, .int .i64 l, .int .i64 player, .slice p1 pn1 pc1, .slice p2 pn2 pc2, .int .i64 pp, .int .i64 pq]] u (OwnP L L.length u)) :
  Calls Try.prog 93 #[.agg #[.int .i64 p, .int .i64 s, .bool st, .bool sk, .bool re, .bool fe, .bool ag, .int .i64 c, .int .i64 l, .int .i64 player, .slice p1 pn1 pc1, .slice p2 pn2 pc2, .int .i64 pp, .int .i64 pq]] w (OwnP L L.length w) := by
 subst hc
 have HF := Lib.hid hf
 have HC := Lib.hid (cp_new p s 3 l st sk re fe ag player p1 p2 pn1 pc1 pn2 pc2 pp pq w 77)
 have HX := Lib.hid (kn_new 139 HC.out (by simp))
 obtain ⟨⟨_, c0, c1, c2, c3, c4, c5, c6, c7, c8, c9, c10, c11, c12, c13⟩, -⟩ := HC.out
 clear hf
 go_enter Try.func93, Try.ntmps93
 go_wp2_with fail
 go_region_held3 (fun u => ((w.heap.size < u.heap.size ∧ u.cell? ⟨w.heap.size, 0, none⟩ = some (.int .i64 p) ∧ u.cell? ⟨w.heap.size, 1, none⟩ = some (.int .i64 s) ∧ u.cell? ⟨w.heap.size, 2, none⟩ = some (.bool st) ∧ u.cell? ⟨w.heap.size, 3, none⟩ = some (.bool sk) ∧ u.cell? ⟨w.heap.size, 4, none⟩ = some (.bool re) ∧ u.cell? ⟨w.heap.size, 5, none⟩ = some (.bool fe) ∧ u.cell? ⟨w.heap.size, 6, none⟩ = some (.bool ag) ∧ u.cell? ⟨w.heap.size, 7, none⟩ = some (.int .i64 3) ∧ u.cell? ⟨w.heap.size, 8, none⟩ = some (.int .i64 l) ∧ u.cell? ⟨w.heap.size, 9, none⟩ = some (.int .i64 player) ∧ u.cell? ⟨w.heap.size, 10, none⟩ = some (.slice p1 pn1 pc1) ∧ u.cell? ⟨w.heap.size, 11, none⟩ = some (.slice p2 pn2 pc2) ∧ u.cell? ⟨w.heap.size, 12, none⟩ = some (.int .i64 pp) ∧ u.cell? ⟨w.heap.size, 13, none⟩ = some (.int .i64 pq)) ∧ Below w.heap.size w u) ∧ (w.heap.size + 1 < u.heap.size ∧ u.cell? ⟨w.heap.size + 1, 0, none⟩ = some (.func (.func 108) #[] #[]) ∧ u.cell? ⟨w.heap.size + 1, 1, none⟩ = some (.func (.func 109) #[] #[]) ∧ u.cell? ⟨w.heap.size + 1, 2, none⟩ = some (.func (.func 110) #[] #[]) ∧ u.cell? ⟨w.heap.size + 1, 3, none⟩ = some (.func (.func 111) #[] #[]))) (first | exact HX.out | exact HX.out.drew)
  ((go_at_call 111; refine (HF.out _ (by first | exact HX.out.1.be | exact HX.out.drew.1.be)).mono ?_; rintro e w5 ⟨v, rfl, hown, hb5⟩; have HO := Lib.hid (own_lower hown (by have h1 := HX.out.1.be.size; exact h1)); have HX := Lib.hid (by first | exact HX.out.below hb5 | exact HX.out.drew.below hb5 : KnAt w p s 3 l st sk re fe ag player p1 p2 pn1 pc1 pn2 pc2 pp pq w5); clear hown hb5))
 go_wp2_with fail
 go_ret
 exact ⟨_, rfl, HO.out, HX.out.1.be⟩
def offH (o P : Nat) (player : Int) : Nat := if player = 0 then o else o + P
def capH (o P : Nat) (player : Int) : Nat := if player = 0 then o else o - P
theorem row_half {w : World} {g o : Nat} {xs : List Int} {P : Nat} {player : Int} (h : RowN w (some ⟨g, o, none⟩) xs) (hne : xs ≠ []) (hpl : player = 0 ∨ player = 1) : RowN w (some ⟨g, offH o P player, none⟩) (halfL xs P player) := by
 rcases hpl with rfl | rfl
 ·have := h.part hne 0 P
  rw [Nat.add_zero] at this
  unfold halfL
  simpa [offH] using this
 ·have := h.part hne P P
  unfold halfL
  simpa [offH] using this
theorem side_d0 (P : Nat) (s c l : Int) (st sk re fe ag : Bool) (g o : Nat) (p2 : Option Addr) (pc1 pn2 pc2 : Nat) (pp : Int) (player : Int) (w : World) (hP : 2 ≤ P) (hP2 : P ≤ 8) (hc : 2 * P ≤ pc1) (hp : player = 0 ∨ player = 1) :
  Calls Try.prog 107 #[.agg #[.slice (some ⟨g, o, none⟩) (2 * P) pc1, .slice p2 pn2 pc2, .int .i64 pp], .agg #[.int .i64 P, .int .i64 s, .bool st, .bool sk, .bool re, .bool fe, .bool ag, .int .i64 c, .int .i64 l], .int .i64 player] w fun e w' =>
   e = .returned (.slice (some ⟨g, offH o P player, none⟩) P (capH pc1 P player)) ∧ Below w.heap.size w w' := by
 have BB := Lib.hid (((Below.refl w.heap.size w).alloc (Nat.le_refl _) (.cells #[.slice (some ⟨g, o, none⟩) (2 * P) pc1, .slice p2 pn2 pc2, .int .i64 pp] 32)).alloc (by simp) (.cells #[.int .i64 P, .int .i64 s, .bool st, .bool sk, .bool re, .bool fe, .bool ag, .int .i64 c, .int .i64 l] 31))
 rcases hp with rfl | rfl
 ·go_enter Try.func107, Try.ntmps107
  go_wp2
  go_ret
  exact ⟨rfl, BB.out⟩
 ·have he : 2 * P - P = P := by omega
  have HE := Lib.hid he
  clear he
  go_enter Try.func107, Try.ntmps107
  go_wp2
  go_ret
  refine ⟨?_, BB.out⟩
  show Ending.returned (.slice (some ⟨g, o + P, none⟩) (2 * P - P) (pc1 - P)) = _
  rw [HE.out]
  rfl
theorem side_d (p s c l : Int) (st sk re fe ag : Bool) (p1 p2 : Option Addr) (pn1 pc1 pn2 pc2 : Nat) (pp : Int) (g o : Nat) (player : Int) (w : World) (hp1 : p1 = some ⟨g, o, none⟩) (hp : 2 ≤ p ∧ p ≤ 8) (h2 : (pn1 : Int) = 2 * p) (hc : pn1 ≤ pc1) (hpl : player = 0 ∨ player = 1) :
  Calls Try.prog 107 #[.agg #[.slice p1 pn1 pc1, .slice p2 pn2 pc2, .int .i64 pp], .agg #[.int .i64 p, .int .i64 s, .bool st, .bool sk, .bool re, .bool fe, .bool ag, .int .i64 c, .int .i64 l], .int .i64 player] w fun e w' => e = .returned (.slice (some ⟨g, offH o p.toNat player, none⟩) p.toNat (capH pc1 p.toNat player)) ∧ Below w.heap.size w w' := by
 obtain ⟨P, rfl⟩ : ∃ P : Nat, p = (P : Int) := ⟨p.toNat, by omega⟩
 rw [Int.toNat_natCast]
 subst hp1
 obtain rfl : pn1 = 2 * P := by omega
 exact side_d0 P s c l st sk re fe ag g o p2 pc1 pn2 pc2 pp player w (by omega) (by omega) hc hpl
theorem isSlam_any (p s c l : Int) (st sk re fe ag : Bool) (player : Int) (p1 p2 : Option Addr) (pn1 pc1 pn2 pc2 : Nat) (pp pq : Int) (xs ys L : List Int) (a : Option Addr) (cc n : Nat) (w : World) (h : PosR w p1 p2 pn1 pn2 xs ys) (hq : posB xs = true) (ht : tot xs ≤ 96) (hp : 2 ≤ p ∧ p ≤ 8) (hn1 : (pn1 : Int) = 2 * p) (hpl : player = 0 ∨ player = 1) (hL : ∀ k ∈ L, 0 ≤ k ∧ k < (pn1 : Int)) (hn : L.length = n) (hn16 : n ≤ 1000) (ha : RowN w a L) (hcap : pn1 ≤ pc1) :
    Calls Try.prog 92 #[.agg #[.int .i64 p, .int .i64 s, .bool st, .bool sk, .bool re, .bool fe, .bool ag, .int .i64 c, .int .i64 l, .int .i64 player, .slice p1 pn1 pc1, .slice p2 pn2 pc2, .int .i64 pp, .int .i64 pq], .slice a n cc] w fun e w' => e = .returned (.bool (slamB p player xs L)) ∧ Below w.heap.size w w' := by
  have HC := Lib.hid (cp_new p s c l st sk re fe ag player p1 p2 pn1 pc1 pn2 pc2 pp pq w 77)
  obtain ⟨⟨_, c0, c1, c2, c3, c4, c5, c6, c7, c8, c9, c10, c11, c12, c13⟩, -⟩ := HC.out
  have H0 := Lib.hid h
  have HA := Lib.hid ha
  have HP := Lib.hid hp
  have HPl0 := Lib.hid hpl
  have HPl : Hid (1 - player = 0 ∨ 1 - player = 1) := Lib.hid (by omega)
  have HQ := Lib.hid (And.intro hq ht)
  have Hn1 := Lib.hid hn1
  have Hcap := Lib.hid hcap
  have HL1 := Lib.hid h.l1
  have hlp : xs.length = 2 * p.toNat := by have := h.l1; omega
  have HLh := Lib.hid (half_len hlp HPl.out)
  have hht := half_tot hlp HPl.out hq
  have HH : Hid (posB (halfL xs p.toNat (1 - player)) = true ∧ tot (halfL xs p.toNat (1 - player)) ≤ 96) := Lib.hid ⟨hht.1, by omega⟩
  have hw1 : IntKind.i64.wrap (1 - player) = 1 - player := IntWalk.i64_in _ ⟨by omega, by omega⟩
  have HLn := Lib.hid (And.intro hL hn)
  have hnex : xs ≠ [] := by intro e; have := h.l1; subst e; simp at this; omega
  obtain ⟨gx, ox, hgx, -⟩ := h.r1.2.resolve_left hnex
  have HG := Lib.hid hgx
  have HRow : Hid (∀ u, Below w.heap.size w u → RowN u (some ⟨gx, offH ox p.toNat (1 - player), none⟩) (halfL xs p.toNat (1 - player))) := Lib.hid (fun u hu => row_half (by rw [← HG.out]; exact (H0.out.below hu).r1) hnex HPl.out)
  clear hnex hgx
  clear h ha hp hpl hq ht hn1 hcap hlp hht hL hn
  go_enter Try.func92, Try.ntmps92
  go_wp2_with fail
  generalize w.alloc (.cells #[.int .i64 p, .int .i64 s, .bool st, .bool sk, .bool re, .bool fe, .bool ag, .int .i64 c, .int .i64 l, .int .i64 player, .slice p1 pn1 pc1, .slice p2 pn2 pc2, .int .i64 pp, .int .i64 pq] 77) = w1 at *
  clear c0 c1 c2 c3 c4 c5 c6 c7 c8 c9 c10 c11 c12 c13
  go_loopw [5, 10] (fun s0 i wr => ∃ (k : Nat) (t : Int), k ≤ n ∧ i = .int .i64 k ∧ s0 = .int .i64 t ∧ t = takenF p player xs (L.take k) ∧ CpAt w p s c l st sk re fe ag player p1 p2 pn1 pc1 pn2 pc2 pp pq wr) (fun _ i _ => n - (intOf i).toNat)
  case atStart => exact ⟨0, 0, Nat.zero_le _, rfl, rfl, rfl, HC.out⟩
  case round =>
    obtain ⟨k, t, hk, rfl, rfl, ht', hC⟩ := hrel
    have hb := taken_bd HQ.out.1 HQ.out.2 p player (L.take k)
    rw [← ht', List.length_take] at hb
    obtain ⟨b0, b1⟩ := hb
    have b2 : t ≤ 96 * 1000 := by omega
    have Ht := Lib.hid ht'
    have HC := Lib.hid hC
    obtain ⟨⟨_, c0, c1, c2, c3, c4, c5, c6, c7, c8, c9, c10, c11, c12, c13⟩, -⟩ := hC
    clear ht' b1
    by_cases hlt : k < n
    · obtain ⟨q, hq⟩ : ∃ q, L[k]? = some q := ⟨L[k]'(by rw [HLn.out.2]; exact hlt), List.getElem?_eq_getElem _⟩
      obtain ⟨q0, q1⟩ := HLn.out.1 q (List.mem_of_getElem? hq)
      obtain ⟨Q, rfl⟩ : ∃ Q : Nat, q = (Q : Int) := ⟨q.toNat, by omega⟩
      have hne : L ≠ [] := by intro e; subst e; cases hq
      obtain ⟨ga, oa, rfl, hga, hca⟩ := (HA.out.below HC.out.be).2.resolve_left hne
      have ya := hca k _ hq
      have HV := vAt_bd HQ.out.1 HQ.out.2 (Q : Int)
      obtain ⟨v1, v2⟩ := HV
      have HR : Hid (∀ x ∈ [(Q : Int)], 0 ≤ x ∧ x < (pn1 : Int)) := Lib.hid (fun x hx => by
        rcases List.mem_cons.1 hx with rfl | hx
        · omega
        · cases hx)
      have hs1 := sumAt_one xs (Q : Int)
      have hst := taken_snoc p player xs (L.take k) (Q : Int)
      rw [← take_next hq, ← Ht.out] at hst
      have k0 : (0 : Int) ≤ (k : Int) := by omega
      have k1 : (k : Int) < (n : Int) := by omega
      clear hca hq hne
      generalize vAt xs (Q : Int) = v at *
      have Hs1 := Lib.hid hs1
      rcases hb : ownB p (1 - player) (Q : Int) with _ | _
      · rw [hb] at hst
        have Hst := Lib.hid hst
        have Hb := Lib.hid hb
        clear hst hb hs1
        go_wp2_with (first | (go_at_call 104; refine (isOther_any p s c l st sk re fe ag player p1 p2 pn1 pc1 pn2 pc2 pp pq (Q : Int) _ HP.out HPl0.out).mono ?_; rintro e w5 ⟨rfl, hb5⟩; rw [Hb.out]; have HC := Lib.hid (HC.out.below hb5); clear hb5; obtain ⟨⟨_, c0, c1, c2, c3, c4, c5, c6, c7, c8, c9, c10, c11, c12, c13⟩, -⟩ := HC.out) | (go_at_call 105; refine (seedsIn_any p s c l st sk re fe ag player p1 p2 pn1 pc1 pn2 pc2 pp pq xs ys [(Q : Int)] _ 1 1 _ ((H0.out.below HC.out.be).alloc _) HQ.out.1 HQ.out.2 HR.out rfl (by omega) (row_1 _ _ _)).mono ?_; rintro e w6 ⟨rfl, hb6⟩; rw [Hs1.out]; have HC := Lib.hid ((HC.out.alloc _).below hb6); clear hb6; obtain ⟨⟨_, c0, c1, c2, c3, c4, c5, c6, c7, c8, c9, c10, c11, c12, c13⟩, -⟩ := HC.out))
        go_roundw
        case rel => exact ⟨k + 1, t, by omega, by go_num, rfl, by rw [Hst.out]; simp, HC.out⟩
        case measure => simp [intOf]; omega
      · rw [hb, if_pos rfl] at hst
        have Hst := Lib.hid hst
        have Hb := Lib.hid hb
        clear hst hb hs1
        go_wp2_with (first | (go_at_call 104; refine (isOther_any p s c l st sk re fe ag player p1 p2 pn1 pc1 pn2 pc2 pp pq (Q : Int) _ HP.out HPl0.out).mono ?_; rintro e w5 ⟨rfl, hb5⟩; rw [Hb.out]; have HC := Lib.hid (HC.out.below hb5); clear hb5; obtain ⟨⟨_, c0, c1, c2, c3, c4, c5, c6, c7, c8, c9, c10, c11, c12, c13⟩, -⟩ := HC.out) | (go_at_call 105; refine (seedsIn_any p s c l st sk re fe ag player p1 p2 pn1 pc1 pn2 pc2 pp pq xs ys [(Q : Int)] _ 1 1 _ ((H0.out.below HC.out.be).alloc _) HQ.out.1 HQ.out.2 HR.out rfl (by omega) (row_1 _ _ _)).mono ?_; rintro e w6 ⟨rfl, hb6⟩; rw [Hs1.out]; have HC := Lib.hid ((HC.out.alloc _).below hb6); clear hb6; obtain ⟨⟨_, c0, c1, c2, c3, c4, c5, c6, c7, c8, c9, c10, c11, c12, c13⟩, -⟩ := HC.out))
        go_roundw
        case rel => exact ⟨k + 1, t + v, by omega, by go_num, by go_num, by rw [Hst.out], HC.out⟩
        case measure => simp [intOf]; omega
    · obtain rfl : k = n := by omega
      have e1 : L.take k = L := List.take_of_length_le (by rw [HLn.out.2]; exact Nat.le_refl _)
      have e2 : slamB p player xs L = (decide (0 < t) && decide (t = tot (halfL xs p.toNat (1 - player)))) := by unfold slamB; rw [Ht.out, e1]
      clear e1
      generalize halfL xs p.toNat (1 - player) = hs at *
      by_cases h0 : 0 < t
      · have d0 : decide (0 < t) = true := by simpa using h0
        generalize hT : tot hs = T at *
        have HT := Lib.hid hT
        by_cases h1 : t = T
        · have d1 : (t == T) = true := by simpa using h1
          have e3 : (decide (0 < t) && decide (t = T)) = true := by rw [decide_eq_true h0, decide_eq_true h1]; rfl
          rw [e3] at e2
          have HE2 := Lib.hid e2
          clear h1 hT e2 e3
          go_wp2_with fail
          apply region_class (CpAt w p s c l st sk re fe ag player p1 p2 pn1 pc1 pn2 pc2 pp pq) (by kernel_rfl) (by kernel_rfl) (HC.out.drew)
          repeat (first
            | (apply step_skip (by rfl)
               simp only [Act.put, List.setIfInBounds_toArray, List.set_cons_zero, List.set_cons_succ])
            | (apply step_val (by rfl)
               · intro u hu
                 obtain ⟨⟨_, r0, r1, r2, r3, r4, r5, r6, r7, r8, r9, r10, r11, r12, r13⟩, _⟩ := hu
                 go_simp
                 try with_reducible rfl
               simp only [Act.put, List.setIfInBounds_toArray, List.set_cons_zero, List.set_cons_succ])
            | (apply step_call (by rfl)
               · intro u
                 go_simp
                 exact ⟨rfl, rfl⟩
               · intro u hu
                 (with_reducible refine (position_any p1 p2 pn1 pc1 pn2 pc2 pp pq player _).mono ?_); (rintro e u' ⟨rfl, hb5⟩; exact ⟨rfl, hu.below hb5⟩)
               simp only [Act.put, List.setIfInBounds_toArray, List.set_cons_zero, List.set_cons_succ])
            | (apply step_call (by rfl)
               · intro u
                 go_simp
                 exact ⟨rfl, rfl⟩
               · intro u hu
                 (with_reducible refine (side_d p s c l st sk re fe ag p1 p2 pn1 pc1 pn2 pc2 player gx ox (1 - player) _ HG.out HP.out Hn1.out Hcap.out HPl.out).mono ?_); (rintro e u' ⟨rfl, hb5⟩; exact ⟨rfl, hu.below hb5⟩)
               simp only [Act.put, List.setIfInBounds_toArray, List.set_cons_zero, List.set_cons_succ])
            | (apply step_call (by rfl)
               · intro u
                 go_simp
                 exact ⟨rfl, rfl⟩
               · intro u hu
                 (with_reducible refine (sumOf_any _ _ p.toNat hs _ HLh.out (HRow.out _ hu.be) HH.out.1 (by rw [HT.out]; exact HH.out.2)).mono ?_); (rintro e u' ⟨rfl, rfl⟩; rw [HT.out]; exact ⟨rfl, hu⟩)
               simp only [Act.put, List.setIfInBounds_toArray, List.set_cons_zero, List.set_cons_succ]))
          apply step_nil
          intro w5 hs5
          have HS5 := Lib.hid hs5
          clear hs5
          go_wp2_with fail
          go_ret
          exact ⟨by rw [HE2.out]; rfl, HS5.out.be⟩
        · have d1 : (t == T) = false := by simpa using h1
          have e3 : (decide (0 < t) && decide (t = T)) = false := by rw [decide_eq_false h1]; simp
          rw [e3] at e2
          have HE2 := Lib.hid e2
          clear h1 hT e2 e3
          go_wp2_with fail
          apply region_class (CpAt w p s c l st sk re fe ag player p1 p2 pn1 pc1 pn2 pc2 pp pq) (by kernel_rfl) (by kernel_rfl) (HC.out.drew)
          repeat (first
            | (apply step_skip (by rfl)
               simp only [Act.put, List.setIfInBounds_toArray, List.set_cons_zero, List.set_cons_succ])
            | (apply step_val (by rfl)
               · intro u hu
                 obtain ⟨⟨_, r0, r1, r2, r3, r4, r5, r6, r7, r8, r9, r10, r11, r12, r13⟩, _⟩ := hu
                 go_simp
                 try with_reducible rfl
               simp only [Act.put, List.setIfInBounds_toArray, List.set_cons_zero, List.set_cons_succ])
            | (apply step_call (by rfl)
               · intro u
                 go_simp
                 exact ⟨rfl, rfl⟩
               · intro u hu
                 (with_reducible refine (position_any p1 p2 pn1 pc1 pn2 pc2 pp pq player _).mono ?_); (rintro e u' ⟨rfl, hb5⟩; exact ⟨rfl, hu.below hb5⟩)
               simp only [Act.put, List.setIfInBounds_toArray, List.set_cons_zero, List.set_cons_succ])
            | (apply step_call (by rfl)
               · intro u
                 go_simp
                 exact ⟨rfl, rfl⟩
               · intro u hu
                 (with_reducible refine (side_d p s c l st sk re fe ag p1 p2 pn1 pc1 pn2 pc2 player gx ox (1 - player) _ HG.out HP.out Hn1.out Hcap.out HPl.out).mono ?_); (rintro e u' ⟨rfl, hb5⟩; exact ⟨rfl, hu.below hb5⟩)
               simp only [Act.put, List.setIfInBounds_toArray, List.set_cons_zero, List.set_cons_succ])
            | (apply step_call (by rfl)
               · intro u
                 go_simp
                 exact ⟨rfl, rfl⟩
               · intro u hu
                 (with_reducible refine (sumOf_any _ _ p.toNat hs _ HLh.out (HRow.out _ hu.be) HH.out.1 (by rw [HT.out]; exact HH.out.2)).mono ?_); (rintro e u' ⟨rfl, rfl⟩; rw [HT.out]; exact ⟨rfl, hu⟩)
               simp only [Act.put, List.setIfInBounds_toArray, List.set_cons_zero, List.set_cons_succ]))
          apply step_nil
          intro w5 hs5
          have HS5 := Lib.hid hs5
          clear hs5
          go_wp2_with fail
          go_ret
          exact ⟨by rw [HE2.out]; rfl, HS5.out.be⟩
      · have d0 : decide (0 < t) = false := by simpa using h0
        have e3 : (decide (0 < t) && decide (t = tot hs)) = false := by rw [decide_eq_false h0]; rfl
        rw [e3] at e2
        have HE2 := Lib.hid e2
        clear e2 e3
        go_wp2_with fail
        apply region_class (CpAt w p s c l st sk re fe ag player p1 p2 pn1 pc1 pn2 pc2 pp pq) (by kernel_rfl) (by kernel_rfl) (HC.out.drew)
        repeat (first
          | (apply step_skip (by rfl)
             simp only [Act.put, List.setIfInBounds_toArray, List.set_cons_zero, List.set_cons_succ])
          | (apply step_val (by rfl)
             · intro u hu
               obtain ⟨⟨_, r0, r1, r2, r3, r4, r5, r6, r7, r8, r9, r10, r11, r12, r13⟩, _⟩ := hu
               go_simp
               try with_reducible rfl
             simp only [Act.put, List.setIfInBounds_toArray, List.set_cons_zero, List.set_cons_succ]))
        apply step_nil
        intro w5 hs5
        have HS5 := Lib.hid hs5
        clear hs5
        go_wp2_with fail
        go_ret
        exact ⟨by rw [HE2.out]; rfl, HS5.out.be⟩
/- Cap11 -/
structure Good (p s c l : Int) (st sk re fe ag : Bool) (player : Int) (pn1 pn2 : Nat) (pp : Int) (xs ys : List Int) : Prop where
 ok : okR p s c l st ag = true
 p2 : 2 ≤ p ∧ p ≤ 8
 c3 : 0 ≤ c ∧ c ≤ 3
 n1 : (pn1 : Int) = 2 * p
 n2 : pn2 = 2
 pl : player = 0 ∨ player = 1
 q1 : posB xs = true
 q2 : posB ys = true
 q3 : tot xs + tot ys ≤ 96
 l1 : -1 ≤ pp
 l2 : pp < 2 * p
theorem Good.t1 {p s c l player : Int} {st sk re fe ag : Bool} {pn1 pn2 : Nat} {pp : Int} {xs ys : List Int} (h : Good p s c l st sk re fe ag player pn1 pn2 pp xs ys) : tot xs ≤ 96 := by
 have := posB_tot h.q2
 have := h.q3
 omega
theorem Good.raw {p s c l player : Int} {st sk re fe ag : Bool} {pn1 pn2 : Nat} {pp : Int} {xs ys : List Int} (h : Good p s c l st sk re fe ag player pn1 pn2 pp xs ys) (cp : Int) : ∀ k ∈ rawF cp p player pp xs, 0 ≤ k ∧ k < (pn1 : Int) := fun k hk => by
 have := raw_in h.l2 k hk
 have := h.n1
 omega
theorem own_out {p pl k : Int} (hp : 2 ≤ p) (hpl : pl = 0 ∨ pl = 1) (hk : k < 0) : ownB p pl k = false := by
 unfold ownB
 rcases hpl with rfl | rfl <;> simp <;> omega
theorem rawI_any (p s c l : Int) (st sk re fe ag : Bool) (player : Int) (p1 p2 : Option Addr) (pn1 pc1 pn2 pc2 : Nat) (pp pq : Int) (xs ys : List Int) (w : World) (h : PosR w p1 p2 pn1 pn2 xs ys) (g : Good p s c l st sk re fe ag player pn1 pn2 pp xs ys) :
  Calls Try.prog 93 #[.agg #[.int .i64 p, .int .i64 s, .bool st, .bool sk, .bool re, .bool fe, .bool ag, .int .i64 c, .int .i64 l, .int .i64 player, .slice p1 pn1 pc1, .slice p2 pn2 pc2, .int .i64 pp, .int .i64 pq]] w (OwnP (rawF c p player pp xs) (rawF c p player pp xs).length w) := by
 have hc := g.c3
 have hp2 := g.p2.1
 have hl1 := g.l1
 rcases (show c = 0 ∨ c = 1 ∨ c = 2 ∨ c = 3 by omega) with e | e | e | e
 ·refine raw_any0 p s c l st sk re fe ag player _ _ _ _ _ _ _ _ w e _ (fun u hu => ?_)
  have er : rawF c p player pp xs = [] := by
   unfold rawF
   by_cases hlt : pp < 0
   ·rw [if_pos hlt]
   ·rw [if_neg hlt, if_neg (by omega), if_neg (by omega), if_neg (by omega)]
  rw [er]
  exact none_any p s c l st sk re fe ag player _ _ _ _ _ _ _ _ u
 ·refine raw_any1 p s c l st sk re fe ag player _ _ _ _ _ _ _ _ w e _ (fun u hu => ?_)
  have er : rawF c p player pp xs = twF p player xs (pp + 1).toNat := by
   unfold rawF
   by_cases hlt : pp < 0
   ·rw [if_pos hlt, show (pp + 1).toNat = 0 by omega]; rfl
   ·rw [if_neg hlt, if_pos e, show (pp + 1).toNat = pp.toNat + 1 by omega]
  rw [er]
  exact twoThree_any p s c l st sk re fe ag player _ _ _ _ _ _ _ _ xs ys _ u (h.below hu) g.q1 g.t1 g.p2 g.n1 g.pl (by omega) (by have := g.l2; omega)
 ·refine raw_any2 p s c l st sk re fe ag player _ _ _ _ _ _ _ _ w e _ (fun u hu => ?_)
  refine cross_any p s c l st sk re fe ag player _ _ _ _ _ _ _ _ xs ys u (h.below hu) g.q1 g.t1 g.ok g.n1 g.pl g.l1 g.l2 _ ?_
  unfold rawF
  by_cases hlt : pp < 0
  ·rw [if_pos hlt, own_out hp2 g.pl hlt]; rfl
  ·rw [if_neg hlt, if_neg (show ¬ c = 1 by omega), if_pos e]
 ·refine raw_any3 p s c l st sk re fe ag player _ _ _ _ _ _ _ _ w e _ (fun u hu => ?_)
  refine even_any p s c l st sk re fe ag player _ _ _ _ _ _ _ _ xs ys u (h.below hu) g.q1 g.t1 g.p2 g.n1 g.pl g.l1 g.l2 _ ?_
  unfold rawF
  by_cases hlt : pp < 0
  ·rw [if_pos hlt, own_out hp2 (by have := g.pl; omega) hlt]; rfl
  ·rw [if_neg hlt, if_neg (show ¬ c = 1 by omega), if_neg (show ¬ c = 2 by omega), if_pos e]
theorem spared_any (p s c l : Int) (st sk re fe ag : Bool) (player : Int) (p1 p2 : Option Addr) (pn1 pc1 pn2 pc2 : Nat) (pp pq : Int) (xs ys : List Int) (w : World) (h : PosR w p1 p2 pn1 pn2 xs ys) (g : Good p s c l st sk re fe ag player pn1 pn2 pp xs ys) (hcap : pn1 ≤ pc1) :
  Calls Try.prog 103 #[.agg #[.int .i64 p, .int .i64 s, .bool st, .bool sk, .bool re, .bool fe, .bool ag, .int .i64 c, .int .i64 l, .int .i64 player, .slice p1 pn1 pc1, .slice p2 pn2 pc2, .int .i64 pp, .int .i64 pq]] w fun e w' => e = .returned (.bool (decide (l = 2) && slamB p player xs (rawF c p player pp xs))) ∧ Below w.heap.size w w' := by
 have HC := Lib.hid (cp_new p s c l st sk re fe ag player p1 p2 pn1 pc1 pn2 pc2 pp pq w 77)
 obtain ⟨⟨_, c0, c1, c2, c3, c4, c5, c6, c7, c8, c9, c10, c11, c12, c13⟩, -⟩ := HC.out
 have H0 := Lib.hid h
 have G := Lib.hid g
 have Hcap := Lib.hid hcap
 have HLn : Hid ((rawF c p player pp xs).length ≤ 1000) := Lib.hid (by have := raw_len (cp := c) (pl := player) (xs := xs) g.p2.2 g.p2.1 g.l2; omega)
 have HRaw : Hid (∀ u, Below w.heap.size w u → Calls Try.prog 93 #[.agg #[.int .i64 p, .int .i64 s, .bool st, .bool sk, .bool re, .bool fe, .bool ag, .int .i64 c, .int .i64 l, .int .i64 player, .slice p1 pn1 pc1, .slice p2 pn2 pc2, .int .i64 pp, .int .i64 pq]] u (OwnP (rawF c p player pp xs) (rawF c p player pp xs).length u)) := Lib.hid (fun u hu => rawI_any p s c l st sk re fe ag player _ _ _ _ _ _ _ _ xs ys u (h.below hu) g)
 have HRin := Lib.hid (g.raw c)
 generalize rawF c p player pp xs = R at *
 clear h g hcap
 by_cases hl : l = 2
 ·have t1 : (l == 2) = true := by simpa using hl
  rw [decide_eq_true hl, Bool.true_and]
  clear hl
  go_enter Try.func103, Try.ntmps103
  go_wp2_with fail
  go_region_held3 (fun u => (w.heap.size < u.heap.size ∧ u.cell? ⟨w.heap.size, 0, none⟩ = some (.int .i64 p) ∧ u.cell? ⟨w.heap.size, 1, none⟩ = some (.int .i64 s) ∧ u.cell? ⟨w.heap.size, 2, none⟩ = some (.bool st) ∧ u.cell? ⟨w.heap.size, 3, none⟩ = some (.bool sk) ∧ u.cell? ⟨w.heap.size, 4, none⟩ = some (.bool re) ∧ u.cell? ⟨w.heap.size, 5, none⟩ = some (.bool fe) ∧ u.cell? ⟨w.heap.size, 6, none⟩ = some (.bool ag) ∧ u.cell? ⟨w.heap.size, 7, none⟩ = some (.int .i64 c) ∧ u.cell? ⟨w.heap.size, 8, none⟩ = some (.int .i64 l) ∧ u.cell? ⟨w.heap.size, 9, none⟩ = some (.int .i64 player) ∧ u.cell? ⟨w.heap.size, 10, none⟩ = some (.slice p1 pn1 pc1) ∧ u.cell? ⟨w.heap.size, 11, none⟩ = some (.slice p2 pn2 pc2) ∧ u.cell? ⟨w.heap.size, 12, none⟩ = some (.int .i64 pp) ∧ u.cell? ⟨w.heap.size, 13, none⟩ = some (.int .i64 pq)) ∧ Below w.heap.size w u) (first | exact HC.out | exact HC.out.drew)
   (first
   | (go_at_call 93; refine (HRaw.out _ (by first | exact HC.out.be | exact HC.out.drew.be)).mono ?_; rintro e w5 ⟨v5, rfl, hown, hb5⟩; obtain ⟨a5, cc5, rfl, hr5⟩ := own_slice hown rfl HLn.out; have HR5 := Lib.hid hr5; have HC := Lib.hid (by first | exact HC.out.below hb5 | exact HC.out.drew.below hb5 : CpAt w p s c l st sk re fe ag player p1 p2 pn1 pc1 pn2 pc2 pp pq w5); clear hown hr5 hb5)
   | (go_at_call 92; refine (isSlam_any p s c l st sk re fe ag player p1 p2 pn1 pc1 pn2 pc2 pp pq xs ys _ a5 cc5 _ _ (H0.out.below (by first | exact HC.out.be | exact HC.out.drew.be)) G.out.q1 G.out.t1 G.out.p2 G.out.n1 G.out.pl HRin.out rfl HLn.out (by first | exact HR5.out | exact HR5.out.drewN 1) Hcap.out).mono ?_; rintro e w6 ⟨rfl, hb6⟩; have HC := Lib.hid (by first | exact HC.out.below hb6 | exact HC.out.drew.below hb6 : CpAt w p s c l st sk re fe ag player p1 p2 pn1 pc1 pn2 pc2 pp pq w6); clear hb6))
  go_wp2_with fail
  go_ret
  exact ⟨rfl, HC.out.be⟩
 ·have t1 : (l == 2) = false := by simpa using hl
  rw [decide_eq_false hl, Bool.false_and]
  clear hl
  go_enter Try.func103, Try.ntmps103
  go_wp2_with fail
  go_quiet (fail)
  go_wp2_with fail
  go_ret
  exact ⟨rfl, by first | exact HC.out.be | exact (show Below w.heap.size w _ from HC.out.be.trans ((Below.refl _ _).mono HC.out.be.size)) | exact HC.out.drew.be | exact below_dn HC.out.be _⟩
theorem pits_any (p s c l : Int) (st sk re fe ag : Bool) (player : Int) (p1 p2 : Option Addr) (pn1 pc1 pn2 pc2 : Nat) (pp pq : Int) (xs ys : List Int) (w : World) (h : PosR w p1 p2 pn1 pn2 xs ys) (g : Good p s c l st sk re fe ag player pn1 pn2 pp xs ys) (hcap : pn1 ≤ pc1) :
  Calls Try.prog 91 #[.agg #[.int .i64 p, .int .i64 s, .bool st, .bool sk, .bool re, .bool fe, .bool ag, .int .i64 c, .int .i64 l, .int .i64 player, .slice p1 pn1 pc1, .slice p2 pn2 pc2, .int .i64 pp, .int .i64 pq]] w (OwnP (pitsF c l p player pp xs) (pitsF c l p player pp xs).length w) := by
 have HC := Lib.hid (cp_new p s c l st sk re fe ag player p1 p2 pn1 pc1 pn2 pc2 pp pq w 77)
 obtain ⟨⟨_, c0, c1, c2, c3, c4, c5, c6, c7, c8, c9, c10, c11, c12, c13⟩, -⟩ := HC.out
 have hpf : pitsF c l p player pp xs = if decide (l = 2) && slamB p player xs (rawF c p player pp xs) then [] else rawF c p player pp xs := rfl
 have HRaw : Hid (∀ u, Below w.heap.size w u → Calls Try.prog 93 #[.agg #[.int .i64 p, .int .i64 s, .bool st, .bool sk, .bool re, .bool fe, .bool ag, .int .i64 c, .int .i64 l, .int .i64 player, .slice p1 pn1 pc1, .slice p2 pn2 pc2, .int .i64 pp, .int .i64 pq]] u (OwnP (rawF c p player pp xs) (rawF c p player pp xs).length u)) := Lib.hid (fun u hu => rawI_any p s c l st sk re fe ag player _ _ _ _ _ _ _ _ xs ys u (h.below hu) g)
 have HSp : Hid (∀ u, Below w.heap.size w u → Calls Try.prog 103 #[.agg #[.int .i64 p, .int .i64 s, .bool st, .bool sk, .bool re, .bool fe, .bool ag, .int .i64 c, .int .i64 l, .int .i64 player, .slice p1 pn1 pc1, .slice p2 pn2 pc2, .int .i64 pp, .int .i64 pq]] u fun e w' => e = .returned (.bool (decide (l = 2) && slamB p player xs (rawF c p player pp xs))) ∧ Below u.heap.size u w') := Lib.hid (fun u hu => spared_any p s c l st sk re fe ag player p1 p2 pn1 pc1 pn2 pc2 pp pq xs ys u (h.below hu) g hcap)
 generalize pitsF c l p player pp xs = PF at *
 generalize rawF c p player pp xs = R at *
 generalize (decide (l = 2) && slamB p player xs R) = sb at *
 clear h g hcap
 cases sb
 ·have e : PF = R := by rw [hpf]; simp
  subst e
  clear hpf
  go_enter Try.func91, Try.ntmps91
  go_wp2_with (first | (go_at_call 103; refine (HSp.out _ HC.out.be).mono ?_; rintro e w4 ⟨rfl, hb4⟩; have HC := Lib.hid (HC.out.below hb4); clear hb4; obtain ⟨⟨_, c0, c1, c2, c3, c4, c5, c6, c7, c8, c9, c10, c11, c12, c13⟩, -⟩ := HC.out) | (go_at_call 93; refine (HRaw.out _ HC.out.be).mono ?_; rintro e w5 ⟨v5, rfl, hown, hb5⟩; have HO := Lib.hid (own_lower hown (by have h1 := HC.out.be.size; exact h1)); have HC := Lib.hid (HC.out.below hb5); clear hown hb5))
  go_ret
  exact ⟨_, rfl, HO.out, HC.out.be⟩
 ·have e : PF = [] := by rw [hpf]; rfl
  subst e
  clear hpf
  go_enter Try.func91, Try.ntmps91
  go_wp2_with (go_at_call 103; refine (HSp.out _ HC.out.be).mono ?_; rintro e w4 ⟨rfl, hb4⟩; have HC := Lib.hid (HC.out.below hb4); clear hb4; obtain ⟨⟨_, c0, c1, c2, c3, c4, c5, c6, c7, c8, c9, c10, c11, c12, c13⟩, -⟩ := HC.out)
  go_ret
  exact ⟨_, rfl, World.ownsRow_nil _ _ _ _, HC.out.be⟩
/- RefC -/
section
variable {w u v : World} {b d : Nat} {p s c l : Int} {st sk re fe ag : Bool} {p1 p2 : Option Addr} {pn1 pc1 pn2 pc2 : Nat} {pp pq : Int}
theorem L6N.below (h : L6N w b d p s c l st sk re fe ag p1 p2 pn1 pc1 pn2 pc2 pp pq u) (k : Below u.heap.size u v) : L6N w b d p s c l st sk re fe ag p1 p2 pn1 pc1 pn2 pc2 pp pq v := ⟨h.1.below k, h.2.1.below k, h.2.2.trans (k.mono h.2.2.size)⟩
theorem L6N.be (h : L6N w b d p s c l st sk re fe ag p1 p2 pn1 pc1 pn2 pc2 pp pq u) : Below w.heap.size w u := h.2.2
end
theorem L6N.grown {w u v : World} {b d : Nat} {p s c l : Int} {st sk re fe ag : Bool} {p1 p2 : Option Addr} {pn1 pc1 pn2 pc2 : Nat} {pp pq : Int} {row : Option Nat} (h : L6N w b d p s c l st sk re fe ag p1 p2 pn1 pc1 pn2 pc2 pp pq u) (hg : u.grownBy v row) (hb : b < w.heap.size) (hd : d < w.heap.size) (hr : ∀ k, row = some k → w.heap.size ≤ k) : L6N w b d p s c l st sk re fe ag p1 p2 pn1 pc1 pn2 pc2 pp pq v := by
 obtain ⟨⟨hb1, h1⟩, ⟨hd1, h2⟩, hw⟩ := h
 have e1 : ∀ o, v.cell? ⟨b, o, none⟩ = u.cell? ⟨b, o, none⟩ := fun o => World.cell?_of_block (a := ⟨b, o, none⟩) (hg.block b hb1 (fun e => by have := hr _ e.symm; omega))
 have e2 : ∀ o, v.cell? ⟨d, o, none⟩ = u.cell? ⟨d, o, none⟩ := fun o => World.cell?_of_block (a := ⟨d, o, none⟩) (hg.block d hd1 (fun e => by have := hr _ e.symm; omega))
 exact ⟨⟨Nat.lt_of_lt_of_le hb1 hg.size, by rw [e1, e1, e1, e1, e1, e1, e1, e1, e1]; exact h1⟩, ⟨Nat.lt_of_lt_of_le hd1 hg.size, by rw [e2, e2, e2, e2]; exact h2⟩, hw.grown hg hw.size hr⟩
theorem own_eq {p pl k : Int} (hp : 2 ≤ p) (h0 : 0 ≤ k) (h1 : k < 2 * p) (hpl : pl = 0 ∨ pl = 1) : (k / p == pl) = ownB p pl k := by
 have h := own_div hp h0 h1 hpl
 cases e : ownB p pl k
 ·rw [e] at h
  simpa using h
 ·rw [e] at h
  simpa using h
theorem own_ne {p pl k : Int} (hp : 2 ≤ p) (h0 : 0 ≤ k) (h1 : k < 2 * p) (hpl : pl = 0 ∨ pl = 1) : (k / p != pl) = ownB p (1 - pl) k := by
 rw [own_other hp h0 h1 hpl, ← own_eq hp h0 h1 hpl]
 rfl
theorem in_23 (v : Int) : (decide (2 ≤ v) && decide (v ≤ 3)) = (decide (v = 2) || decide (v = 3)) := by
 by_cases h2 : v = 2
 ·subst h2; rfl
 ·by_cases h3 : v = 3
  ·subst h3; rfl
  ·rw [decide_eq_false h2, decide_eq_false h3]
   by_cases h : 2 ≤ v
   ·have : decide (v ≤ 3) = false := by simp; omega
    rw [this]; simp
   ·rw [decide_eq_false h]; rfl
theorem l06Sum_still (p1 p2 : Option Addr) (pn1 pc1 pn2 pc2 : Nat) (pp pq : Int) (xs ys L : List Int) (d : Nat) (a : Option Addr) (cc n : Nat) (w : World) (hs : SoAt w d p1 p2 pn1 pc1 pn2 pc2 pp pq) (h : PosR w p1 p2 pn1 pn2 xs ys) (hp : posB xs = true) (ht : tot xs ≤ 96) (hL : ∀ k ∈ L, 0 ≤ k ∧ k < (pn1 : Int)) (hn : L.length = n) (hn16 : n ≤ 1000) (ha : RowN w a L) :
  Calls Try.prog 87 #[.pointer (some ⟨d, 0, none⟩), .slice a n cc] w (Still (.int .i64 (sumAt xs L)) w) := by
 obtain ⟨_, s0, s1, s2, s3⟩ := hs
 have H := Lib.hid h
 have HA := Lib.hid ha
 clear h ha
 go_enter Try.func87, Try.ntmps87
 go_wp2
 go_loopw [5, 6] (fun s0 i wr => ∃ (k m : Nat) (t : Int), k ≤ n ∧ i = .int .i64 k ∧ s0 = .int .i64 t ∧ wr = w.drewN m ∧ t = sumAt xs (L.take k)) (fun _ i _ => n - (intOf i).toNat)
 case atStart => exact ⟨0, 0, 0, Nat.zero_le _, rfl, rfl, rfl, rfl⟩
 case round =>
  obtain ⟨k, m, t, hk, rfl, rfl, rfl, ht'⟩ := hrel
  have hb := sumAt_bd hp ht (L.take k)
  rw [← ht', List.length_take] at hb
  obtain ⟨b0, b1⟩ := hb
  have b2 : t ≤ 96 * 1000 := by omega
  have Ht := Lib.hid ht'
  clear ht' b1
  by_cases hlt : k < n
  ·obtain ⟨q, hq⟩ : ∃ q, L[k]? = some q := ⟨L[k]'(by rw [hn]; exact hlt), List.getElem?_eq_getElem _⟩
   obtain ⟨q0, q1⟩ := hL q (List.mem_of_getElem? hq)
   obtain ⟨Q, rfl⟩ : ∃ Q : Nat, q = (Q : Int) := ⟨q.toNat, by omega⟩
   have hne : L ≠ [] := by intro e; subst e; cases hq
   obtain ⟨ga, oa, rfl, hga, hca⟩ := HA.out.2.resolve_left hne
   have ya := hca k _ hq
   obtain ⟨g, o, rfl, hg, y⟩ := rowV (k := Q) H.out.r1 (by have := H.out.l1; omega)
   obtain ⟨v1, v2⟩ := vAt_bd hp ht (Q : Int)
   have Hq := Lib.hid hq
   have k0 : (0 : Int) ≤ (k : Int) := by omega
   have k1 : (k : Int) < (n : Int) := by omega
   have hs : sumAt xs (L.take (k + 1)) = t + vAt xs (Q : Int) := by rw [take_next Hq.out, sumAt_snoc, ← Ht.out]
   have Hs := Lib.hid hs
   clear hca hq hne hs hL hn hp ht
   generalize vAt xs (Q : Int) = v at *
   go_wp2
   go_region
   go_wp2
   go_roundw
   case rel => exact ⟨k + 1, _, t + v, by omega, by go_num, by go_num, rfl, by rw [Hs.out]⟩
   case measure => simp [intOf]; omega
  ·obtain rfl : k = n := by omega
   have e1 : L.take k = L := List.take_of_length_le (by rw [hn]; exact Nat.le_refl _)
   have e2 : t = sumAt xs L := by rw [Ht.out, e1]
   have E2 := Lib.hid e2
   clear e1 e2 hn hL
   go_wp2
   go_ret
   exact ⟨by rw [E2.out]; rfl, _, rfl⟩
theorem l06Raw_0 (p s c l : Int) (st sk re fe ag : Bool) (player : Int) (p1 p2 : Option Addr) (pn1 pc1 pn2 pc2 : Nat) (pp pq : Int) (xs ys : List Int) (b d : Nat) (w : World) (hr : RuAt w b p s c l st sk re fe ag) (hs : SoAt w d p1 p2 pn1 pc1 pn2 pc2 pp pq) (g : Good p s c l st sk re fe ag player pn1 pn2 pp xs ys) (hc : pp < 0 ∨ c = 0) :
  Calls Try.prog 84 #[.pointer (some ⟨b, 0, none⟩), .pointer (some ⟨d, 0, none⟩), .int .i64 player] w (OwnP [] 0 w) := by
 have HX := Lib.hid (show L6N w b d p s c l st sk re fe ag p1 p2 pn1 pc1 pn2 pc2 pp pq w from ⟨hr, hs, Below.refl _ _⟩)
 obtain ⟨hb, r0, r1, r2, r3, r4, r5, r6, r7, r8⟩ := hr
 obtain ⟨hd, s0, s1, s2, s3⟩ := hs
 have g1 := g.p2.1
 have g2 := g.p2.2
 have g3 := g.l2
 by_cases t0 : pp < 0
 ·clear hc g
  go_enter Try.func84, Try.ntmps84
  go_wp2_with fail
  go_ret
  exact ⟨_, rfl, World.ownsRow_made w #[] 0 (Nat.le_refl _) (by decide) rfl, (HX.out.below (al1 _ _)).be⟩
 ·have e : c = 0 := by omega
  have e1 : (c == 1) = false := by simp [e]
  have e2 : (c == 2) = false := by simp [e]
  have e3 : (c == 3) = false := by simp [e]
  clear hc g e
  go_enter Try.func84, Try.ntmps84
  go_wp2_with (go_at_call 85; refine (owner_any p _ _ _ (by go_simp) (by omega) (by omega) (by omega) (by omega)).mono ?_; rintro e w' ⟨rfl, rfl⟩)
  go_ret
  exact ⟨_, rfl, World.ownsRow_made w #[] 0 (Nat.le_refl _) (by decide) rfl, (HX.out.below (al1 _ _)).be⟩
theorem l06Raw_1 (p s c l : Int) (st sk re fe ag : Bool) (player : Int) (p1 p2 : Option Addr) (pn1 pc1 pn2 pc2 : Nat) (pp pq : Int) (xs ys : List Int) (N : Nat) (b d : Nat) (w : World) (hr : RuAt w b p s c l st sk re fe ag) (hs : SoAt w d p1 p2 pn1 pc1 pn2 pc2 pp pq) (h : PosR w p1 p2 pn1 pn2 xs ys) (g : Good p s c l st sk re fe ag player pn1 pn2 pp xs ys) (h0 : 0 ≤ pp) (hN : pp = (N : Int) - 1) (e1 : (c == 1) = true) :
  Calls Try.prog 84 #[.pointer (some ⟨b, 0, none⟩), .pointer (some ⟨d, 0, none⟩), .int .i64 player] w (OwnP (twF p player xs N) (twF p player xs N).length w) := by
 obtain ⟨i0, hi, hz0, hz1, hz2⟩ := info_parts infoN
 have HX := Lib.hid (show L6N w b d p s c l st sk re fe ag p1 p2 pn1 pc1 pn2 pc2 pp pq w from ⟨hr, hs, Below.refl _ _⟩)
 have H0 := Lib.hid h
 have G := Lib.hid g
 have HN := Lib.hid hN
 obtain ⟨hb, r0, r1, r2, r3, r4, r5, r6, r7, r8⟩ := hr
 obtain ⟨hd, s0, s1, s2, s3⟩ := hs
 have g1 := g.p2.1
 have g2 := g.p2.2
 have g3 := g.l2
 have t0 : ¬ pp < 0 := by omega
 clear g h hN
 go_enter Try.func84, Try.ntmps84
 go_wp2_with (go_at_call 85; refine (owner_any p _ _ _ (by go_simp) (by omega) (by omega) (by omega) (by omega)).mono ?_; rintro e w' ⟨rfl, rfl⟩)
 have HX := Lib.hid (HX.out.below (al1 w (.cells #[] 2)))
 have hown0 := World.ownsRow_made (e := 2) (size := 1) w #[] 0 (Nat.le_refl _) (by decide) rfl
 generalize w.alloc (.cells #[] 2) = w1 at *
 clear r0 r1 r2 r3 r4 r5 r6 r7 r8 s0 s1 s2 s3 t0 h0
 go_loopw [7, 8] (fun s0 i wr => ∃ (k m : Nat) (acc : List Int) (z : Int), i = .int .i64 z ∧ z = (k : Int) - 1 ∧ m + k ≤ 16 ∧ wr.ownsRow w.heap.size 2 1 s0 m (nvs acc) ∧ acc.length = m ∧ acc ++ twF p player xs k = twF p player xs N ∧ k ≤ N ∧ L6N w b d p s c l st sk re fe ag p1 p2 pn1 pc1 pn2 pc2 pp pq wr) (fun _ i _ => (intOf i + 1).toNat)
 case atStart => exact ⟨N, 0, [], pp, rfl, HN.out, by have := HN.out; omega, hown0, rfl, rfl, Nat.le_refl _, HX.out⟩
 case round =>
  obtain ⟨k, m, acc, z, rfl, hz, hmk, hown, hlen, hacc, hkN, hC⟩ := hrel
  have HX := Lib.hid hC
  have HO := Lib.hid hown
  have HA := Lib.hid (And.intro hlen hacc)
  obtain ⟨⟨hbl, r0, r1, r2, r3, r4, r5, r6, r7, r8⟩, ⟨hdl, s0, s1, s2, s3⟩, -⟩ := hC
  have Hz := Lib.hid hz
  clear hown hlen hacc hown0
  rcases k with _ | k
  ·have t1 : ¬ 0 ≤ z := by omega
   clear hz
   go_wp2_with (go_at_call 85; refine (owner_any p _ _ _ (by go_simp) (by omega) (by omega) (by omega) (by omega)).mono ?_; rintro e w' ⟨rfl, rfl⟩)
   go_ret
   have e := HA.out.2
   simp only [twF, List.append_nil] at e
   rw [← e, HA.out.1]
   exact ⟨_, rfl, HO.out, HX.out.be⟩
  ·obtain rfl : z = (k : Int) := by omega
   have hkp : (k : Int) < 2 * p := by have := HN.out; omega
   have k0 : (0 : Int) ≤ (k : Int) := by omega
   obtain ⟨gx, ox, rfl, hg, y⟩ := rowV (k := k) (H0.out.below HX.out.be).r1 (by have := G.out.n1; have := H0.out.l1; omega)
   have q1 : (k : Int) < (pn1 : Int) := by have := G.out.n1; omega
   have hne := own_ne (p := p) (pl := player) g1 k0 hkp G.out.pl
   clear hz Hz
   rcases hb : ownB p (1 - player) (k : Int) with _ | _
   ·have e := HA.out.2
    rw [tw_no (by rw [hb]; rfl), List.append_nil] at e
    have He := Lib.hid e
    rw [hb] at hne
    clear hb e
    go_wp2_with (go_at_call 85; refine (owner_any p _ _ _ (by go_simp) (by omega) (by omega) (by omega) (by omega)).mono ?_; rintro e w' ⟨rfl, rfl⟩)
    go_ret
    rw [← He.out, HA.out.1]
    exact ⟨_, rfl, HO.out, HX.out.be⟩
   ·rw [hb] at hne
    have hin := in_23 (vAt xs (k : Int))
    rcases hv : (decide (vAt xs (k : Int) = 2) || decide (vAt xs (k : Int) = 3)) with _ | _
    ·have e := HA.out.2
     rw [tw_no (by rw [hb, hv]; rfl), List.append_nil] at e
     have He := Lib.hid e
     rw [hv] at hin
     have HI := Lib.hid hin
     generalize vAt xs (k : Int) = v at *
     clear hb e hv hin
     go_wp2_with (first | (go_at_call 85; refine (owner_any p _ _ _ (by go_simp) (by omega) (by omega) (by omega) (by omega)).mono ?_; rintro e w' ⟨rfl, rfl⟩) | (go_at_call 47; refine (in_b v 2 3 _ HI.out _).mono ?_; rintro e w' ⟨rfl, rfl⟩))
     go_ret
     rw [← He.out, HA.out.1]
     exact ⟨_, rfl, HO.out, HX.out.be⟩
    ·have e := HA.out.2
     rw [tw_yes (by rw [hb, hv]; rfl), show ∀ (a b : List Int) (x : Int), a ++ x :: b = (a ++ [x]) ++ b from fun a b x => by simp] at e
     have He := Lib.hid e
     rw [hv] at hin
     have HI := Lib.hid hin
     generalize vAt xs (k : Int) = v at *
     clear hb e hv hin
     go_wp2_with (first | (go_at_call 85; refine (owner_any p _ _ _ (by go_simp) (by omega) (by omega) (by omega) (by omega)).mono ?_; rintro e w' ⟨rfl, rfl⟩) | (go_at_call 47; refine (in_b v 2 3 _ HI.out _).mono ?_; rintro e w' ⟨rfl, rfl⟩) | (at_builtin; refine wpList_append_own _ rfl _ _ 24 rfl w.heap.size 2 i0 (.int .i64 0) 1 8 Try.underlying24 hi hz0 hz1 hz2 rfl (by decide) _ m (nvs acc) rfl (own_keep HO.out (al1 _ _)) ⟨_, 0, none⟩ 1 1 (nvs [(k : Int)]) rfl (by simp [nvs]) (row_news (row_1 _ (k : Int) 2)) (nvs_cell _) (by unfold maxLen; omega) (by omega) (by have := HX.out.be.size; simp; omega) ?_; intro v1 w3 hown1 hgrow1 hnil1))
     go_roundw
     case rel =>
      refine ⟨k, m + 1, acc ++ [(k : Int)], (k : Int) - 1, rfl, rfl, by omega, ?_, by rw [List.length_append, HA.out.1]; rfl, He.out, by omega, ?_⟩
      ·rw [nvs_app]
       exact hown1
      ·exact L6N.grown (HX.out.below (al1 _ _)) hgrow1 hb hd (fun q hq => ((own_keep HO.out (al1 _ (.cells #[.int .i64 (k : Int)] 2))).lt q hq).1)
     case measure => first | (simp [intOf]; done) | (simp [intOf]; omega)
/- RefC2 -/
theorem own_dq {w : World} {B e n : Nat} {v : Value} {xs : List Value} (h : w.ownsRow B e 1 v n xs) (q : Nat) : (w.drewN q).ownsRow B e 1 v n xs := own_keep h (below_dn (Below.refl w.heap.size w) q)
theorem own_da {w : World} {B e n : Nat} {v : Value} {xs : List Value} (h : w.ownsRow B e 1 v n xs) (q : Nat) (o : Obj) : ((w.drewN q).alloc o).ownsRow B e 1 v n xs := own_keep (own_dq h q) (al1 _ _)
theorem opp_O (p : Int) (K O : Nat) (b : Nat) (w : World) (c0 : w.cell? ⟨b, 0, none⟩ = some (.int .i64 p)) (h0 : 2 ≤ p) (h1 : p ≤ 8) (h3 : (K : Int) < 2 * p) (hO : 2 * p - 1 - (K : Int) = (O : Int)) :
  Calls Try.prog 98 #[.pointer (some ⟨b, 0, none⟩), .int .i64 K] w fun e w' => e = .returned (.int .i64 (O : Int)) ∧ w = w' := by
 rw [← hO]
 exact opposite_any p K b w c0 h0 h1 (by omega) h3
theorem l06Raw_2 (p s c l : Int) (st sk re fe ag : Bool) (player : Int) (p1 p2 : Option Addr) (pn1 pc1 pn2 pc2 K : Nat) (pq : Int) (xs ys : List Int) (b d : Nat) (w : World) (hr : RuAt w b p s c l st sk re fe ag) (hs : SoAt w d p1 p2 pn1 pc1 pn2 pc2 (K : Int) pq) (h : PosR w p1 p2 pn1 pn2 xs ys) (g : Good p s c l st sk re fe ag player pn1 pn2 (K : Int) xs ys) (e1 : (c == 1) = false) (e2 : (c == 2) = true)
  (L : List Int) (hL : (if ownB p player K && decide (vAt xs K = 1) && decide (0 < vAt xs (2 * p - 1 - K)) then [(K : Int), 2 * p - 1 - K] else []) = L) :
  Calls Try.prog 84 #[.pointer (some ⟨b, 0, none⟩), .pointer (some ⟨d, 0, none⟩), .int .i64 player] w (OwnP L L.length w) := by
 obtain ⟨i0, hi, hz0, hz1, hz2⟩ := info_parts infoN
 have HX := Lib.hid (show L6N w b d p s c l st sk re fe ag p1 p2 pn1 pc1 pn2 pc2 (K : Int) pq w from ⟨hr, hs, Below.refl _ _⟩)
 have HO := Lib.hid (World.ownsRow_made (e := 2) (size := 1) w #[] 0 (Nat.le_refl _) (by decide) rfl)
 have HX := Lib.hid (HX.out.below (al1 w (.cells #[] 2)))
 have G := Lib.hid g
 obtain ⟨hb, r0, r1, r2, r3, r4, r5, r6, r7, r8⟩ := hr
 obtain ⟨hd, s0, s1, s2, s3⟩ := hs
 have g1 := g.p2.1
 have g2 := g.p2.2
 have g3 := g.l2
 have gn := g.n1
 have k0 : (0 : Int) ≤ (K : Int) := by omega
 have q1 : (K : Int) < (pn1 : Int) := by omega
 obtain ⟨gx, ox, rfl, hg, y⟩ := rowV (k := K) h.r1 (by have := h.l1; omega)
 have oe := own_eq (p := p) (pl := player) g1 k0 g3 g.pl
 obtain ⟨O, hO⟩ : ∃ O : Nat, 2 * p - 1 - (K : Int) = (O : Int) := ⟨(2 * p - 1 - (K : Int)).toNat, by omega⟩
 have q2 : (O : Int) < (pn1 : Int) := by omega
 obtain ⟨g', o', ha, _, y2⟩ := rowV (k := O) h.r1 (by have := h.l1; omega)
 cases ha
 have v20 := (vAt_bd g.q1 g.t1 (O : Int)).1
 rw [hO] at hL
 have HOe := Lib.hid hO
 clear h g gn hO
 generalize vAt xs (K : Int) = v at *
 generalize vAt xs (O : Int) = v2 at *
 rcases hb1 : ownB p player (K : Int) with _ | _
 ·have e : L = [] := by rw [← hL, hb1]; rfl
  subst e
  rw [hb1] at oe
  clear hL hb1
  go_enter Try.func84, Try.ntmps84
  go_wp2_with (go_at_call 85; refine (owner_any p _ _ _ (by go_simp) (by omega) (by omega) (by omega) (by omega)).mono ?_; rintro e w' ⟨rfl, rfl⟩)
  go_quiet ((go_at_call 98; exact quiet_w (opp_O p K O _ _ (by go_simp) (by omega) (by omega) (by omega) HOe.out) ⟨_, rfl⟩))
  go_wp2_with (first | (go_at_call 85; refine (owner_any p _ _ _ (by go_simp) (by omega) (by omega) (by omega) (by omega)).mono ?_; rintro e w' ⟨rfl, rfl⟩) | (go_at_call 98; refine (opp_O p K O _ _ (by go_simp) (by omega) (by omega) (by omega) HOe.out).mono ?_; rintro e w' ⟨rfl, rfl⟩))
  go_ret
  exact ⟨_, rfl, own_keep HO.out (below_dn (Below.refl _ _) _), (HX.out.dn _).be⟩
 ·rw [hb1] at oe
  by_cases hv : v = 1
  ·have t1 : (v == 1) = true := by simp [hv]
   by_cases hv2 : 0 < v2
   ·have e : L = [(K : Int), (O : Int)] := by rw [← hL, hb1, decide_eq_true hv, decide_eq_true hv2]; rfl
    subst e
    have t2 : decide (0 < v2) = true := by simpa using hv2
    clear hL hb1 hv
    go_enter Try.func84, Try.ntmps84
    go_wp2_with (go_at_call 85; refine (owner_any p _ _ _ (by go_simp) (by omega) (by omega) (by omega) (by omega)).mono ?_; rintro e w' ⟨rfl, rfl⟩)
    go_quiet ((go_at_call 98; exact quiet_w (opp_O p K O _ _ (by go_simp) (by omega) (by omega) (by omega) HOe.out) ⟨_, rfl⟩))
    go_wp2_with (first | (go_at_call 85; refine (owner_any p _ _ _ (by go_simp) (by omega) (by omega) (by omega) (by omega)).mono ?_; rintro e w' ⟨rfl, rfl⟩) | (go_at_call 98; refine (opp_O p K O _ _ (by go_simp) (by omega) (by omega) (by omega) HOe.out).mono ?_; rintro e w' ⟨rfl, rfl⟩) | (at_builtin; refine wpList_append_own _ rfl _ _ 24 rfl w.heap.size 2 i0 (.int .i64 0) 1 8 Try.underlying24 hi hz0 hz1 hz2 rfl (by decide) _ 0 [] rfl (own_da HO.out _ _) ⟨_, 0, none⟩ 2 2 (nvs [(K : Int), (O : Int)]) rfl (by simp [nvs]) (row_news (by have h := (out_two ((w.alloc (.cells #[] 2)).drewN nq) (K : Int) (O : Int) 2).row; simpa using h)) (nvs_cell _) (by unfold maxLen; omega) (by omega) (by have := HX.out.be.size; simp; omega) ?_; intro v1 w3 hown1 hgrow1 hnil1))
    go_ret
    exact ⟨_, rfl, hown1, (L6N.grown (by first | exact HX.out.below (al1 _ _) | exact HX.out.drew.below (al1 _ _) | exact (HX.out.dn _).below (al1 _ _)) hgrow1 hb hd (fun q hq => (HO.out.lt q hq).1)).be⟩
   ·have e : L = [] := by rw [← hL, hb1, decide_eq_false hv2]; simp
    subst e
    have t2 : decide (0 < v2) = false := by simpa using hv2
    clear hL hb1 hv
    go_enter Try.func84, Try.ntmps84
    go_wp2_with (go_at_call 85; refine (owner_any p _ _ _ (by go_simp) (by omega) (by omega) (by omega) (by omega)).mono ?_; rintro e w' ⟨rfl, rfl⟩)
    go_quiet ((go_at_call 98; exact quiet_w (opp_O p K O _ _ (by go_simp) (by omega) (by omega) (by omega) HOe.out) ⟨_, rfl⟩))
    go_wp2_with (first | (go_at_call 85; refine (owner_any p _ _ _ (by go_simp) (by omega) (by omega) (by omega) (by omega)).mono ?_; rintro e w' ⟨rfl, rfl⟩) | (go_at_call 98; refine (opp_O p K O _ _ (by go_simp) (by omega) (by omega) (by omega) HOe.out).mono ?_; rintro e w' ⟨rfl, rfl⟩))
    go_ret
    exact ⟨_, rfl, own_keep HO.out (below_dn (Below.refl _ _) _), (HX.out.dn _).be⟩
  ·have t1 : (v == 1) = false := by simp [hv]
   have e : L = [] := by rw [← hL, decide_eq_false hv]; simp
   subst e
   clear hL hb1 hv
   go_enter Try.func84, Try.ntmps84
   go_wp2_with (go_at_call 85; refine (owner_any p _ _ _ (by go_simp) (by omega) (by omega) (by omega) (by omega)).mono ?_; rintro e w' ⟨rfl, rfl⟩)
   go_quiet ((go_at_call 98; exact quiet_w (opp_O p K O _ _ (by go_simp) (by omega) (by omega) (by omega) HOe.out) ⟨_, rfl⟩))
   go_wp2_with (first | (go_at_call 85; refine (owner_any p _ _ _ (by go_simp) (by omega) (by omega) (by omega) (by omega)).mono ?_; rintro e w' ⟨rfl, rfl⟩) | (go_at_call 98; refine (opp_O p K O _ _ (by go_simp) (by omega) (by omega) (by omega) HOe.out).mono ?_; rintro e w' ⟨rfl, rfl⟩))
   go_ret
   exact ⟨_, rfl, own_keep HO.out (below_dn (Below.refl _ _) _), (HX.out.dn _).be⟩
theorem l06Raw_3 (p s c l : Int) (st sk re fe ag : Bool) (player : Int) (p1 p2 : Option Addr) (pn1 pc1 pn2 pc2 K : Nat) (pq : Int) (xs ys : List Int) (b d : Nat) (w : World) (hr : RuAt w b p s c l st sk re fe ag) (hs : SoAt w d p1 p2 pn1 pc1 pn2 pc2 (K : Int) pq) (h : PosR w p1 p2 pn1 pn2 xs ys) (g : Good p s c l st sk re fe ag player pn1 pn2 (K : Int) xs ys) (e1 : (c == 1) = false) (e2 : (c == 2) = false) (e3 : (c == 3) = true)
  (L : List Int) (hL : (if ownB p (1 - player) K && decide (vAt xs K % 2 = 0) then [(K : Int)] else []) = L) :
  Calls Try.prog 84 #[.pointer (some ⟨b, 0, none⟩), .pointer (some ⟨d, 0, none⟩), .int .i64 player] w (OwnP L L.length w) := by
 obtain ⟨i0, hi, hz0, hz1, hz2⟩ := info_parts infoN
 have HX := Lib.hid (show L6N w b d p s c l st sk re fe ag p1 p2 pn1 pc1 pn2 pc2 (K : Int) pq w from ⟨hr, hs, Below.refl _ _⟩)
 have HO := Lib.hid (World.ownsRow_made (e := 2) (size := 1) w #[] 0 (Nat.le_refl _) (by decide) rfl)
 have HX := Lib.hid (HX.out.below (al1 w (.cells #[] 2)))
 have G := Lib.hid g
 obtain ⟨hb, r0, r1, r2, r3, r4, r5, r6, r7, r8⟩ := hr
 obtain ⟨hd, s0, s1, s2, s3⟩ := hs
 have g1 := g.p2.1
 have g2 := g.p2.2
 have g3 := g.l2
 have gn := g.n1
 have k0 : (0 : Int) ≤ (K : Int) := by omega
 have q1 : (K : Int) < (pn1 : Int) := by omega
 obtain ⟨gx, ox, rfl, hg, y⟩ := rowV (k := K) h.r1 (by have := h.l1; omega)
 have oe := own_eq (p := p) (pl := player) g1 k0 g3 g.pl
 rw [own_other g1 k0 g3 g.pl] at hL
 have v0 := (vAt_bd g.q1 g.t1 (K : Int)).1
 clear h g gn
 generalize vAt xs (K : Int) = v at *
 rcases hb1 : ownB p player (K : Int) with _ | _
 ·rw [hb1] at oe hL
  by_cases hv : v % 2 = 0
  ·have e : L = [(K : Int)] := by rw [← hL, decide_eq_true hv]; rfl
   subst e
   have t1 : (v % 2 == 0) = true := by simp [hv]
   have t2 : (v.tmod 2 == 0) = true := by rw [Int.tmod_eq_emod_of_nonneg v0]; exact t1
   clear hL hb1 hv
   go_enter Try.func84, Try.ntmps84
   go_wp2_with (first | (go_at_call 85; refine (owner_any p _ _ _ (by go_simp) (by omega) (by omega) (by omega) (by omega)).mono ?_; rintro e w' ⟨rfl, rfl⟩) | (at_builtin; refine wpList_append_own _ rfl _ _ 24 rfl w.heap.size 2 i0 (.int .i64 0) 1 8 Try.underlying24 hi hz0 hz1 hz2 rfl (by decide) _ 0 [] rfl (own_keep HO.out (al1 _ _)) ⟨_, 0, none⟩ 1 1 (nvs [(K : Int)]) rfl (by simp [nvs]) (row_news (by have h := row_1 (w.alloc (.cells #[] 2)) (K : Int) 2; simpa using h)) (nvs_cell _) (by unfold maxLen; omega) (by omega) (by have := HX.out.be.size; simp; omega) ?_; intro v1 w3 hown1 hgrow1 hnil1))
   go_ret
   exact ⟨_, rfl, hown1, (L6N.grown (by first | exact HX.out.below (al1 _ _) | exact HX.out.drew.below (al1 _ _) | exact (HX.out.dn _).below (al1 _ _)) hgrow1 hb hd (fun q hq => (HO.out.lt q hq).1)).be⟩
  ·have e : L = [] := by rw [← hL, decide_eq_false hv]; simp
   subst e
   have t1 : (v % 2 == 0) = false := by simp [hv]
   have t2 : (v.tmod 2 == 0) = false := by rw [Int.tmod_eq_emod_of_nonneg v0]; exact t1
   clear hL hb1 hv
   go_enter Try.func84, Try.ntmps84
   go_wp2_with (go_at_call 85; refine (owner_any p _ _ _ (by go_simp) (by omega) (by omega) (by omega) (by omega)).mono ?_; rintro e w' ⟨rfl, rfl⟩)
   go_ret
   exact ⟨_, rfl, HO.out, HX.out.be⟩
 ·rw [hb1] at oe hL
  have e : L = [] := by rw [← hL]; rfl
  subst e
  clear hL hb1
  go_enter Try.func84, Try.ntmps84
  go_wp2_with (go_at_call 85; refine (owner_any p _ _ _ (by go_simp) (by omega) (by omega) (by omega) (by omega)).mono ?_; rintro e w' ⟨rfl, rfl⟩)
  go_ret
  exact ⟨_, rfl, HO.out, HX.out.be⟩
theorem l06Raw_any (p s c l : Int) (st sk re fe ag : Bool) (player : Int) (p1 p2 : Option Addr) (pn1 pc1 pn2 pc2 : Nat) (pp pq : Int) (xs ys : List Int) (b d : Nat) (w : World) (hr : RuAt w b p s c l st sk re fe ag) (hs : SoAt w d p1 p2 pn1 pc1 pn2 pc2 pp pq) (h : PosR w p1 p2 pn1 pn2 xs ys) (g : Good p s c l st sk re fe ag player pn1 pn2 pp xs ys) :
  Calls Try.prog 84 #[.pointer (some ⟨b, 0, none⟩), .pointer (some ⟨d, 0, none⟩), .int .i64 player] w (OwnP (rawF c p player pp xs) (rawF c p player pp xs).length w) := by
 by_cases hz : pp < 0 ∨ c = 0
 ·have er : rawF c p player pp xs = [] := by
   unfold rawF
   by_cases hlt : pp < 0
   ·rw [if_pos hlt]
   ·have e : c = 0 := by omega
    rw [if_neg hlt, if_neg (show ¬ c = 1 by omega), if_neg (show ¬ c = 2 by omega), if_neg (show ¬ c = 3 by omega)]
  rw [er]
  exact l06Raw_0 p s c l st sk re fe ag player p1 p2 pn1 pc1 pn2 pc2 pp pq xs ys b d w hr hs g hz
 ·have hlt : ¬ pp < 0 := by omega
  have hc := g.c3
  obtain ⟨K, rfl⟩ : ∃ K : Nat, pp = (K : Int) := ⟨pp.toNat, by omega⟩
  rcases (show c = 1 ∨ c = 2 ∨ c = 3 by omega) with e | e | e
  ·have er : rawF c p player (K : Int) xs = twF p player xs (K + 1) := by unfold rawF; rw [if_neg hlt, if_pos e]; rfl
   rw [er]
   exact l06Raw_1 p s c l st sk re fe ag player _ _ _ _ _ _ _ _ xs ys (K + 1) b d w hr hs h g (by omega) (by omega) (by simp [e])
  ·refine l06Raw_2 p s c l st sk re fe ag player _ _ _ _ _ _ K _ xs ys b d w hr hs h g (by simp [e]) (by simp [e]) _ ?_
   unfold rawF
   rw [if_neg hlt, if_neg (show ¬ c = 1 by omega), if_pos e]
  ·refine l06Raw_3 p s c l st sk re fe ag player _ _ _ _ _ _ K _ xs ys b d w hr hs h g (by simp [e]) (by simp [e]) (by simp [e]) _ ?_
   unfold rawF
   rw [if_neg hlt, if_neg (show ¬ c = 1 by omega), if_neg (show ¬ c = 2 by omega), if_pos e]
/- Tk5 -/
theorem zero_posB : ∀ (L : List Int) {xs : List Int}, posB xs = true → posB (zeroAt xs L) = true
 | [], _, h => h
 | k :: r, _, h => zero_posB r (posB_set h (Int.le_refl 0))
theorem sumAt_cons (xs : List Int) (k : Int) (r : List Int) : sumAt xs (k :: r) = vAt xs k + sumAt xs r := by
 unfold sumAt
 simp [tot]
theorem sumAt_set {xs : List Int} {k : Int} : ∀ {r : List Int}, (∀ j ∈ r, 0 ≤ j) → 0 ≤ k → k ∉ r → sumAt (xs.set k.toNat 0) r = sumAt xs r
 | [], _, _, _ => rfl
 | j :: r, h0, hk, h => by
  have h1 : j ≠ k := fun e => h (e ▸ List.mem_cons_self)
  have h2 := h0 j List.mem_cons_self
  rw [sumAt_cons, sumAt_cons, sumAt_set (fun x hx => h0 x (List.mem_cons_of_mem _ hx)) hk (fun hm => h (List.mem_cons_of_mem _ hm))]
  unfold vAt
  rw [List.getD_eq_getElem?_getD, List.getD_eq_getElem?_getD, List.getElem?_set_ne (by omega)]
theorem zero_tot : ∀ (L : List Int) {xs : List Int}, (∀ k ∈ L, 0 ≤ k ∧ k < (xs.length : Int)) → L.Nodup → tot (zeroAt xs L) = tot xs - sumAt xs L
 | [], xs, _, _ => by simp [zeroAt, sumAt, tot]
 | k :: r, xs, h, hd => by
  have h1 := h k List.mem_cons_self
  have h2 := List.nodup_cons.1 hd
  rw [zeroAt, zero_tot r (by rw [List.length_set]; exact fun x hx => h x (List.mem_cons_of_mem _ hx)) h2.2, sumAt_cons, sumAt_set (fun x hx => (h x (List.mem_cons_of_mem _ hx)).1) h1.1 h2.1, tot_set (by omega)]
  unfold vAt
  omega
def tkX (c l p pl la : Int) (xs : List Int) : List Int := zeroAt xs (pitsF c l p pl la xs)
def tkY (c l p pl la : Int) (xs ys : List Int) : List Int := ys.set pl.toNat (ys.getD pl.toNat 0 + sumAt xs (pitsF c l p pl la xs))
section
variable {p s c l player : Int} {st sk re fe ag : Bool} {pn1 pn2 : Nat} {pp : Int} {xs ys : List Int}
theorem tkX_len : (tkX c l p player pp xs).length = xs.length := zero_len _ _
theorem tkY_len : (tkY c l p player pp xs ys).length = ys.length := by simp [tkY]
theorem Good.sum (g : Good p s c l st sk re fe ag player pn1 pn2 pp xs ys) (l1 : xs.length = pn1) : tot (tkX c l p player pp xs) = tot xs - sumAt xs (pitsF c l p player pp xs) ∧ 0 ≤ sumAt xs (pitsF c l p player pp xs) ∧ sumAt xs (pitsF c l p player pp xs) ≤ tot xs := by
 have h1 := zero_tot (pitsF c l p player pp xs) (xs := xs) (fun k hk => by have := pits_in g.l2 k hk; have := g.n1; omega) (pits_nodup _ _ _ _ _ _)
 have h2 := posB_tot (zero_posB (pitsF c l p player pp xs) g.q1)
 have h3 := (sumAt_bd g.q1 g.t1 (pitsF c l p player pp xs)).1
 exact ⟨h1, h3, by omega⟩
theorem Good.ylt (g : Good p s c l st sk re fe ag player pn1 pn2 pp xs ys) (l2 : ys.length = pn2) : player.toNat < ys.length := by
 have := g.n2
 rcases g.pl with h | h <;> rw [h, l2, this] <;> decide
theorem Good.tk (g : Good p s c l st sk re fe ag player pn1 pn2 pp xs ys) (l1 : xs.length = pn1) (l2 : ys.length = pn2) :
  posB (tkX c l p player pp xs) = true ∧ posB (tkY c l p player pp xs ys) = true ∧ tot (tkX c l p player pp xs) + tot (tkY c l p player pp xs ys) = tot xs + tot ys := by
 have h := g.sum l1
 refine ⟨zero_posB _ g.q1, posB_set g.q2 (by have := posB_getD g.q2 player.toNat; omega), ?_⟩
 unfold tkY
 rw [tot_set (g.ylt l2)]
 omega
end
/- Cap12 -/
structure Zero14 (u : World) (z : Nat) : Prop where
 lt : z < u.heap.size
 c0 : u.cell? ⟨z, 0, none⟩ = some (.int .i64 0)
 c1 : u.cell? ⟨z, 1, none⟩ = some (.int .i64 0)
 c2 : u.cell? ⟨z, 2, none⟩ = some (.bool false)
 c3 : u.cell? ⟨z, 3, none⟩ = some (.bool false)
 c4 : u.cell? ⟨z, 4, none⟩ = some (.bool false)
 c5 : u.cell? ⟨z, 5, none⟩ = some (.bool false)
 c6 : u.cell? ⟨z, 6, none⟩ = some (.bool false)
 c7 : u.cell? ⟨z, 7, none⟩ = some (.int .i64 0)
 c8 : u.cell? ⟨z, 8, none⟩ = some (.int .i64 0)
 c9 : u.cell? ⟨z, 9, none⟩ = some (.int .i64 0)
 c10 : u.cell? ⟨z, 10, none⟩ = some (.slice none 0 0)
 c11 : u.cell? ⟨z, 11, none⟩ = some (.slice none 0 0)
 c12 : u.cell? ⟨z, 12, none⟩ = some (.int .i64 0)
 c13 : u.cell? ⟨z, 13, none⟩ = some (.int .i64 0)
 fr : ∀ o, u.frozen? ⟨z, o, none⟩ = false
theorem Zero14.below {u v : World} {z : Nat} (h : Zero14 u z) (k : Below u.heap.size u v) : Zero14 v z := by
 have e := fun o => k.cell (p := ⟨z, o, none⟩) h.lt
 exact ⟨Nat.lt_of_lt_of_le h.lt k.size, (e _).trans h.c0, (e _).trans h.c1, (e _).trans h.c2, (e _).trans h.c3, (e _).trans h.c4, (e _).trans h.c5, (e _).trans h.c6, (e _).trans h.c7, (e _).trans h.c8, (e _).trans h.c9, (e _).trans h.c10, (e _).trans h.c11, (e _).trans h.c12, (e _).trans h.c13, fun o => (k.frozen (p := ⟨z, o, none⟩) h.lt).trans (h.fr o)⟩
structure BcAt (w : World) (p s c l : Int) (st sk re fe ag : Bool) (p1 p2 : Option Addr) (pn1 pc1 pn2 pc2 : Nat) (pp pq : Int) (u : World) : Prop where
 rs : RsAt w p s c l st sk re fe ag p1 p2 pn1 pc1 pn2 pc2 pp pq u
 z : Zero14 u (w.heap.size + 1 + 1)
theorem BcAt.below {w u v : World} {p s c l : Int} {st sk re fe ag : Bool} {p1 p2 : Option Addr} {pn1 pc1 pn2 pc2 : Nat} {pp pq : Int} (h : BcAt w p s c l st sk re fe ag p1 p2 pn1 pc1 pn2 pc2 pp pq u) (k : Below u.heap.size u v) : BcAt w p s c l st sk re fe ag p1 p2 pn1 pc1 pn2 pc2 pp pq v := ⟨h.rs.below k, h.z.below k⟩
/- Tk7 -/
def SoP (n1 n2 : Nat) (la lp : Int) (xs ys : List Int) (w : World) (e : Ending) (w' : World) : Prop :=
 ∃ b1 c1 b2 c2, e = .returned (.agg #[.slice (some ⟨b1, 0, none⟩) n1 c1, .slice (some ⟨b2, 0, none⟩) n2 c2, .int .i64 la, .int .i64 lp]) ∧ PosO w' w.heap.size (some ⟨b1, 0, none⟩) (some ⟨b2, 0, none⟩) b1 b2 n1 n2 xs ys ∧ b1 < w'.heap.size ∧ b2 < w'.heap.size ∧ n1 ≤ c1 ∧ n2 ≤ c2 ∧ Below w.heap.size w w'
theorem CpAt.but {w u v : World} {p s c l player : Int} {st sk re fe ag : Bool} {p1 p2 : Option Addr} {pn1 pc1 pn2 pc2 : Nat} {pp pq : Int} {z : Nat} (h : CpAt w p s c l st sk re fe ag player p1 p2 pn1 pc1 pn2 pc2 pp pq u) (k : But z u v) (hz : w.heap.size < z) : CpAt w p s c l st sk re fe ag player p1 p2 pn1 pc1 pn2 pc2 pp pq v := by
 obtain ⟨⟨hb, h⟩, hw⟩ := h
 have e := fun o => k.cell (c := w.heap.size) (o := o) hb (by omega)
 exact ⟨⟨Nat.lt_of_lt_of_le hb k.size, by rw [e, e, e, e, e, e, e, e, e, e, e, e, e, e]; exact h⟩, But.lift hw k (Nat.le_of_lt hz)⟩
theorem CpAt.set4 {w u : World} {p s c l player : Int} {st sk re fe ag : Bool} {p1 p2 : Option Addr} {pn1 pc1 pn2 pc2 : Nat} {pp pq : Int} {z : Nat} (h : CpAt w p s c l st sk re fe ag player p1 p2 pn1 pc1 pn2 pc2 pp pq u) (hz : w.heap.size < z) (x y t q : Value) : CpAt w p s c l st sk re fe ag player p1 p2 pn1 pc1 pn2 pc2 pp pq ((((u.setCell ⟨z, 0, none⟩ x).setCell ⟨z, 1, none⟩ y).setCell ⟨z, 2, none⟩ t).setCell ⟨z, 3, none⟩ q) := h.but (but4 z u x y t q) hz
structure TkF (w : World) (p s c l : Int) (st sk re fe ag : Bool) (player : Int) (p1 p2 : Option Addr) (pn1 pc1 pn2 pc2 : Nat) (pp pq : Int) (s0 b5 c5 b6 c6 : Nat) (xs ys : List Int) (u : World) : Prop where
 cp : CpAt w p s c l st sk re fe ag player p1 p2 pn1 pc1 pn2 pc2 pp pq u
 z : Z4 u (w.heap.size + 1)
 so : SoS u (w.heap.size + 2) s0 b5 c5 b6 c6 pn1 pp pq xs ys
 l5 : b5 < u.heap.size
 l6 : b6 < u.heap.size
 k5 : pn1 ≤ c5
 k6 : 2 ≤ c6
 ms : w.heap.size + 2 ≤ s0
theorem Z4.but {u v : World} {z b : Nat} (h : Z4 u z) (k : But b u v) (hb : z ≠ b) : Z4 v z := by
 obtain ⟨h0, h1, h2, h3, h4, h5, h6, h7, h8⟩ := h
 have e := fun o => k.cell (c := z) (o := o) h0 hb
 have f := fun o => k.frozen (c := z) (o := o) h0 hb
 exact ⟨Nat.lt_of_lt_of_le h0 k.size, (e _).trans h1, (e _).trans h2, (e _).trans h3, (e _).trans h4, (f _).trans h5, (f _).trans h6, (f _).trans h7, (f _).trans h8⟩
theorem tk_fin {w u : World} (p s c l : Int) (st sk re fe ag : Bool) (player : Int) (p1 p2 : Option Addr) (pn1 pc1 pn2 pc2 : Nat) (pp pq : Int) {s0 b5 c5 b6 c6 B1 B2 : Nat} {xs ys : List Int} (hc : CpAt w p s c l st sk re fe ag player p1 p2 pn1 pc1 pn2 pc2 pp pq u) (hz : Z4 u (w.heap.size + 1)) (hY : Z4 u s0) (hf : ∀ o, u.frozen? ⟨s0, o, none⟩ = false)
  (o1 : OutN u B1 (some ⟨b5, 0, none⟩) b5 xs) (o2 : OutN u B2 (some ⟨b6, 0, none⟩) b6 ys) (l1 : xs.length = pn1) (l2 : ys.length = 2) (ne : b5 ≠ b6) (n5 : b5 ≠ s0) (n6 : b6 ≠ s0) (l5 : b5 < u.heap.size) (l6 : b6 < u.heap.size) (ms : w.heap.size + 2 ≤ s0) (hB1 : w.heap.size + 2 ≤ B1) (hB2 : w.heap.size + 2 ≤ B2) (k5 : pn1 ≤ c5) (k6 : 2 ≤ c6) :
  TkF w p s c l st sk re fe ag player p1 p2 pn1 pc1 pn2 pc2 pp pq s0 b5 c5 b6 c6 xs ys ((((u.setCell ⟨s0, 0, none⟩ (.slice (some ⟨b5, 0, none⟩) pn1 c5)).setCell ⟨s0, 1, none⟩ (.slice (some ⟨b6, 0, none⟩) 2 c6)).setCell ⟨s0, 2, none⟩ (.int .i64 pp)).setCell ⟨s0, 3, none⟩ (.int .i64 pq)) := by
 have hb := but4 s0 u (.slice (some ⟨b5, 0, none⟩) pn1 c5) (.slice (some ⟨b6, 0, none⟩) 2 c6) (.int .i64 pp) (.int .i64 pq)
 obtain ⟨yl, y0, y1, y2, y3, f0, f1, f2, f3⟩ := hY
 exact ⟨hc.but hb (by omega), hz.but hb (by omega), ⟨⟨by simpa using yl, by go_simp, by go_simp, by go_simp, by go_simp⟩, fun o => by have := hf o; go_simp, (o1.but hb n5).lower hB1, (o2.but hb n6).lower hB2, l1, l2, fun e => n5 e.symm, fun e => n6 e.symm, ne⟩, by simpa using l5, by simpa using l6, k5, k6, ms⟩
theorem tk_fin2 {w u : World} (p s c l : Int) (st sk re fe ag : Bool) (player : Int) (p1 p2 : Option Addr) (pn1 pc1 pn2 pc2 : Nat) (pp pq : Int) {b5 c5 b6 c6 B1 B2 : Nat} {xs ys : List Int} (T : TypeId) (hc : CpAt w p s c l st sk re fe ag player p1 p2 pn1 pc1 pn2 pc2 pp pq u) (hz : Z4 u (w.heap.size + 1))
  (o1 : OutN u B1 (some ⟨b5, 0, none⟩) b5 xs) (o2 : OutN u B2 (some ⟨b6, 0, none⟩) b6 ys) (l1 : xs.length = pn1) (l2 : ys.length = 2) (ne : b5 ≠ b6) (l5 : b5 < u.heap.size) (l6 : b6 < u.heap.size) (hB1 : w.heap.size + 2 ≤ B1) (hB2 : w.heap.size + 2 ≤ B2) (k5 : pn1 ≤ c5) (k6 : 2 ≤ c6) :
  TkF w p s c l st sk re fe ag player p1 p2 pn1 pc1 pn2 pc2 pp pq u.heap.size b5 c5 b6 c6 xs ys (u.alloc (.cells #[.slice (some ⟨b5, 0, none⟩) pn1 c5, .slice (some ⟨b6, 0, none⟩) 2 c6, .int .i64 pp, .int .i64 pq] T)) :=
 ⟨hc.below (al1 _ _), hz.below (al1 _ _), ⟨so_new _ _ _ _ _ _ _ _ u T, fun o => by go_simp, (o1.below (al1 _ _)).lower hB1, (o2.below (al1 _ _)).lower hB2, l1, l2, by omega, by omega, ne⟩, by simp; omega, by simp; omega, k5, k6, hz.lt⟩
section
variable {w u v : World} {p s c l player : Int} {st sk re fe ag : Bool} {p1 p2 : Option Addr} {pn1 pc1 pn2 pc2 : Nat} {pp pq : Int} {s0 b5 c5 b6 c6 : Nat} {xs ys : List Int}
theorem TkF.below (h : TkF w p s c l st sk re fe ag player p1 p2 pn1 pc1 pn2 pc2 pp pq s0 b5 c5 b6 c6 xs ys u) (k : Below u.heap.size u v) : TkF w p s c l st sk re fe ag player p1 p2 pn1 pc1 pn2 pc2 pp pq s0 b5 c5 b6 c6 xs ys v :=
 ⟨h.cp.below k, h.z.below k, h.so.below k, Nat.lt_of_lt_of_le h.l5 k.size, Nat.lt_of_lt_of_le h.l6 k.size, h.k5, h.k6, h.ms⟩
theorem TkF.setX (h : TkF w p s c l st sk re fe ag player p1 p2 pn1 pc1 pn2 pc2 pp pq s0 b5 c5 b6 c6 xs ys u) {i : Nat} (hi : i < pn1) (x : Int) : TkF w p s c l st sk re fe ag player p1 p2 pn1 pc1 pn2 pc2 pp pq s0 b5 c5 b6 c6 (xs.set i x) ys (u.setCell ⟨b5, i, none⟩ (.int .i64 x)) :=
 have hb : But b5 u (u.setCell ⟨b5, i, none⟩ (.int .i64 x)) := (But.refl b5 u).setCell rfl _
 have h5 : w.heap.size + 2 ≤ b5 := h.so.o1.new
 ⟨h.cp.but hb (by omega), h.z.but hb (by omega), h.so.setX hi x, by simpa using h.l5, by simpa using h.l6, h.k5, h.k6, h.ms⟩
theorem TkF.setY (h : TkF w p s c l st sk re fe ag player p1 p2 pn1 pc1 pn2 pc2 pp pq s0 b5 c5 b6 c6 xs ys u) {i : Nat} (hi : i < 2) (x : Int) : TkF w p s c l st sk re fe ag player p1 p2 pn1 pc1 pn2 pc2 pp pq s0 b5 c5 b6 c6 xs (ys.set i x) (u.setCell ⟨b6, i, none⟩ (.int .i64 x)) :=
 have hb : But b6 u (u.setCell ⟨b6, i, none⟩ (.int .i64 x)) := (But.refl b6 u).setCell rfl _
 have h6 : w.heap.size + 2 ≤ b6 := h.so.o2.new
 ⟨h.cp.but hb (by omega), h.z.but hb (by omega), h.so.setY hi x, by simpa using h.l5, by simpa using h.l6, h.k5, h.k6, h.ms⟩
end
theorem set_self (ys : List Int) (i : Nat) (v : Int) (h : i < ys.length) : (ys.set i v).getD i 0 = v := by simp [List.getD, h]
theorem set_same (ys : List Int) (i : Nat) (h : i < ys.length) : ys.set i (ys.getD i 0 + 0) = ys := by
 apply List.ext_getElem?
 intro j
 by_cases e : i = j
 ·subst e
  simp [List.getD, h]
 ·rw [List.getElem?_set_ne e]
theorem nodup_take {L : List Int} (h : L.Nodup) {k : Nat} {q : Int} (hq : L[k]? = some q) : q ∉ L.take k := by
 intro hm
 obtain ⟨i, hi, e⟩ := List.mem_iff_getElem.1 hm
 rw [List.getElem_take] at e
 have hi2 : i < k := by simp at hi; omega
 obtain ⟨hk, e'⟩ := List.getElem?_eq_some_iff.1 hq
 exact (List.pairwise_iff_getElem.1 h) i k (by omega) hk hi2 (e.trans e'.symm)
theorem capTake_any (p s c l : Int) (st sk re fe ag : Bool) (player : Int) (p1 p2 : Option Addr) (pn1 pc1 pc2 : Nat) (pp pq : Int) (xs ys : List Int) (w : World) (h : PosR w p1 p2 pn1 2 xs ys) (g : Good p s c l st sk re fe ag player pn1 2 pp xs ys) (hcap : pn1 ≤ pc1) :
  Calls Try.prog 74 #[.agg #[.int .i64 p, .int .i64 s, .bool st, .bool sk, .bool re, .bool fe, .bool ag, .int .i64 c, .int .i64 l, .int .i64 player, .slice p1 pn1 pc1, .slice p2 2 pc2, .int .i64 pp, .int .i64 pq]] w (SoP pn1 2 pp pq (tkX c l p player pp xs) (tkY c l p player pp xs ys) w) := by
 obtain ⟨P, rfl⟩ : ∃ P : Nat, player = (P : Int) := ⟨player.toNat, by have := g.pl; omega⟩
 have hP2 : P < 2 := by have := g.pl; omega
 have HND := Lib.hid (pits_nodup c l p (P : Int) pp xs)
 have H := Lib.hid h
 have G := Lib.hid g
 have hle1 : pn1 ≤ 1000000000000 := by have := h.r1.1; rwa [h.l1] at this
 have hle2 : 2 ≤ 1000000000000 := by omega
 have HN1 : Hid (xs ≠ []) := Lib.hid (by intro e; have := h.l1; have := g.n1; have := g.p2.1; subst e; simp at *; omega)
 have HN2 : Hid (ys ≠ []) := Lib.hid (by intro e; have := h.l2; subst e; simp at this)
 have HP := Lib.hid ((cp_new p s c l st sk re fe ag (P : Int) p1 p2 pn1 pc1 2 pc2 pp pq w 77).below (al1 _ (.cells #[.slice none 0 0, .slice none 0 0, .int .i64 0, .int .i64 0] 75)))
 have HZ := Lib.hid (show Z4 _ (w.heap.size + 1) from by have := z4_new (w.alloc (.cells #[.int .i64 p, .int .i64 s, .bool st, .bool sk, .bool re, .bool fe, .bool ag, .int .i64 c, .int .i64 l, .int .i64 (P : Int), .slice p1 pn1 pc1, .slice p2 2 pc2, .int .i64 pp, .int .i64 pq] 77)) 75; simpa using this)
 have HPits : Hid (∀ u, Below w.heap.size w u → Calls Try.prog 91 #[.agg #[.int .i64 p, .int .i64 s, .bool st, .bool sk, .bool re, .bool fe, .bool ag, .int .i64 c, .int .i64 l, .int .i64 (P : Int), .slice p1 pn1 pc1, .slice p2 2 pc2, .int .i64 pp, .int .i64 pq]] u (OwnP (pitsF c l p (P : Int) pp xs) (pitsF c l p (P : Int) pp xs).length u)) := Lib.hid (fun u hu => pits_any p s c l st sk re fe ag (P : Int) _ _ _ _ _ _ _ _ xs ys u (h.below hu) g hcap)
 have HLp : Hid ((pitsF c l p (P : Int) pp xs).length ≤ 1000) := Lib.hid (by have := pits_len (cp := c) (sl := l) (pl := (P : Int)) (xs := xs) g.p2.2 g.p2.1 g.l2; omega)
 have HPin : Hid (∀ k ∈ pitsF c l p (P : Int) pp xs, 0 ≤ k ∧ k < (pn1 : Int)) := Lib.hid (fun k hk => by have := pits_in g.l2 k hk; have := g.n1; omega)
 rw [show tkX c l p (P : Int) pp xs = zeroAt xs (pitsF c l p (P : Int) pp xs) from rfl, show tkY c l p (P : Int) pp xs ys = ys.set P (ys.getD P 0 + sumAt xs (pitsF c l p (P : Int) pp xs)) from rfl]
 generalize pitsF c l p (P : Int) pp xs = L at *
 obtain ⟨TX, hTX⟩ : ∃ X, zeroAt xs L = X := ⟨_, rfl⟩
 obtain ⟨TY, hTY⟩ : ∃ Y, ys.set P (ys.getD P 0 + sumAt xs L) = Y := ⟨_, rfl⟩
 rw [hTX, hTY]
 have HTX := Lib.hid hTX
 have HTY := Lib.hid hTY
 clear h g hTX hTY
 go_enter Try.func74, Try.ntmps74
 go_upto_region 1 with fail
 generalize (w.alloc (.cells #[.int .i64 p, .int .i64 s, .bool st, .bool sk, .bool re, .bool fe, .bool ag, .int .i64 c, .int .i64 l, .int .i64 (P : Int), .slice p1 pn1 pc1, .slice p2 2 pc2, .int .i64 pp, .int .i64 pq] 77)).alloc (.cells #[.slice none 0 0, .slice none 0 0, .int .i64 0, .int .i64 0] 75) = u2 at *
 have HB := Lib.hid (show OnW u2 u2 from Below.refl _ _)
 have HW : Hid (Below w.heap.size w u2) := Lib.hid HP.out.be
 have hwu : w.heap.size + 1 < u2.heap.size := HZ.out.lt
 have H := Lib.hid (H.out.below HW.out)
 have HT : Hid (∀ u : World, CpAt w p s c l st sk re fe ag (P : Int) p1 p2 pn1 pc1 2 pc2 pp pq u → OnW u2 u → (w.heap.size < u.heap.size ∧ u.cell? ⟨w.heap.size, 0, none⟩ = some (.int .i64 p) ∧ u.cell? ⟨w.heap.size, 1, none⟩ = some (.int .i64 s) ∧ u.cell? ⟨w.heap.size, 2, none⟩ = some (.bool st) ∧ u.cell? ⟨w.heap.size, 3, none⟩ = some (.bool sk) ∧ u.cell? ⟨w.heap.size, 4, none⟩ = some (.bool re) ∧ u.cell? ⟨w.heap.size, 5, none⟩ = some (.bool fe) ∧ u.cell? ⟨w.heap.size, 6, none⟩ = some (.bool ag) ∧ u.cell? ⟨w.heap.size, 7, none⟩ = some (.int .i64 c) ∧ u.cell? ⟨w.heap.size, 8, none⟩ = some (.int .i64 l) ∧ u.cell? ⟨w.heap.size, 9, none⟩ = some (.int .i64 (P : Int)) ∧ u.cell? ⟨w.heap.size, 10, none⟩ = some (.slice p1 pn1 pc1) ∧ u.cell? ⟨w.heap.size, 11, none⟩ = some (.slice p2 2 pc2) ∧ u.cell? ⟨w.heap.size, 12, none⟩ = some (.int .i64 pp) ∧ u.cell? ⟨w.heap.size, 13, none⟩ = some (.int .i64 pq)) ∧ Below u2.heap.size u2 u) := Lib.hid (fun u h k => ⟨h.1, k⟩)
 go_cut [3] (fun s3 wx => ∃ s0 b5 c5 b6 c6 : Nat, s3 = .pointer (some ⟨s0, 0, none⟩) ∧ TkF w p s c l st sk re fe ag (P : Int) p1 p2 pn1 pc1 2 pc2 pp pq s0 b5 c5 b6 c6 xs ys wx)
 case first =>
  go_region_held3 (fun u => (w.heap.size < u.heap.size ∧ u.cell? ⟨w.heap.size, 0, none⟩ = some (.int .i64 p) ∧ u.cell? ⟨w.heap.size, 1, none⟩ = some (.int .i64 s) ∧ u.cell? ⟨w.heap.size, 2, none⟩ = some (.bool st) ∧ u.cell? ⟨w.heap.size, 3, none⟩ = some (.bool sk) ∧ u.cell? ⟨w.heap.size, 4, none⟩ = some (.bool re) ∧ u.cell? ⟨w.heap.size, 5, none⟩ = some (.bool fe) ∧ u.cell? ⟨w.heap.size, 6, none⟩ = some (.bool ag) ∧ u.cell? ⟨w.heap.size, 7, none⟩ = some (.int .i64 c) ∧ u.cell? ⟨w.heap.size, 8, none⟩ = some (.int .i64 l) ∧ u.cell? ⟨w.heap.size, 9, none⟩ = some (.int .i64 (P : Int)) ∧ u.cell? ⟨w.heap.size, 10, none⟩ = some (.slice p1 pn1 pc1) ∧ u.cell? ⟨w.heap.size, 11, none⟩ = some (.slice p2 2 pc2) ∧ u.cell? ⟨w.heap.size, 12, none⟩ = some (.int .i64 pp) ∧ u.cell? ⟨w.heap.size, 13, none⟩ = some (.int .i64 pq)) ∧ Below u2.heap.size u2 u) (first | with_reducible exact HT.out _ HP.out HB.out | with_reducible exact HT.out _ HP.out.drew HB.out.drew | with_reducible exact HT.out _ (HP.out.below (al1 _ _)) (HB.out.below (al1 _ _)) | with_reducible exact HT.out _ (HP.out.drew.below (al1 _ _)) (HB.out.drew.below (al1 _ _)) | with_reducible exact HT.out _ (HP.out.below (al1 _ _)).drew (HB.out.below (al1 _ _)).drew | with_reducible exact HT.out _ (HP.out.set4 (by omega) _ _ _ _) (HB.out.set4 (by omega) _ _ _ _) | with_reducible exact HT.out _ ((HP.out.below (al1 _ _)).set4 (by omega) _ _ _ _) ((HB.out.below (al1 _ _)).set4 (by omega) _ _ _ _))
   (first
   | (go_at_call 67; (with_reducible refine (clone_any p1 pc1 pn1 xs _ H.out.l1 ?_ HN1.out).mono ?_); (first | with_reducible exact H.out.r1.below (HB.out).bel | with_reducible exact H.out.r1.below (HB.out.drew).bel | with_reducible exact H.out.r1.below (HB.out.below (al1 _ _)).bel | with_reducible exact H.out.r1.below (HB.out.drew.below (al1 _ _)).bel | with_reducible exact H.out.r1.below ((HB.out.below (al1 _ _)).drew).bel); rintro e w5 ⟨v1, rfl, hown, hb5⟩; (obtain ⟨c5, b5, rfl, o5, hlt5, hc5⟩ := outN_own hown H.out.l1 hle1 HN1.out); have O1 := Lib.hid o5; have nb1 := o5.new; (first | have HY := Lib.hid ((z4_new u2 75).drew.below hb5) | have HY := Lib.hid ((z4_new u2.drew 75).below hb5) | have HY := Lib.hid ((z4_new u2 75).below hb5) | skip); (first | have HG := Lib.hid ((nf_new u2 _ 75).drew.below hb5) | have HG := Lib.hid ((nf_new u2.drew _ 75).below hb5) | have HG := Lib.hid ((nf_new u2 _ 75).below hb5) | skip); (first | have HP := Lib.hid (HP.out.below hb5) | have HP := Lib.hid (HP.out.drew.below hb5) | have HP := Lib.hid ((HP.out.below (al1 _ _)).below hb5) | have HP := Lib.hid ((HP.out.below (al1 _ _)).drew.below hb5)); (first | have HZ := Lib.hid (HZ.out.below hb5) | have HZ := Lib.hid (HZ.out.drew.below hb5) | have HZ := Lib.hid ((HZ.out.below (al1 _ _)).below hb5) | have HZ := Lib.hid ((HZ.out.below (al1 _ _)).drew.below hb5)); (first | have HB := Lib.hid (HB.out.below hb5) | have HB := Lib.hid (HB.out.drew.below hb5) | have HB := Lib.hid ((HB.out.below (al1 _ _)).below hb5) | have HB := Lib.hid ((HB.out.below (al1 _ _)).drew.below hb5)); have nz5 := HZ.out.lt; have nb5 := HB.out.size; clear hown hb5 o5)
   | (go_at_call 67; (with_reducible refine (clone_any p2 pc2 2 ys _ H.out.l2 ?_ HN2.out).mono ?_); (first | with_reducible exact H.out.r2.below (HB.out).bel | with_reducible exact H.out.r2.below (HB.out.drew).bel | with_reducible exact H.out.r2.below (HB.out.below (al1 _ _)).bel | with_reducible exact H.out.r2.below (HB.out.drew.below (al1 _ _)).bel | with_reducible exact H.out.r2.below ((HB.out.below (al1 _ _)).drew).bel); rintro e w6 ⟨v2, rfl, hown, hb6⟩; (obtain ⟨c6, b6, rfl, o6, hlt6, hc6⟩ := outN_own hown H.out.l2 hle2 HN2.out); have O2 := Lib.hid o6; have nb2 := o6.new; (first | have HY := Lib.hid (HY.out.below hb6) | have HY := Lib.hid (HY.out.drew.below hb6) | have HY := Lib.hid ((z4_new w5 75).below hb6) | have HY := Lib.hid ((z4_new w5 75).drew.below hb6) | have HY := Lib.hid ((z4_new w5.drew 75).below hb6) | skip); (first | have HG := Lib.hid (HG.out.below hb6) | have HG := Lib.hid (HG.out.drew.below hb6) | have HG := Lib.hid ((nf_new w5 _ 75).below hb6) | have HG := Lib.hid ((nf_new w5 _ 75).drew.below hb6) | have HG := Lib.hid ((nf_new w5.drew _ 75).below hb6) | skip); (try obtain ⟨yz, y0, y1, y2, y3, k0, k1, k2, k3⟩ := HY.out); (first | have HP := Lib.hid (HP.out.below hb6) | have HP := Lib.hid (HP.out.drew.below hb6) | have HP := Lib.hid ((HP.out.below (al1 _ _)).below hb6) | have HP := Lib.hid ((HP.out.below (al1 _ _)).drew.below hb6)); (first | have HZ := Lib.hid (HZ.out.below hb6) | have HZ := Lib.hid (HZ.out.drew.below hb6) | have HZ := Lib.hid ((HZ.out.below (al1 _ _)).below hb6) | have HZ := Lib.hid ((HZ.out.below (al1 _ _)).drew.below hb6)); (first | have HB := Lib.hid (HB.out.below hb6) | have HB := Lib.hid (HB.out.drew.below hb6) | have HB := Lib.hid ((HB.out.below (al1 _ _)).below hb6) | have HB := Lib.hid ((HB.out.below (al1 _ _)).drew.below hb6)); (first | have O1 := Lib.hid (O1.out.below hb6) | have O1 := Lib.hid (O1.out.drew.below hb6) | have O1 := Lib.hid ((O1.out.below (al1 _ _)).below hb6) | have O1 := Lib.hid ((O1.out.below (al1 _ _)).drew.below hb6)); have nz6 := HZ.out.lt; have nb6 := HB.out.size; clear hown hb6 o6))
  all_goals (try simp at nb1)
  all_goals (try simp at nb2)
  all_goals go_wp2_with fail
  all_goals go_meet
  all_goals have hl5 := (O1.out.free HN1.out).1
  all_goals have hb5' := HB.out.size
  all_goals first
   | exact ⟨_, _, _, _, _, rfl, tk_fin2 p s c l st sk re fe ag (P : Int) p1 p2 pn1 pc1 2 pc2 pp pq 75 HP.out HZ.out O1.out O2.out H.out.l1 H.out.l2 (by omega) hl5 hlt6 (by first | omega | (simp; done) | (simp; omega)) (by first | omega | (simp; done) | (simp; omega)) hc5 hc6⟩
   | exact ⟨_, _, _, _, _, rfl, tk_fin p s c l st sk re fe ag (P : Int) p1 p2 pn1 pc1 2 pc2 pp pq HP.out HZ.out HY.out HG.out.2 O1.out O2.out H.out.l1 H.out.l2 (by omega) (by omega) (by omega) hl5 hlt6 (by first | omega | (simp; done) | (simp; omega)) (by first | omega | (simp; done) | (simp; omega)) (by first | omega | (simp; done) | (simp; omega)) hc5 hc6⟩
 case rest =>
  obtain ⟨s0, b5, c5, b6, c6, rfl, hF⟩ := hcut
  have HF := Lib.hid hF
  obtain ⟨⟨_, c0, c1, c2, c3, c4, c5', c6', c7, c8, c9, c10, c11, c12, c13⟩, -⟩ := hF.cp
  have hF5 := hF.l5
  have hF6 := hF.l6
  clear hF HB HT HP HZ
  go_wp2_with fail
  refine (HPits.out _ HF.out.cp.be).mono ?_
  rintro e w5 ⟨v5, rfl, hown, hb5⟩
  have hbW := HF.out.cp.be
  have hwc : w.heap.size ≤ wc.heap.size := hbW.size
  have HF := Lib.hid (HF.out.below hb5)
  have HL5 := Lib.hid (show b5 < wc.heap.size ∧ b6 < wc.heap.size from ⟨hF5, hF6⟩)
  obtain ⟨a5, cc5, rfl, -⟩ := own_slice hown rfl HLp.out
  have HO := Lib.hid hown
  clear hown hb5 hF5 hF6
  go_wp2_with fail
  generalize hn : L.length = n at *
  have Hn := Lib.hid hn
  go_loopw [24] (fun i wr => ∃ (k : Nat), k ≤ n ∧ i = .int .i64 k ∧ TkF w p s c l st sk re fe ag (P : Int) p1 p2 pn1 pc1 2 pc2 pp pq s0 b5 c5 b6 c6 (zeroAt xs (L.take k)) (ys.set P (ys.getD P 0 + sumAt xs (L.take k))) wr ∧ wr.ownsRow wc.heap.size 2 1 (.slice a5 n cc5) n (nvs L)) (fun i _ => n - (intOf i).toNat)
  case atStart =>
   refine ⟨0, Nat.zero_le _, rfl, ?_, HO.out⟩
   rw [show sumAt xs (L.take 0) = 0 from rfl, set_same _ _ (by rw [H.out.l2]; exact hP2)]
   exact HF.out
  case round =>
   obtain ⟨k, hk, rfl, hI, hown⟩ := hrel
   have HI := Lib.hid hI
   have HOw := Lib.hid hown
   clear hI hown
   have hb := sumAt_bd G.out.q1 G.out.t1 (L.take k)
   rw [List.length_take] at hb
   have hly : P < ys.length := by rw [H.out.l2]; exact hP2
   have hy0 := posB_getD G.out.q2 P
   have hy1 : ys.getD P 0 ≤ 96 := by have := getD_le G.out.q2 P; have := posB_tot G.out.q1; have := G.out.q3; omega
   have hsb : 0 ≤ sumAt xs (L.take k) ∧ sumAt xs (L.take k) ≤ 96 * 1000 := by have := HLp.out; omega
   obtain ⟨hsb0, hsb1⟩ := hsb
   clear hb
   by_cases hlt : k < n
   ·obtain ⟨q, hq⟩ : ∃ q, L[k]? = some q := ⟨L[k]'(by rw [hn]; exact hlt), List.getElem?_eq_getElem _⟩
    obtain ⟨q0, q1⟩ := HPin.out q (List.mem_of_getElem? hq)
    obtain ⟨Q, rfl⟩ : ∃ Q : Nat, q = (Q : Int) := ⟨q.toNat, by omega⟩
    obtain ⟨_, _, e5, hr5⟩ := own_slice HOw.out hn HLp.out
    cases e5
    have hne : L ≠ [] := by intro e; subst e; cases hq
    obtain ⟨ga, oa, rfl, hga, hca⟩ := hr5.2.resolve_left hne
    have ya := hca k _ hq
    have hQn : Q < pn1 := by omega
    obtain ⟨x1, x2, x3⟩ := HI.out.so.x hQn
    obtain ⟨y1, y2, y3⟩ := HI.out.so.y hP2
    have ez : (zeroAt xs (L.take k)).getD Q 0 = vAt xs (Q : Int) := zero_else (j := (Q : Int)) q0 (L.take k) xs (fun x hx => (HPin.out x (List.mem_of_mem_take hx)).1) (nodup_take HND.out hq)
    rw [ez] at x1
    rw [set_self _ _ _ hly] at y1
    have hv := vAt_bd G.out.q1 G.out.t1 (Q : Int)
    obtain ⟨hv0, hv1⟩ := hv
    have hs : sumAt xs (L.take (k + 1)) = sumAt xs (L.take k) + vAt xs (Q : Int) := by rw [take_next hq, sumAt_snoc]
    have hz : zeroAt xs (L.take (k + 1)) = (zeroAt xs (L.take k)).set Q 0 := by rw [take_next hq, zero_snoc]; rfl
    have HNew : Hid (∀ u, TkF w p s c l st sk re fe ag (P : Int) p1 p2 pn1 pc1 2 pc2 pp pq s0 b5 c5 b6 c6 ((zeroAt xs (L.take k)).set Q 0) ((ys.set P (ys.getD P 0 + sumAt xs (L.take k))).set P (ys.getD P 0 + sumAt xs (L.take k) + vAt xs (Q : Int))) u → TkF w p s c l st sk re fe ag (P : Int) p1 p2 pn1 pc1 2 pc2 pp pq s0 b5 c5 b6 c6 (zeroAt xs (L.take (k + 1))) (ys.set P (ys.getD P 0 + sumAt xs (L.take (k + 1)))) u) := Lib.hid (fun u h => by
     rw [hz, hs, ← Int.add_assoc]
     rwa [List.set_set] at h)
    have HQn := Lib.hid hQn
    have Hez := Lib.hid ez
    clear hs hz ez hq hne hca hr5
    generalize vAt xs (Q : Int) = v at *
    generalize sumAt xs (L.take k) = t at *
    generalize ys.getD P 0 = yv at *
    have HKn := Lib.hid hlt
    have hn16 : n ≤ 1000 := HLp.out
    have k0 : (0 : Int) ≤ (k : Int) := by omega
    have k1 : (k : Int) < (n : Int) := by omega
    have z0 : (0 : Int) ≤ (P : Int) := by omega
    have z1 : (P : Int) < 2 := by omega
    clear x1 x2 x3 y1 y2 y3
    go_upto_region 5 with fail
    have HI2 := Lib.hid (HI.out.below (Below.refl _ _).drew)
    have HO2 := Lib.hid (own_keep HOw.out (Below.refl _ _).drew)
    obtain ⟨x1, x2, x3⟩ := HI2.out.so.x HQn.out
    obtain ⟨y1, y2, y3⟩ := HI2.out.so.y hP2
    rw [Hez.out] at x1
    rw [set_self _ _ _ hly] at y1
    obtain ⟨_, t0, t1, t2, t3⟩ := HI2.out.so.so
    obtain ⟨⟨_, c0, c1, c2, c3, c4, c5', c6', c7, c8, c9, c10, c11, c12, c13⟩, -⟩ := HI2.out.cp
    go_still_tail 13, (by kernel_rfl)
    change wpList _ _ _ _ _ (World.drew wr)
    rw [show IntKind.i64.wrap (yv + t + v) = yv + t + v from IntWalk.i64_in _ ⟨by omega, by omega⟩]
    have HI3 := Lib.hid (HI2.out.setY hP2 (yv + t + v))
    have HO3 := Lib.hid (own_but HO2.out ((But.refl b6 wr.drew).setCell (p := ⟨b6, P, none⟩) rfl (.int .i64 (yv + t + v))) HL5.out.2)
    have d1 := HI2.out.so.d1
    have d2 := HI2.out.so.d2
    have d3 := HI2.out.so.d3
    have d3' : b6 ≠ b5 := fun e => d3 e.symm
    clear HI2 HO2 HI HOw
    generalize wr.drew = wq at *
    go_wp2_with fail
    go_roundw
    case rel => exact ⟨k + 1, HKn.out, by go_num, HNew.out _ (HI3.out.setX HQn.out 0), own_but HO3.out ((But.refl b5 _).setCell (p := ⟨b5, Q, none⟩) rfl (.int .i64 0)) HL5.out.1⟩
    case measure => (have hkn := HKn.out; simp [intOf]; omega)
   ·obtain rfl : k = n := by omega
    rw [List.take_of_length_le (show L.length ≤ k from Nat.le_of_eq Hn.out), HTX.out, HTY.out] at HI
    have k0 : ¬ (k : Int) < (k : Int) := by omega
    obtain ⟨zl, z0, z1, z2, z3, f0, f1, f2, f3⟩ := HI.out.z
    obtain ⟨_, t0, t1, t2, t3⟩ := HI.out.so.so
    have n5 := HI.out.so.o1.new
    have n6 := HI.out.so.o2.new
    have ms := HI.out.ms
    have dd1 : s0 ≠ w.heap.size + 1 := by omega
    have dd2 : w.heap.size + 1 ≠ s0 := by omega
    go_wp2_with fail
    refine bodyPost_ret (v := .agg #[.slice (some ⟨b5, 0, none⟩) pn1 c5, .slice (some ⟨b6, 0, none⟩) 2 c6, .int .i64 pp, .int .i64 pq]) (by simp [results, Try.results74, go_sem, z0, z1, z2, z3]) rfl ?_
    have hbt := but4 (w.heap.size + 1) wr (.slice (some ⟨b5, 0, none⟩) pn1 c5) (.slice (some ⟨b6, 0, none⟩) 2 c6) (.int .i64 pp) (.int .i64 pq)
    exact ⟨b5, c5, b6, c6, rfl, ⟨(HI.out.so.o1.but hbt (by have := HI.out.so.o1.new; omega)).lower (Nat.le_add_right _ 2), (HI.out.so.o2.but hbt (by have := HI.out.so.o2.new; omega)).lower (Nat.le_add_right _ 2), HI.out.so.d3, HI.out.so.l1, HI.out.so.l2⟩, by simpa using HI.out.l5, by simpa using HI.out.l6, HI.out.k5, HI.out.k6, OnW.set4 (show OnW w wr from HI.out.cp.be) (by omega) _ _ _ _⟩
/- RefC3 -/
theorem l04Side_p (p : Int) (b : Nat) (a : Option Addr) (cc n : Nat) (xs : List Int) (player : Int) (w : World) (c0 : w.cell? ⟨b, 0, none⟩ = some (.int .i64 p)) (hn : xs.length = n) (h : RowN w a xs) (hp : 2 ≤ p ∧ p ≤ 8) (h2 : (n : Int) = 2 * p) (hpl : player = 0 ∨ player = 1) (hpos : posB xs = true) (ht : tot xs ≤ 96) :
  Calls Try.prog 72 #[.pointer (some ⟨b, 0, none⟩), .slice a n cc, .int .i64 player] w fun e w' => e = .returned (.int .i64 (tot (halfL xs p.toNat player))) ∧ w = w' := by
 obtain ⟨P, rfl⟩ : ∃ P : Nat, p = (P : Int) := ⟨p.toNat, by omega⟩
 rw [Int.toNat_natCast]
 exact l04Side_any P b a cc n xs player w c0 hn h (by omega) (by omega) (by omega) hpl hpos ht
theorem l06Slam_any (p s c l : Int) (st sk re fe ag : Bool) (player : Int) (p1 p2 : Option Addr) (pn1 pc1 pn2 pc2 : Nat) (pp pq : Int) (xs ys : List Int) (b d : Nat) (w : World) (hr : RuAt w b p s c l st sk re fe ag) (hs : SoAt w d p1 p2 pn1 pc1 pn2 pc2 pp pq) (h : PosR w p1 p2 pn1 pn2 xs ys) (g : Good p s c l st sk re fe ag player pn1 pn2 pp xs ys) :
  Calls Try.prog 69 #[.pointer (some ⟨b, 0, none⟩), .pointer (some ⟨d, 0, none⟩), .int .i64 player] w fun e w' => e = .returned (.bool (slamF c p player pp xs)) ∧ Below w.heap.size w w' := by
 have HX := Lib.hid (show L6N w b d p s c l st sk re fe ag p1 p2 pn1 pc1 pn2 pc2 pp pq w from ⟨hr, hs, Below.refl _ _⟩)
 have HRaw := Lib.hid (l06Raw_any p s c l st sk re fe ag player p1 p2 pn1 pc1 pn2 pc2 pp pq xs ys b d w hr hs h g)
 have H0 := Lib.hid h
 have G := Lib.hid g
 have hRin := g.raw c
 have hLn : (rawF c p player pp xs).length ≤ 1000 := by have := raw_len (cp := c) (pl := player) (xs := xs) g.p2.2 g.p2.1 g.l2; omega
 have g1 := g.p2.1
 have g2 := g.p2.2
 have gn := g.n1
 have HPl : Hid (1 - player = 0 ∨ 1 - player = 1) := Lib.hid (by have := g.pl; omega)
 have hlp : xs.length = 2 * p.toNat := by have := h.l1; omega
 have hht := half_tot hlp HPl.out g.q1
 have HT0 : Hid (tot (halfL xs p.toNat (1 - player)) ≤ 96) := Lib.hid (by have := g.t1; omega)
 have hw1 : IntKind.i64.wrap (1 - player) = 1 - player := IntWalk.i64_in _ ⟨by have := g.pl; omega, by have := g.pl; omega⟩
 obtain ⟨hb, r0, r1, r2, r3, r4, r5, r6, r7, r8⟩ := hr
 obtain ⟨hd, s0, s1, s2, s3⟩ := hs
 have hsl : slamF c p player pp xs = slamB p player xs (rawF c p player pp xs) := rfl
 rw [hsl]
 generalize rawF c p player pp xs = L at *
 generalize hnn : L.length = n at *
 have Hnn := Lib.hid hnn
 have HGn := Lib.hid gn
 clear h g hlp hht hsl hnn gn
 go_enter Try.func69, Try.ntmps69
 go_wp2_with fail
 refine HRaw.out.mono ?_
 rintro e w5 ⟨v5, rfl, hown, hb5⟩
 obtain ⟨a5, cc5, rfl, hr5⟩ := own_slice hown Hnn.out hLn
 have HR5 := Lib.hid hr5
 have HX := Lib.hid (HX.out.below hb5)
 clear hown hr5 hb5 r0 r1 r2 r3 r4 r5 r6 r7 r8 s0 s1 s2 s3
 obtain ⟨⟨hbl, r0, r1, r2, r3, r4, r5, r6, r7, r8⟩, ⟨hdl, s0, s1, s2, s3⟩, -⟩ := HX.out
 go_wp2_with fail
 go_loopw [8, 9] (fun s0 i wr => ∃ (k m : Nat) (t : Int), k ≤ n ∧ i = .int .i64 k ∧ s0 = .int .i64 t ∧ wr = w5.drewN m ∧ t = takenF p player xs (L.take k)) (fun _ i _ => n - (intOf i).toNat)
 case atStart => exact ⟨0, 0, 0, Nat.zero_le _, rfl, rfl, rfl, rfl⟩
 case round =>
  obtain ⟨k, m, t, hk, rfl, rfl, rfl, ht'⟩ := hrel
  have hb := taken_bd G.out.q1 G.out.t1 p player (L.take k)
  rw [← ht', List.length_take] at hb
  obtain ⟨b0, b1⟩ := hb
  have b2 : t ≤ 96 * 1000 := by omega
  have Ht := Lib.hid ht'
  clear ht' b1
  by_cases hlt : k < n
  ·obtain ⟨q, hq⟩ : ∃ q, L[k]? = some q := ⟨L[k]'(by rw [Hnn.out]; exact hlt), List.getElem?_eq_getElem _⟩
   obtain ⟨q0, q1⟩ := hRin q (List.mem_of_getElem? hq)
   obtain ⟨Q, rfl⟩ : ∃ Q : Nat, q = (Q : Int) := ⟨q.toNat, by omega⟩
   have hne : L ≠ [] := by intro e; subst e; cases hq
   obtain ⟨ga, oa, rfl, hga, hca⟩ := HR5.out.2.resolve_left hne
   have ya := hca k _ hq
   obtain ⟨gx, ox, rfl, hg, y⟩ := rowV (k := Q) (H0.out.below HX.out.be).r1 (by have := H0.out.l1; omega)
   obtain ⟨v1, v2⟩ := vAt_bd G.out.q1 G.out.t1 (Q : Int)
   have q2 : (Q : Int) < 2 * p := by have := HGn.out; omega
   have hst := taken_snoc p player xs (L.take k) (Q : Int)
   rw [← take_next hq, ← Ht.out] at hst
   have hne2 := own_ne (p := p) (pl := player) g1 q0 q2 G.out.pl
   have k0 : (0 : Int) ≤ (k : Int) := by omega
   have k1 : (k : Int) < (n : Int) := by omega
   clear hca hq hne
   generalize vAt xs (Q : Int) = v at *
   rcases hb : ownB p (1 - player) (Q : Int) with _ | _
   ·rw [hb] at hst hne2
    have Hst := Lib.hid hst
    clear hst hb
    go_wp2_with (go_at_call 85; refine (owner_any p _ _ _ (by go_simp) (by omega) (by omega) (by omega) (by omega)).mono ?_; rintro e w' ⟨rfl, rfl⟩)
    go_roundw
    case rel => exact ⟨k + 1, _, t, by omega, by go_num, rfl, rfl, by rw [Hst.out]; simp⟩
    case measure => simp [intOf]; omega
   ·rw [hb, if_pos rfl] at hst
    rw [hb] at hne2
    have Hst := Lib.hid hst
    clear hst hb
    go_wp2_with (go_at_call 85; refine (owner_any p _ _ _ (by go_simp) (by omega) (by omega) (by omega) (by omega)).mono ?_; rintro e w' ⟨rfl, rfl⟩)
    go_region
    go_wp2_with (go_at_call 85; refine (owner_any p _ _ _ (by go_simp) (by omega) (by omega) (by omega) (by omega)).mono ?_; rintro e w' ⟨rfl, rfl⟩)
    go_roundw
    case rel => exact ⟨k + 1, _, t + v, by omega, by go_num, by go_num, rfl, by rw [Hst.out]⟩
    case measure => simp [intOf]; omega
  ·obtain rfl : k = n := by omega
   have e1 : L.take k = L := List.take_of_length_le (by rw [Hnn.out]; exact Nat.le_refl _)
   have e2 : slamB p player xs L = (decide (0 < t) && decide (t = tot (halfL xs p.toNat (1 - player)))) := by unfold slamB; rw [Ht.out, e1]
   have HSide : Hid (∀ q, Calls Try.prog 72 #[.pointer (some ⟨b, 0, none⟩), .slice p1 pn1 pc1, .int .i64 (1 - player)] (w5.drewN q) fun e w' => e = .returned (.int .i64 (tot (halfL xs p.toNat (1 - player)))) ∧ w5.drewN q = w') := Lib.hid (fun q => l04Side_p p b p1 pc1 pn1 xs (1 - player) _ HX.out.1.2.1 H0.out.l1 ((H0.out.below HX.out.be).r1.drewN q) ⟨g1, g2⟩ HGn.out HPl.out G.out.q1 G.out.t1)
   clear e1 hRin
   generalize tot (halfL xs p.toNat (1 - player)) = T at *
   by_cases h0 : 0 < t
   ·have d0 : decide (0 < t) = true := by simpa using h0
    by_cases h1 : t = T
    ·have d1 : (t == T) = true := by simpa using h1
     rw [decide_eq_true h0, decide_eq_true h1] at e2
     have HE2 := Lib.hid e2
     clear h1 e2
     go_wp2_with fail
     refine (HSide.out _).mono ?_
     rintro e w9 ⟨rfl, rfl⟩
     go_wp2_with fail
     go_ret
     exact ⟨by rw [HE2.out]; rfl, (HX.out.dn _).be⟩
    ·have d1 : (t == T) = false := by simpa using h1
     rw [decide_eq_false h1, Bool.and_false] at e2
     have HE2 := Lib.hid e2
     clear h1 e2
     go_wp2_with fail
     refine (HSide.out _).mono ?_
     rintro e w9 ⟨rfl, rfl⟩
     go_wp2_with fail
     go_ret
     exact ⟨by rw [HE2.out]; rfl, (HX.out.dn _).be⟩
   ·have d0 : decide (0 < t) = false := by simpa using h0
    rw [decide_eq_false h0, Bool.false_and] at e2
    have HE2 := Lib.hid e2
    clear e2
    go_wp2_with fail
    go_ret
    exact ⟨by rw [HE2.out]; rfl, (HX.out.dn _).be⟩
theorem l06Pits_any (p s c l : Int) (st sk re fe ag : Bool) (player : Int) (p1 p2 : Option Addr) (pn1 pc1 pn2 pc2 : Nat) (pp pq : Int) (xs ys : List Int) (b d : Nat) (w : World) (hr : RuAt w b p s c l st sk re fe ag) (hs : SoAt w d p1 p2 pn1 pc1 pn2 pc2 pp pq) (h : PosR w p1 p2 pn1 pn2 xs ys) (g : Good p s c l st sk re fe ag player pn1 pn2 pp xs ys) :
  Calls Try.prog 86 #[.pointer (some ⟨b, 0, none⟩), .pointer (some ⟨d, 0, none⟩), .int .i64 player] w (OwnP (pitsF c l p player pp xs) (pitsF c l p player pp xs).length w) := by
 have HX := Lib.hid (show L6N w b d p s c l st sk re fe ag p1 p2 pn1 pc1 pn2 pc2 pp pq w from ⟨hr, hs, Below.refl _ _⟩)
 have HRaw : Hid (∀ u, L6N w b d p s c l st sk re fe ag p1 p2 pn1 pc1 pn2 pc2 pp pq u → Calls Try.prog 84 #[.pointer (some ⟨b, 0, none⟩), .pointer (some ⟨d, 0, none⟩), .int .i64 player] u (OwnP (rawF c p player pp xs) (rawF c p player pp xs).length u)) := Lib.hid (fun u hu => l06Raw_any p s c l st sk re fe ag player p1 p2 pn1 pc1 pn2 pc2 pp pq xs ys b d u hu.1 hu.2.1 (h.below hu.be) g)
 have HSl : Hid (∀ u, L6N w b d p s c l st sk re fe ag p1 p2 pn1 pc1 pn2 pc2 pp pq u → Calls Try.prog 69 #[.pointer (some ⟨b, 0, none⟩), .pointer (some ⟨d, 0, none⟩), .int .i64 player] u fun e w' => e = .returned (.bool (slamF c p player pp xs)) ∧ Below u.heap.size u w') := Lib.hid (fun u hu => l06Slam_any p s c l st sk re fe ag player p1 p2 pn1 pc1 pn2 pc2 pp pq xs ys b d u hu.1 hu.2.1 (h.below hu.be) g)
 obtain ⟨hb, r0, r1, r2, r3, r4, r5, r6, r7, r8⟩ := hr
 obtain ⟨hd, s0, s1, s2, s3⟩ := hs
 have hpf : pitsF c l p player pp xs = if decide (l = 2) && slamF c p player pp xs then [] else rawF c p player pp xs := rfl
 rw [hpf]
 generalize rawF c p player pp xs = R at *
 generalize slamF c p player pp xs = sl at *
 clear h g hpf
 by_cases hl : l = 2
 ·have t1 : (l == 2) = true := by simpa using hl
  rw [decide_eq_true hl]
  clear hl
  cases sl
  ·go_enter Try.func86, Try.ntmps86
   go_wp2_with fail
   refine (HSl.out _ HX.out).mono ?_
   rintro e w5 ⟨rfl, hb5⟩
   have HX := Lib.hid (HX.out.below hb5)
   clear hb5
   go_wp2_with fail
   refine (HRaw.out _ HX.out).mono ?_
   rintro e w6 ⟨v6, rfl, hown, hb6⟩
   have HO := Lib.hid (own_lower hown HX.out.be.size)
   have HX := Lib.hid (HX.out.below hb6)
   clear hown hb6
   go_wp2_with fail
   go_ret
   exact ⟨_, rfl, HO.out, HX.out.be⟩
  ·go_enter Try.func86, Try.ntmps86
   go_wp2_with fail
   refine (HSl.out _ HX.out).mono ?_
   rintro e w5 ⟨rfl, hb5⟩
   have HX := Lib.hid (HX.out.below hb5)
   clear hb5
   go_wp2_with fail
   go_ret
   exact ⟨_, rfl, World.ownsRow_made w5 #[] 0 HX.out.be.size (by decide) rfl, (HX.out.below (al1 _ _)).be⟩
 ·have t1 : (l == 2) = false := by simpa using hl
  rw [decide_eq_false hl]
  clear hl
  go_enter Try.func86, Try.ntmps86
  go_wp2_with fail
  refine (HRaw.out _ HX.out).mono ?_
  rintro e w6 ⟨v6, rfl, hown, hb6⟩
  have HO := Lib.hid (own_lower hown HX.out.be.size)
  have HX := Lib.hid (HX.out.below hb6)
  clear hown hb6
  go_wp2_with fail
  go_ret
  exact ⟨_, rfl, HO.out, HX.out.be⟩
/- RefTk -/
theorem L6N.but {w u v : World} {b d : Nat} {p s c l : Int} {st sk re fe ag : Bool} {p1 p2 : Option Addr} {pn1 pc1 pn2 pc2 : Nat} {pp pq : Int} {z : Nat} (h : L6N w b d p s c l st sk re fe ag p1 p2 pn1 pc1 pn2 pc2 pp pq u) (k : But z u v) (hb : b ≠ z) (hd : d ≠ z) (hz : w.heap.size ≤ z) : L6N w b d p s c l st sk re fe ag p1 p2 pn1 pc1 pn2 pc2 pp pq v :=
 ⟨h.1.but k hb, h.2.1.but k hd, But.lift h.2.2 k hz⟩
theorem L6N.set4 {w u : World} {b d : Nat} {p s c l : Int} {st sk re fe ag : Bool} {p1 p2 : Option Addr} {pn1 pc1 pn2 pc2 : Nat} {pp pq : Int} {z : Nat} (h : L6N w b d p s c l st sk re fe ag p1 p2 pn1 pc1 pn2 pc2 pp pq u) (hb : b ≠ z) (hd : d ≠ z) (hz : w.heap.size ≤ z) (x y t q : Value) : L6N w b d p s c l st sk re fe ag p1 p2 pn1 pc1 pn2 pc2 pp pq ((((u.setCell ⟨z, 0, none⟩ x).setCell ⟨z, 1, none⟩ y).setCell ⟨z, 2, none⟩ t).setCell ⟨z, 3, none⟩ q) := h.but (but4 z u x y t q) hb hd hz
structure TrF (w : World) (b d : Nat) (p s c l : Int) (st sk re fe ag : Bool) (p1 p2 : Option Addr) (pn1 pc1 pn2 pc2 : Nat) (pp pq : Int) (s0 b5 c5 b6 c6 : Nat) (xs ys : List Int) (u : World) : Prop where
 cp : L6N w b d p s c l st sk re fe ag p1 p2 pn1 pc1 pn2 pc2 pp pq u
 hb : b < w.heap.size
 hd : d < w.heap.size
 z : Z4 u w.heap.size
 so : SoS u (w.heap.size + 1) s0 b5 c5 b6 c6 pn1 pp pq xs ys
 l5 : b5 < u.heap.size
 l6 : b6 < u.heap.size
 k5 : pn1 ≤ c5
 k6 : 2 ≤ c6
 ms : w.heap.size + 1 ≤ s0
section
variable {w u v : World} {b d : Nat} {p s c l : Int} {st sk re fe ag : Bool} {p1 p2 : Option Addr} {pn1 pc1 pn2 pc2 : Nat} {pp pq : Int} {s0 b5 c5 b6 c6 : Nat} {xs ys : List Int}
theorem TrF.below (h : TrF w b d p s c l st sk re fe ag p1 p2 pn1 pc1 pn2 pc2 pp pq s0 b5 c5 b6 c6 xs ys u) (k : Below u.heap.size u v) : TrF w b d p s c l st sk re fe ag p1 p2 pn1 pc1 pn2 pc2 pp pq s0 b5 c5 b6 c6 xs ys v :=
 ⟨h.cp.below k, h.hb, h.hd, h.z.below k, h.so.below k, Nat.lt_of_lt_of_le h.l5 k.size, Nat.lt_of_lt_of_le h.l6 k.size, h.k5, h.k6, h.ms⟩
theorem TrF.setX (h : TrF w b d p s c l st sk re fe ag p1 p2 pn1 pc1 pn2 pc2 pp pq s0 b5 c5 b6 c6 xs ys u) {i : Nat} (hi : i < pn1) (x : Int) : TrF w b d p s c l st sk re fe ag p1 p2 pn1 pc1 pn2 pc2 pp pq s0 b5 c5 b6 c6 (xs.set i x) ys (u.setCell ⟨b5, i, none⟩ (.int .i64 x)) :=
 have hb : But b5 u (u.setCell ⟨b5, i, none⟩ (.int .i64 x)) := (But.refl b5 u).setCell rfl _
 have h5 : w.heap.size + 1 ≤ b5 := h.so.o1.new
 have h1 := h.hb
 have h2 := h.hd
 ⟨h.cp.but hb (by omega) (by omega) (by omega), h.hb, h.hd, h.z.but hb (by omega), h.so.setX hi x, by simpa using h.l5, by simpa using h.l6, h.k5, h.k6, h.ms⟩
theorem TrF.setY (h : TrF w b d p s c l st sk re fe ag p1 p2 pn1 pc1 pn2 pc2 pp pq s0 b5 c5 b6 c6 xs ys u) {i : Nat} (hi : i < 2) (x : Int) : TrF w b d p s c l st sk re fe ag p1 p2 pn1 pc1 pn2 pc2 pp pq s0 b5 c5 b6 c6 xs (ys.set i x) (u.setCell ⟨b6, i, none⟩ (.int .i64 x)) :=
 have hb : But b6 u (u.setCell ⟨b6, i, none⟩ (.int .i64 x)) := (But.refl b6 u).setCell rfl _
 have h6 : w.heap.size + 1 ≤ b6 := h.so.o2.new
 have h1 := h.hb
 have h2 := h.hd
 ⟨h.cp.but hb (by omega) (by omega) (by omega), h.hb, h.hd, h.z.but hb (by omega), h.so.setY hi x, by simpa using h.l5, by simpa using h.l6, h.k5, h.k6, h.ms⟩
theorem tr_fin {B1 B2 : Nat} (hc : L6N w b d p s c l st sk re fe ag p1 p2 pn1 pc1 2 pc2 pp pq u) (hb : b < w.heap.size) (hd : d < w.heap.size) (hz : Z4 u w.heap.size) (hY : Z4 u s0) (hf : ∀ o, u.frozen? ⟨s0, o, none⟩ = false)
  (o1 : OutN u B1 (some ⟨b5, 0, none⟩) b5 xs) (o2 : OutN u B2 (some ⟨b6, 0, none⟩) b6 ys) (l1 : xs.length = pn1) (l2 : ys.length = 2) (ne : b5 ≠ b6) (n5 : b5 ≠ s0) (n6 : b6 ≠ s0) (l5 : b5 < u.heap.size) (l6 : b6 < u.heap.size) (ms : w.heap.size + 1 ≤ s0) (hB1 : w.heap.size + 1 ≤ B1) (hB2 : w.heap.size + 1 ≤ B2) (k5 : pn1 ≤ c5) (k6 : 2 ≤ c6) :
  TrF w b d p s c l st sk re fe ag p1 p2 pn1 pc1 2 pc2 pp pq s0 b5 c5 b6 c6 xs ys ((((u.setCell ⟨s0, 0, none⟩ (.slice (some ⟨b5, 0, none⟩) pn1 c5)).setCell ⟨s0, 1, none⟩ (.slice (some ⟨b6, 0, none⟩) 2 c6)).setCell ⟨s0, 2, none⟩ (.int .i64 pp)).setCell ⟨s0, 3, none⟩ (.int .i64 pq)) := by
 have hbt := but4 s0 u (.slice (some ⟨b5, 0, none⟩) pn1 c5) (.slice (some ⟨b6, 0, none⟩) 2 c6) (.int .i64 pp) (.int .i64 pq)
 obtain ⟨yl, y0, y1, y2, y3, f0, f1, f2, f3⟩ := hY
 exact ⟨hc.but hbt (by omega) (by omega) (by omega), hb, hd, hz.but hbt (by omega), ⟨⟨by simpa using yl, by go_simp, by go_simp, by go_simp, by go_simp⟩, fun o => by have := hf o; go_simp, (o1.but hbt n5).lower hB1, (o2.but hbt n6).lower hB2, l1, l2, fun e => n5 e.symm, fun e => n6 e.symm, ne⟩, by simpa using l5, by simpa using l6, k5, k6, ms⟩
theorem tr_fin2 {B1 B2 : Nat} (T : TypeId) (hc : L6N w b d p s c l st sk re fe ag p1 p2 pn1 pc1 2 pc2 pp pq u) (hb : b < w.heap.size) (hd : d < w.heap.size) (hz : Z4 u w.heap.size)
  (o1 : OutN u B1 (some ⟨b5, 0, none⟩) b5 xs) (o2 : OutN u B2 (some ⟨b6, 0, none⟩) b6 ys) (l1 : xs.length = pn1) (l2 : ys.length = 2) (ne : b5 ≠ b6) (l5 : b5 < u.heap.size) (l6 : b6 < u.heap.size) (hB1 : w.heap.size + 1 ≤ B1) (hB2 : w.heap.size + 1 ≤ B2) (k5 : pn1 ≤ c5) (k6 : 2 ≤ c6) :
  TrF w b d p s c l st sk re fe ag p1 p2 pn1 pc1 2 pc2 pp pq u.heap.size b5 c5 b6 c6 xs ys (u.alloc (.cells #[.slice (some ⟨b5, 0, none⟩) pn1 c5, .slice (some ⟨b6, 0, none⟩) 2 c6, .int .i64 pp, .int .i64 pq] T)) :=
 ⟨hc.below (al1 _ _), hb, hd, hz.below (al1 _ _), ⟨so_new _ _ _ _ _ _ _ _ u T, fun o => by go_simp, (o1.below (al1 _ _)).lower hB1, (o2.below (al1 _ _)).lower hB2, l1, l2, by omega, by omega, ne⟩, by simp; omega, by simp; omega, k5, k6, hz.lt⟩
end
theorem l06Take_any (p s c l : Int) (st sk re fe ag : Bool) (player : Int) (p1 p2 : Option Addr) (pn1 pc1 pc2 : Nat) (pp pq : Int) (xs ys : List Int) (b d : Nat) (w : World) (hr : RuAt w b p s c l st sk re fe ag) (hs : SoAt w d p1 p2 pn1 pc1 2 pc2 pp pq) (h : PosR w p1 p2 pn1 2 xs ys) (g : Good p s c l st sk re fe ag player pn1 2 pp xs ys) :
  Calls Try.prog 70 #[.pointer (some ⟨b, 0, none⟩), .pointer (some ⟨d, 0, none⟩), .int .i64 player] w (SoP pn1 2 pp pq (tkX c l p player pp xs) (tkY c l p player pp xs ys) w) := by
 obtain ⟨P, rfl⟩ : ∃ P : Nat, player = (P : Int) := ⟨player.toNat, by have := g.pl; omega⟩
 have hP2 : P < 2 := by have := g.pl; omega
 have HND := Lib.hid (pits_nodup c l p (P : Int) pp xs)
 have H := Lib.hid h
 have G := Lib.hid g
 have hle1 : pn1 ≤ 1000000000000 := by have := h.r1.1; rwa [h.l1] at this
 have hle2 : 2 ≤ 1000000000000 := by omega
 have HN1 : Hid (xs ≠ []) := Lib.hid (by intro e; have := h.l1; have := g.n1; have := g.p2.1; subst e; simp at *; omega)
 have HN2 : Hid (ys ≠ []) := Lib.hid (by intro e; have := h.l2; subst e; simp at this)
 have hbw := hr.1
 have hdw := hs.1
 have HP := Lib.hid (L6N.below (show L6N w b d p s c l st sk re fe ag p1 p2 pn1 pc1 2 pc2 pp pq w from ⟨hr, hs, Below.refl _ _⟩) (al1 w (.cells #[.slice none 0 0, .slice none 0 0, .int .i64 0, .int .i64 0] 75)))
 have HZ := Lib.hid (z4_new w 75)
 have HPits : Hid (∀ u, L6N w b d p s c l st sk re fe ag p1 p2 pn1 pc1 2 pc2 pp pq u → Calls Try.prog 86 #[.pointer (some ⟨b, 0, none⟩), .pointer (some ⟨d, 0, none⟩), .int .i64 (P : Int)] u (OwnP (pitsF c l p (P : Int) pp xs) (pitsF c l p (P : Int) pp xs).length u)) := Lib.hid (fun u hu => l06Pits_any p s c l st sk re fe ag (P : Int) p1 p2 pn1 pc1 2 pc2 pp pq xs ys b d u hu.1 hu.2.1 (h.below hu.2.2) g)
 have HLp : Hid ((pitsF c l p (P : Int) pp xs).length ≤ 1000) := Lib.hid (by have := pits_len (cp := c) (sl := l) (pl := (P : Int)) (xs := xs) g.p2.2 g.p2.1 g.l2; omega)
 have HPin : Hid (∀ k ∈ pitsF c l p (P : Int) pp xs, 0 ≤ k ∧ k < (pn1 : Int)) := Lib.hid (fun k hk => by have := pits_in g.l2 k hk; have := g.n1; omega)
 rw [show tkX c l p (P : Int) pp xs = zeroAt xs (pitsF c l p (P : Int) pp xs) from rfl, show tkY c l p (P : Int) pp xs ys = ys.set P (ys.getD P 0 + sumAt xs (pitsF c l p (P : Int) pp xs)) from rfl]
 generalize pitsF c l p (P : Int) pp xs = L at *
 obtain ⟨TX, hTX⟩ : ∃ X, zeroAt xs L = X := ⟨_, rfl⟩
 obtain ⟨TY, hTY⟩ : ∃ Y, ys.set P (ys.getD P 0 + sumAt xs L) = Y := ⟨_, rfl⟩
 rw [hTX, hTY]
 have HTX := Lib.hid hTX
 have HTY := Lib.hid hTY
 clear h g hTX hTY hr hs
 go_enter Try.func70, Try.ntmps70
 go_wp2_with fail
 refine (HPits.out _ HP.out).mono ?_
 rintro e w5 ⟨v5, rfl, hown, hb5⟩
 have hz5 := HZ.out.lt
 have HP := Lib.hid (HP.out.below hb5)
 have HZ := Lib.hid (HZ.out.below hb5)
 obtain ⟨a5, cc5, rfl, -⟩ := own_slice hown rfl HLp.out
 have HO := Lib.hid hown
 clear hown hb5
 go_upto_region 3 with fail
 have HW : Hid (Below w.heap.size w w5) := Lib.hid HP.out.be
 have hwu : w.heap.size < w5.heap.size := HZ.out.lt
 have H := Lib.hid (H.out.below HW.out)
 have HB := Lib.hid (show OnW w5 w5 from Below.refl _ _)
 have HT : Hid (∀ u : World, L6N w b d p s c l st sk re fe ag p1 p2 pn1 pc1 2 pc2 pp pq u → OnW w5 u → (d < u.heap.size ∧ u.cell? ⟨d, 0, none⟩ = some (.slice p1 pn1 pc1) ∧ u.cell? ⟨d, 1, none⟩ = some (.slice p2 2 pc2) ∧ u.cell? ⟨d, 2, none⟩ = some (.int .i64 pp) ∧ u.cell? ⟨d, 3, none⟩ = some (.int .i64 pq)) ∧ Below w5.heap.size w5 u) := Lib.hid (fun u h k => ⟨h.2.1, k⟩)
 have HR5 : Hid (RowN w5 a5 L) := Lib.hid (by
  obtain ⟨_, _, e5, hr5⟩ := own_slice HO.out rfl HLp.out
  cases e5
  exact hr5)
 generalize hn : L.length = n at *
 have Hn := Lib.hid hn
 go_cut [8] (fun s8 wx => ∃ s0 b5 c5 b6 c6 : Nat, s8 = .pointer (some ⟨s0, 0, none⟩) ∧ TrF w b d p s c l st sk re fe ag p1 p2 pn1 pc1 2 pc2 pp pq s0 b5 c5 b6 c6 xs ys wx ∧ (w5.heap.size ≤ b5 ∧ w5.heap.size ≤ b6) ∧ Below w5.heap.size w5 wx)
 case first =>
  go_region_held3 (fun u => (d < u.heap.size ∧ u.cell? ⟨d, 0, none⟩ = some (.slice p1 pn1 pc1) ∧ u.cell? ⟨d, 1, none⟩ = some (.slice p2 2 pc2) ∧ u.cell? ⟨d, 2, none⟩ = some (.int .i64 pp) ∧ u.cell? ⟨d, 3, none⟩ = some (.int .i64 pq)) ∧ Below w5.heap.size w5 u) (first | with_reducible exact HT.out _ HP.out HB.out | with_reducible exact HT.out _ HP.out.drew HB.out.drew | with_reducible exact HT.out _ (HP.out.below (al1 _ _)) (HB.out.below (al1 _ _)) | with_reducible exact HT.out _ (HP.out.drew.below (al1 _ _)) (HB.out.drew.below (al1 _ _)) | with_reducible exact HT.out _ (HP.out.below (al1 _ _)).drew (HB.out.below (al1 _ _)).drew | with_reducible exact HT.out _ (HP.out.set4 (by omega) (by omega) (by omega) _ _ _ _) (HB.out.set4 (by omega) _ _ _ _) | with_reducible exact HT.out _ ((HP.out.below (al1 _ _)).set4 (by omega) (by omega) (by omega) _ _ _ _) ((HB.out.below (al1 _ _)).set4 (by omega) _ _ _ _))
   (first
   | (go_at_call 65; (with_reducible refine (l00Own_any p1 pc1 pn1 xs _ H.out.l1 ?_ HN1.out).mono ?_); (first | with_reducible exact H.out.r1.below (HB.out).bel | with_reducible exact H.out.r1.below (HB.out.drew).bel | with_reducible exact H.out.r1.below (HB.out.below (al1 _ _)).bel | with_reducible exact H.out.r1.below (HB.out.drew.below (al1 _ _)).bel | with_reducible exact H.out.r1.below ((HB.out.below (al1 _ _)).drew).bel); rintro e w7 ⟨v1, rfl, hown, hb5⟩; (obtain ⟨c5, b5, rfl, o5, hlt5, hc5⟩ := outN_own hown H.out.l1 hle1 HN1.out); have O1 := Lib.hid o5; have nb1 := o5.new; (first | have HY := Lib.hid ((z4_new w5 75).drew.below hb5) | have HY := Lib.hid ((z4_new w5.drew 75).below hb5) | have HY := Lib.hid ((z4_new w5 75).below hb5) | skip); (first | have HG := Lib.hid ((nf_new w5 _ 75).drew.below hb5) | have HG := Lib.hid ((nf_new w5.drew _ 75).below hb5) | have HG := Lib.hid ((nf_new w5 _ 75).below hb5) | skip); (first | have HP := Lib.hid (HP.out.below hb5) | have HP := Lib.hid (HP.out.drew.below hb5) | have HP := Lib.hid ((HP.out.below (al1 _ _)).below hb5) | have HP := Lib.hid ((HP.out.below (al1 _ _)).drew.below hb5)); (first | have HZ := Lib.hid (HZ.out.below hb5) | have HZ := Lib.hid (HZ.out.drew.below hb5) | have HZ := Lib.hid ((HZ.out.below (al1 _ _)).below hb5) | have HZ := Lib.hid ((HZ.out.below (al1 _ _)).drew.below hb5)); (first | have HB := Lib.hid (HB.out.below hb5) | have HB := Lib.hid (HB.out.drew.below hb5) | have HB := Lib.hid ((HB.out.below (al1 _ _)).below hb5) | have HB := Lib.hid ((HB.out.below (al1 _ _)).drew.below hb5)); have nz5 := HZ.out.lt; have nb5 := HB.out.size; clear hown hb5 o5)
   | (go_at_call 65; (with_reducible refine (l00Own_any p2 pc2 2 ys _ H.out.l2 ?_ HN2.out).mono ?_); (first | with_reducible exact H.out.r2.below (HB.out).bel | with_reducible exact H.out.r2.below (HB.out.drew).bel | with_reducible exact H.out.r2.below (HB.out.below (al1 _ _)).bel | with_reducible exact H.out.r2.below (HB.out.drew.below (al1 _ _)).bel | with_reducible exact H.out.r2.below ((HB.out.below (al1 _ _)).drew).bel); rintro e w6 ⟨v2, rfl, hown, hb6⟩; (obtain ⟨c6, b6, rfl, o6, hlt6, hc6⟩ := outN_own hown H.out.l2 hle2 HN2.out); have O2 := Lib.hid o6; have nb2 := o6.new; (first | have HY := Lib.hid (HY.out.below hb6) | have HY := Lib.hid (HY.out.drew.below hb6) | have HY := Lib.hid ((z4_new w7 75).below hb6) | have HY := Lib.hid ((z4_new w7 75).drew.below hb6) | have HY := Lib.hid ((z4_new w7.drew 75).below hb6) | skip); (first | have HG := Lib.hid (HG.out.below hb6) | have HG := Lib.hid (HG.out.drew.below hb6) | have HG := Lib.hid ((nf_new w7 _ 75).below hb6) | have HG := Lib.hid ((nf_new w7 _ 75).drew.below hb6) | have HG := Lib.hid ((nf_new w7.drew _ 75).below hb6) | skip); (try obtain ⟨yz, y0, y1, y2, y3, k0, k1, k2, k3⟩ := HY.out); (first | have HP := Lib.hid (HP.out.below hb6) | have HP := Lib.hid (HP.out.drew.below hb6) | have HP := Lib.hid ((HP.out.below (al1 _ _)).below hb6) | have HP := Lib.hid ((HP.out.below (al1 _ _)).drew.below hb6)); (first | have HZ := Lib.hid (HZ.out.below hb6) | have HZ := Lib.hid (HZ.out.drew.below hb6) | have HZ := Lib.hid ((HZ.out.below (al1 _ _)).below hb6) | have HZ := Lib.hid ((HZ.out.below (al1 _ _)).drew.below hb6)); (first | have HB := Lib.hid (HB.out.below hb6) | have HB := Lib.hid (HB.out.drew.below hb6) | have HB := Lib.hid ((HB.out.below (al1 _ _)).below hb6) | have HB := Lib.hid ((HB.out.below (al1 _ _)).drew.below hb6)); (first | have O1 := Lib.hid (O1.out.below hb6) | have O1 := Lib.hid (O1.out.drew.below hb6) | have O1 := Lib.hid ((O1.out.below (al1 _ _)).below hb6) | have O1 := Lib.hid ((O1.out.below (al1 _ _)).drew.below hb6)); have nz6 := HZ.out.lt; have nb6 := HB.out.size; clear hown hb6 o6))
  all_goals (try simp at nb1)
  all_goals (try simp at nb2)
  all_goals go_wp2_with fail
  all_goals go_meet
  all_goals have hl5 := (O1.out.free HN1.out).1
  all_goals have hb5' := HB.out.size
  all_goals first
   | exact ⟨_, _, _, _, _, rfl, tr_fin2 75 HP.out hbw hdw HZ.out O1.out O2.out H.out.l1 H.out.l2 (by omega) hl5 hlt6 (by first | omega | (simp; done) | (simp; omega)) (by first | omega | (simp; done) | (simp; omega)) hc5 hc6, ⟨by omega, by omega⟩, OnW.below HB.out (al1 _ _)⟩
   | exact ⟨_, _, _, _, _, rfl, tr_fin HP.out hbw hdw HZ.out HY.out HG.out.2 O1.out O2.out H.out.l1 H.out.l2 (by omega) (by omega) (by omega) hl5 hlt6 (by first | omega | (simp; done) | (simp; omega)) (by first | omega | (simp; done) | (simp; omega)) (by first | omega | (simp; done) | (simp; omega)) hc5 hc6, ⟨by omega, by omega⟩, OnW.set4 HB.out (by omega) _ _ _ _⟩
 case rest =>
  obtain ⟨s0, b5, c5, b6, c6, rfl, hF, hL5, hbx⟩ := hcut
  have HF := Lib.hid hF
  have HBx := Lib.hid hbx
  clear hF hbx HB HT HP HZ
  go_upto_region 3 with fail
  have hy0 := posB_getD G.out.q2 P
  have hy1 : ys.getD P 0 ≤ 96 := by have := getD_le G.out.q2 P; have := posB_tot G.out.q1; have := G.out.q3; omega
  have hsb := sumAt_bd G.out.q1 G.out.t1 L
  have hn16 : n ≤ 1000 := HLp.out
  have hly : P < ys.length := by rw [H.out.l2]; exact hP2
  obtain ⟨hs0, hs1⟩ : 0 ≤ sumAt xs L ∧ sumAt xs L ≤ 96 * 1000 := by have := Hn.out; omega
  have HF2 := Lib.hid (HF.out.below (Below.refl _ _).drew)
  have HB2 := Lib.hid (show OnW w5 wc.drew from HBx.out.drew)
  have hr5 : RowN wc.drew a5 L := RowN.below HR5.out HB2.out
  have HSum : Hid (Calls Try.prog 87 #[.pointer (some ⟨d, 0, none⟩), .slice a5 n cc5] wc.drew (Still (.int .i64 (sumAt xs L)) wc.drew)) := Lib.hid (l06Sum_still p1 p2 pn1 pc1 2 pc2 pp pq xs ys L d a5 cc5 n _ HF2.out.cp.2.1 (H.out.below HB2.out) G.out.q1 G.out.t1 HPin.out Hn.out HLp.out hr5)
  obtain ⟨y1, y2, y3⟩ := HF.out.so.y hP2
  obtain ⟨_, t0, t1, t2, t3⟩ := HF.out.so.so
  have z0 : (0 : Int) ≤ (P : Int) := by omega
  have z1 : (P : Int) < 2 := by omega
  generalize hS : sumAt xs L = S at *
  generalize hY : ys.getD P 0 = yv at *
  have HSY := Lib.hid (And.intro hS hY)
  have hwr : IntKind.i64.wrap (yv + S) = yv + S := IntWalk.i64_in _ ⟨by omega, by omega⟩
  clear hS hY hr5 hsb
  go_region_law ((go_simp; go_at_call 87; refine HSum.out.mono ?_; rintro e w8 ⟨rfl, q8, rfl⟩))
  all_goals
   have HI0 := Lib.hid (show TrF w b d p s c l st sk re fe ag p1 p2 pn1 pc1 2 pc2 pp pq s0 b5 c5 b6 c6 (zeroAt xs (L.take 0)) TY _ from HTY.out ▸ (HF.out.below (below_dn (Below.refl _ _) (1 + q8))).setY hP2 (yv + S))
   have HB0 := Lib.hid (show OnW w5 _ from (below_dn HBx.out (1 + q8)).setCell (p := ⟨b6, P, none⟩) hL5.2 (.int .i64 (yv + S)))
   clear y1 y2 y3 t0 t1 t2 t3 HF HB2 HSum HBx
   generalize (wc.drewN (1 + q8)).setCell ⟨b6, P, none⟩ (.int .i64 (yv + S)) = W8 at *
   go_wp2_with fail
   go_loopw [9] (fun i wr => ∃ (k : Nat), k ≤ n ∧ i = .int .i64 k ∧ TrF w b d p s c l st sk re fe ag p1 p2 pn1 pc1 2 pc2 pp pq s0 b5 c5 b6 c6 (zeroAt xs (L.take k)) TY wr ∧ OnW w5 wr) (fun i _ => n - (intOf i).toNat)
   case atStart => exact ⟨0, Nat.zero_le _, rfl, HI0.out, HB0.out⟩
   case round =>
    obtain ⟨k, hk, rfl, hI, hB⟩ := hrel
    have HI := Lib.hid hI
    have HB := Lib.hid hB
    clear hI hB HI0 HB0
    by_cases hlt : k < n
    ·obtain ⟨q, hq⟩ : ∃ q, L[k]? = some q := ⟨L[k]'(by rw [Hn.out]; exact hlt), List.getElem?_eq_getElem _⟩
     obtain ⟨q0, q1⟩ := HPin.out q (List.mem_of_getElem? hq)
     obtain ⟨Q, rfl⟩ : ∃ Q : Nat, q = (Q : Int) := ⟨q.toNat, by omega⟩
     have hne : L ≠ [] := by intro e; subst e; cases hq
     have HQn : Hid (Q < pn1) := Lib.hid (by omega)
     have hz : zeroAt xs (L.take (k + 1)) = (zeroAt xs (L.take k)).set Q 0 := by rw [take_next hq, zero_snoc]; rfl
     have HNew : Hid (∀ u, TrF w b d p s c l st sk re fe ag p1 p2 pn1 pc1 2 pc2 pp pq s0 b5 c5 b6 c6 ((zeroAt xs (L.take k)).set Q 0) TY u → TrF w b d p s c l st sk re fe ag p1 p2 pn1 pc1 2 pc2 pp pq s0 b5 c5 b6 c6 (zeroAt xs (L.take (k + 1))) TY u) := Lib.hid (fun u h => hz ▸ h)
     have HKn := Lib.hid hlt
     have k0 : (0 : Int) ≤ (k : Int) := by omega
     have k1 : (k : Int) < (n : Int) := by omega
     obtain ⟨ga, oa, hga, hgl, hca⟩ := (RowN.below HR5.out (show OnW w5 wr.drew from HB.out.drew)).2.resolve_left hne
     have ya := hca k _ hq
     subst hga
     clear hz hq hne hca hgl
     have HI2 := Lib.hid (HI.out.below (Below.refl _ _).drew)
     have HB2 := Lib.hid (show OnW w5 wr.drew from HB.out.drew)
     go_wp2_with fail
     obtain ⟨x1, x2, x3⟩ := HI2.out.so.x HQn.out
     obtain ⟨_, t0, t1, t2, t3⟩ := HI2.out.so.so
     go_still_tail 7, (by kernel_rfl)
     change wpList _ _ _ _ _ (World.drew wr)
     have HI3 := Lib.hid (HI2.out.setX HQn.out 0)
     have HB3 := Lib.hid (show OnW w5 _ from HB2.out.setCell (p := ⟨b5, Q, none⟩) hL5.1 (.int .i64 0))
     clear HI2 HB2 HI HB
     generalize wr.drew = wq at *
     go_wp2_with fail
     go_roundw
     case rel => exact ⟨k + 1, HKn.out, by go_num, HNew.out _ HI3.out, HB3.out⟩
     case measure => (have hkn := HKn.out; simp [intOf]; omega)
    ·obtain rfl : k = n := by omega
     rw [List.take_of_length_le (show L.length ≤ k from Nat.le_of_eq Hn.out), HTX.out] at HI
     have k0 : ¬ (k : Int) < (k : Int) := by omega
     obtain ⟨zl, z0, z1, z2, z3, f0, f1, f2, f3⟩ := HI.out.z
     obtain ⟨_, t0, t1, t2, t3⟩ := HI.out.so.so
     have ms := HI.out.ms
     have dd1 : s0 ≠ w.heap.size := by omega
     have dd2 : w.heap.size ≠ s0 := by omega
     go_wp2_with fail
     refine bodyPost_ret (v := .agg #[.slice (some ⟨b5, 0, none⟩) pn1 c5, .slice (some ⟨b6, 0, none⟩) 2 c6, .int .i64 pp, .int .i64 pq]) (by simp [results, Try.results70, go_sem, z0, z1, z2, z3]) rfl ?_
     have hbt := but4 w.heap.size wr (.slice (some ⟨b5, 0, none⟩) pn1 c5) (.slice (some ⟨b6, 0, none⟩) 2 c6) (.int .i64 pp) (.int .i64 pq)
     exact ⟨b5, c5, b6, c6, rfl, ⟨(HI.out.so.o1.but hbt (by have := HI.out.so.o1.new; omega)).lower (Nat.le_add_right _ 1), (HI.out.so.o2.but hbt (by have := HI.out.so.o2.new; omega)).lower (Nat.le_add_right _ 1), HI.out.so.d3, HI.out.so.l1, HI.out.so.l2⟩, by simpa using HI.out.l5, by simpa using HI.out.l6, HI.out.k5, HI.out.k6, OnW.set4 (show OnW w wr from HI.out.cp.2.2) (Nat.le_refl _) _ _ _ _⟩
/- Rnd5 -/
open Go.RowKit
section
variable {n : Nat} {P : Program}
def Begins (m : Nat) (P : Program) (body : Code) (L : Nat) (R : LoopState → Option Code → Loop) (Post : Ending → World → Prop) (a : Act) (w : World) : Prop :=
 w.heap[L]? = some (.loop (R .ready none)) ∧ body.wpIn (Fence.wide.inRound L) m P (BodyQ L R Post) a (w.putObj L (.loop (R .busy none)))
theorem round_yield {fn : FuncId} {tmps : Array Value} {ps : Array Tmp} {assign body : Code} {D L m : Nat} {R : LoopState → Option Code → Loop} (hR : R = Lp fn tmps ps assign body D) {A : World} {args : Array Value} {Post : Ending → World → Prop}
  (hl : A.heap[L]? = some (.loop (R .ready none))) (hps : args.size = ps.size)
  (h : ∀ K : Act → World → Prop, (∀ a w, Begins m P body L R Post a w → K a w) → assign.wpIn (Fence.wide.inRound L) m P (Exit.then K (fun _ _ _ => False)) { tmps := (ps.zip args).foldl (fun t (p, v) => t.setIfInBounds p v) tmps, defers := [] } A) :
  YieldAt Fence.wide m P L args A Post := by
 subst hR
 have hy := run_yield (P := P) (args := args) hl hps
 refine ⟨fn, _, assign, body, hy, roundIn_of_wpIn trivial (h _ fun a w hb => ⟨_, run_beginRound hb.1 rfl, ?_⟩)⟩
 refine wpIn_mono hb.2 ?_
 rintro e a3 Z hp
 cases e with
 | normal => exact ⟨_, _, run_endRound (P := P) none hp.1, hp.2⟩
 | ret => exact ⟨_, _, run_endRound (P := P) (some .ret) hp.1, hp.2⟩
 | exit id => exact ⟨_, _, run_endRound (P := P) (some (.exit id)) hp.1, hp.2⟩
 | goto t => exact hp.elim
 | panic c => exact hp.elim
 | outgrown => exact hp.elim
end
/- Last5 -/
open Go.RowKit Go.Shelf
attribute [local go_sem] Oper.semAt_some
structure LastC (w : World) (bs bl : Nat) (n : Int) (pv : Nat → Int) (k : Nat) (A : World) : Prop where
 below : Below w.heap.size w A
 cs : A.cell? ⟨bs, 0, none⟩ = some (.int .i64 (n - k))
 cl : ∃ v, A.cell? ⟨bl, 0, none⟩ = some (.int .i64 v) ∧ (∀ j, k = j + 1 → v = pv j)
 fs : A.frozen? ⟨bs, 0, none⟩ = false
 fl : A.frozen? ⟨bl, 0, none⟩ = false
theorem LastC.tame {w A Z : World} {bs bl B k : Nat} {n : Int} {pv : Nat → Int} (h : LastC w bs bl n pv k A) (t : Tame B A Z) (hB : w.heap.size ≤ B) : LastC w bs bl n pv k Z := by
 obtain ⟨v, hv, hk⟩ := h.cl
 exact ⟨Tame.below h.below t hB (Nat.le_refl _), (t.cell h.cs).1, ⟨v, (t.cell hv).1, hk⟩, (t.cell h.cs).2.trans h.fs, (t.cell hv).2.trans h.fl⟩
def RecAt (A : World) (L D : Nat) (r : Loop) : Prop := A.heap[L]? = some (.loop r) ∧ A.heap[D]? = some (.deferred (some []))
theorem RecAt.below {A Z : World} {L D : Nat} {r : Loop} (h : RecAt A L D r) (k : Below A.heap.size A Z) : RecAt Z L D r :=
 ⟨(k.block L (Array.getElem?_eq_some_iff.1 h.1).1).trans h.1, (k.block D (Array.getElem?_eq_some_iff.1 h.2).1).trans h.2⟩
theorem RecAt.put {A : World} {L D : Nat} {r r' : Loop} (h : RecAt A L D r) (hD : D ≠ L) : RecAt (A.putObj L (.loop r')) L D r' :=
 ⟨World.putObj_heap_same (Array.getElem?_eq_some_iff.1 h.1).1, (World.putObj_heap_other hD).trans h.2⟩
theorem RecAt.setCell {A : World} {L D : Nat} {r : Loop} (h : RecAt A L D r) {p : Addr} {v : Value} (hp : A.cell? p = some v) (x : Value) : RecAt (A.setCell p x) L D r := by
 have hc : ∃ o, A.heap[p.block]? = some o ∧ o.isCells = true := by
  unfold World.cell? at hp
  rcases ho : A.heap[p.block]? with _ | u
  ·simp [ho] at hp
  ·exact ⟨u, rfl, by cases u <;> simp_all [Obj.isCells]⟩
 obtain ⟨o, ho, hoc⟩ := hc
 refine ⟨(Below.heap_setCell A p x L fun e => ?_).trans h.1, (Below.heap_setCell A p x D fun e => ?_).trans h.2⟩
 ·rw [← e, h.1] at ho
  cases ho
  cases hoc
 ·rw [← e, h.2] at ho
  cases ho
  cases hoc
/- Scope -/
open Go
section
variable {F : Fence} {n : Nat} {P : Program} {Q : Exit → Act → World → Prop} {a : Act} {w : World}
theorem stepR_scope {b : Frame} {k : List Item} {cs : List Frame} {c : Code} : step P (lone (b.atR a (.code (.scope c) :: k)) cs w) = .next (lone (b.atR a (.code c :: .inScope c :: k)) cs w) :=
 step_lone_go (by simp [stepG, stepG.exec, Frame.atR])
theorem stepR_inScope {b : Frame} {k : List Item} {cs : List Frame} {c : Code} : step P (lone (b.atR a (.inScope c :: k)) cs w) = .next (lone (b.atR a k) cs w) :=
 step_lone_go (by simp [stepG, stepG.exec, Frame.atR])
theorem wpIn_scope {c : Code} (h : c.wpIn F n P (Exit.noGoto Q) a w) : (Code.scope c).wpIn F n P Q a w := by
 intro b k cs hro hb hr
 have h0 : (lone (b.atR a (.code (.scope c) :: k)) cs w).fenced P F := fenced_calm hb hr rfl
 obtain ⟨e, a₁, w₁, hq, harr⟩ := h b (.inScope c :: k) cs hro hb hr
 cases e with
 | normal => exact ⟨.normal, a₁, w₁, hq, .head h0 stepR_scope (StepsIn.trans harr (.one (fenced_calm hb hr rfl) stepR_inScope))⟩
 | exit id =>
  have hx : exitTo id (.inScope c :: k) = exitTo id k := by simp [exitTo]
  exact ⟨.exit id, a₁, w₁, hq, fun k' hk => .head h0 stepR_scope (harr.1 k' (by rw [hx]; exact hk)),
   fun hr' hk => let ⟨k₁, h1, h2⟩ := harr.2 hr' (by rw [hx]; exact hk); ⟨k₁, h1, .head h0 stepR_scope h2⟩⟩
 | goto l => exact hq.elim
 | ret => exact ⟨_, a₁, w₁, hq, .of_steps (.one h0 stepR_scope) harr⟩
 | panic ch => exact ⟨_, a₁, w₁, hq, .of_steps (.one h0 stepR_scope) harr⟩
 | outgrown => exact ⟨_, a₁, w₁, hq, .of_steps (.one h0 stepR_scope) harr⟩
end
/- Stp5 -/
open Go.RowKit Go.Shelf
def Cfg.R (K : Cfg) : Rl := ⟨K.p, K.pl, K.st, K.sk, K.re⟩
theorem put_any (K : Cfg) (y ha la lp : Int) (xs ys : List Int) (W : World) (hpl : K.pl = 0 ∨ K.pl = 1) (h : SwS W K ha la lp xs ys) (h0 : 1 ≤ ha) (h1 : ha ≤ 96) (hy0 : -1 ≤ y) (hy1 : y < K.n1) (hn : K.n1 ≤ 1000)
  (hb : ∀ i, (0 ≤ xs.getD i 0 ∧ xs.getD i 0 ≤ 96) ∧ (0 ≤ ys.getD i 0 ∧ ys.getD i 0 ≤ 96)) :
  Calls Try.prog 102 #[.pointer (some ⟨K.b, 0, none⟩), .int .i64 y] W (PutP K y ha lp xs ys W) := by
 by_cases e : y = -1
 ·subst e
  rcases hpl with e | e
  ·exact putS0 K ha la lp xs ys W e h h0 h1 (hb 0).2.1 (hb 0).2.2
  ·exact putS1 K ha la lp xs ys W e h h0 h1 (hb 1).2.1 (hb 1).2.2
 ·obtain ⟨m, rfl⟩ : ∃ m : Nat, y = m := ⟨y.toNat, by omega⟩
  exact putP_any K m ha la lp xs ys W h (by omega) hn h0 h1 (hb m).1.1 (hb m).1.2
structure Stg where
 j : Nat
 xs : List Int
 ys : List Int
 f : Int
 path : List Int
def Stg.n (s : Stg) : Nat := cnt s.xs s.f
def Stg.next (R : Rl) (s : Stg) : Stg := ⟨s.j + 1, cx R s.xs s.f s.n, cy R s.ys s.f s.n, lst R s.xs s.f, s.path ++ lapP R s.f s.n⟩
structure Stg.Ok (R : Rl) (t : Int) (s : Stg) : Prop where
 lap : Lap R s.xs s.ys s.f t
 hi : s.j ≤ 100
def StW (A : World) (K : Cfg) (s : Stg) (i : Nat) (la : Int) : Prop := SwS A K ((s.n : Int) - i) la (s.j + 1) (cx K.R s.xs s.f i) (cy K.R s.ys s.f i)
structure Out (B : Nat) (K : Cfg) (A Z : World) : Prop where
 os : Z.os = A.os
 tape : Z.tape = A.tape
 output : Z.output = A.output
 size : A.heap.size ≤ Z.heap.size
 keep : ∀ k, k < B → k ≠ K.b → k ≠ K.g1 → k ≠ K.g2 → Z.heap[k]? = A.heap[k]?
theorem Out.of_low {B : Nat} {K : Cfg} {A Z : World} (h : Below B A Z) : Out B K A Z := ⟨h.os, h.tape, h.output, h.size, fun k hk _ _ _ => h.block k hk⟩
theorem Out.of_ch {B : Nat} {K : Cfg} {A Z : World} (h : Ch K A Z) (hB : B ≤ A.heap.size) : Out B K A Z := ⟨h.os, h.tape, h.output, h.size, fun k hk a b c => h.keep k (by omega) a b c⟩
theorem Above.of_ch {B : Nat} {K : Cfg} {A Z : World} (h : Ch K A Z) (hb : K.b < B ∧ K.g1 < B ∧ K.g2 < B) : Above B A Z := ⟨h.size, fun k hB hk => h.keep k hk (by omega) (by omega) (by omega)⟩
theorem low_put {B r : Nat} (A : World) (o : Obj) (hr : B ≤ r) : Below B A (A.putObj r o) := ⟨rfl, rfl, rfl, by simp, fun k hk => World.putObj_heap_other (by omega)⟩
theorem low_set {B : Nat} (A : World) {q : Addr} (hq : B ≤ q.block) (x : Value) : Below B A (A.setCell q x) := (Below.refl B A).setCell hq x
theorem low_below {B : Nat} {A Z : World} (h : Below A.heap.size A Z) (hB : B ≤ A.heap.size) : Below B A Z := h.mono hB
theorem SwS.low {B : Nat} {A Z : World} {K : Cfg} {ha la lp : Int} {xs ys : List Int} (h : SwS A K ha la lp xs ys) (k : Below B A Z) (hb : K.b < B ∧ K.g1 < B ∧ K.g2 < B) : SwS Z K ha la lp xs ys :=
 h.keep (k.block _ hb.1) (k.block _ hb.2.1) (k.block _ hb.2.2) k.size
def mk (D : Nat) : Deferred := { target := .collected D, args := #[] }
structure BxS (B0 kb l : Nat) (pv : Int) (ds : List Nat) (A : World) : Prop where
 lt : B0 + 3 ≤ A.heap.size
 cw : A.cell? ⟨B0, 0, none⟩ = some (.pointer (some ⟨kb, 0, none⟩))
 cv : A.cell? ⟨B0 + 1, 0, none⟩ = some (.func (.yield l) #[] #[])
 cp : A.cell? ⟨B0 + 1 + 1, 0, none⟩ = some (.int .i64 pv)
 fp : A.frozen? ⟨B0 + 1 + 1, 0, none⟩ = false
 ms : ∀ D ∈ ds, B0 ≤ D ∧ A.heap[D]? = some (.deferred (some []))
 nd : ds.Nodup
section
variable {B0 kb l : Nat} {pv : Int} {ds : List Nat} {A Z : World}
theorem BxS.above (h : BxS B0 kb l pv ds A) (k : Above B0 A Z) : BxS B0 kb l pv ds Z := by
 have hl := h.lt
 exact ⟨Nat.le_trans h.lt k.size, (k.cell (by omega) (by omega)).trans h.cw, (k.cell (by omega) (by omega)).trans h.cv, (k.cell (by omega) (by omega)).trans h.cp, (k.frozen (by omega) (by omega)).trans h.fp,
  fun D hD => ⟨(h.ms D hD).1, (k.keep D (h.ms D hD).1 (Array.getElem?_eq_some_iff.1 (h.ms D hD).2).1).trans (h.ms D hD).2⟩, h.nd⟩
theorem BxS.loop (h : BxS B0 kb l pv ds A) {L : Nat} {r r' : Loop} (hr : A.heap[L]? = some (.loop r)) : BxS B0 kb l pv ds (A.putObj L (.loop r')) := by
 have t := Tame.putObj (B := 0) (Nat.zero_le _) hr rfl (.loop r')
 exact ⟨by simpa using h.lt, (t.cell h.cw).1, (t.cell h.cv).1, (t.cell h.cp).1, (t.cell h.cp).2.trans h.fp,
  fun D hD => ⟨(h.ms D hD).1, (World.putObj_heap_other (fun e => by have := (h.ms D hD).2; rw [e, hr] at this; cases this)).trans (h.ms D hD).2⟩, h.nd⟩
theorem BxS.mark (h : BxS B0 kb l pv ds A) {D : Nat} (hD : A.heap[D]? = some (.deferred (some []))) (hB : B0 ≤ D) (hn : D ∉ ds) : BxS B0 kb l pv (D :: ds) A :=
 ⟨h.lt, h.cw, h.cv, h.cp, h.fp, fun E hE => by
  rcases List.mem_cons.1 hE with rfl | hE
  ·exact ⟨hB, hD⟩
  ·exact h.ms E hE, List.nodup_cons.2 ⟨hn, h.nd⟩⟩
theorem BxS.setP (h : BxS B0 kb l pv ds A) (v : Int) : BxS B0 kb l v ds (A.setCell ⟨B0 + 1 + 1, 0, none⟩ (.int .i64 v)) := by
 obtain ⟨lt, cw, cv, cp, fp, hm, nd⟩ := h
 have hc : ∃ o, A.heap[B0 + 1 + 1]? = some o ∧ o.isCells = true := by
  have hp := cp
  unfold World.cell? at hp
  rcases ho : A.heap[B0 + 1 + 1]? with _ | u
  ·simp [ho] at hp
  ·exact ⟨u, rfl, by cases u <;> simp_all [Obj.isCells]⟩
 obtain ⟨o, ho, hoc⟩ := hc
 exact ⟨by simpa using lt, by go_simp, by go_simp, by go_simp, by go_simp,
  fun D hD => ⟨(hm D hD).1, (Below.heap_setCell A ⟨B0 + 1 + 1, 0, none⟩ _ D (fun e => by
   have := (hm D hD).2
   simp only at e
   rw [e, ho] at this
   cases this
   cases hoc)).trans (hm D hD).2⟩, nd⟩
end
theorem RecAt.above {B L D : Nat} {A Z : World} {r : Loop} (h : RecAt A L D r) (k : Above B A Z) (hL : B ≤ L) (hD : B ≤ D) : RecAt Z L D r :=
 ⟨(k.keep L hL (Array.getElem?_eq_some_iff.1 h.1).1).trans h.1, (k.keep D hD (Array.getElem?_eq_some_iff.1 h.2).1).trans h.2⟩
theorem leaves_marks {F : Fence} {n : Nat} {P : Program} {fn : Func} {tmps : Array Value} {R : Ending → World → Prop} {B0 : Nat} (I : World → Prop)
  (hI : ∀ A D, I A → B0 ≤ D → A.heap[D]? = some (.deferred (some [])) → I (A.putObj D (.deferred none))) (hend : ∀ A, I A → LeavesInM F n P fn tmps R [] .returning A) :
  ∀ (ds : List Nat) (w : World), ds.Nodup → (∀ D ∈ ds, B0 ≤ D ∧ w.heap[D]? = some (.deferred (some []))) → I w → LeavesInM F n P fn tmps R (ds.map mk) .returning w
 | [], w, _, _, h => hend w h
 | d :: ds, w, hn, hm, h => by
  have hd := hm d (by simp)
  obtain ⟨h1, h2⟩ := List.nodup_cons.1 hn
  refine ⟨by simp, .inl ⟨d, _, rfl, run_takeDeferred hd.2, leaves_marks I hI hend ds _ h2 (fun D hD => ?_) (hI w d h hd.1 hd.2)⟩⟩
  exact ⟨(hm D (by simp [hD])).1, (World.putObj_heap_other (fun e => h1 (by rw [← e]; exact hD))).trans (hm D (by simp [hD])).2⟩
theorem rlb_agn {K : Cfg} {xs : List Int} {f : Int} {k : Nat} (hk : k + 1 = cnt xs f) : rlb K.re (cx K.R xs f k) (K.R.at f k) = agn K.R xs f := by
 unfold agn rlb lst
 rw [← hk, Nat.add_sub_cancel]
 rfl
structure LapJ (B0 : Nat) (K : Cfg) (l F : Nat) (ds : List Nat) (s : Stg) (JJ : Stg → Nat → World → Prop) (L D : Nat) (R : LoopState → Option Code → Loop) (k : Nat) (A : World) : Prop where
 jj : JJ s k A
 sw : ∃ la, StW A K s k la
 bx : BxS B0 K.b l F ds A
 rc : RecAt A L D (R .ready none)
 hj : 0 < k → s.j < 100
structure LapX (B0 : Nat) (K : Cfg) (l F : Nat) (ds : List Nat) (s : Stg) (JJ : Stg → Nat → World → Prop) (Jx : World → Prop) (L D : Nat) (R : LoopState → Option Code → Loop) (Z : World) : Prop where
 or : (Jx Z ∧ BxS B0 K.b l F ds Z ∧ RecAt Z L D (R .done (some .ret))) ∨
   (agn K.R s.xs s.f = false ∧ s.j < 100 ∧ JJ s s.n Z ∧ StW Z K s s.n (lst K.R s.xs s.f) ∧ BxS B0 K.b l F ds Z ∧ RecAt Z L D (R .done (some .ret))) ∨
   (agn K.R s.xs s.f = true ∧ s.j < 100 ∧ JJ s s.n Z ∧ StW Z K s s.n (lst K.R s.xs s.f) ∧ BxS B0 K.b l (lst K.R s.xs s.f) ds Z ∧ RecAt Z L D (R .done (some (.exit 1))))
end Go.Proofs.Ytmngmbpdiaocjaa
