/- The parts of a capture, as the program takes them. No conditions. -/
import Derived.Test.YtdhkfkfoibddnaaVS7
import Derived.Test.YtdhkfkfoibddnaaOwn4
namespace Go.Proofs.Ytdhkfkfoibddnaa
open Go.Joins Go.ChangeShapes Go.WideShapes Go.ChangeAt Go.RowKit Go.Deep
set_option linter.unusedVariables false

/-- A capture, boxed at a call's start. -/
def CpAt (w : World) (p s c l : Int) (st sk re fe ag : Bool) (player : Int) (p1 p2 : Option Addr) (pn1 pc1 pn2 pc2 : Nat) (pp pq : Int) (u : World) : Prop := (w.heap.size < u.heap.size ∧ u.cell? ⟨w.heap.size, 0, none⟩ = some (.int .i64 p) ∧ u.cell? ⟨w.heap.size, 1, none⟩ = some (.int .i64 s) ∧ u.cell? ⟨w.heap.size, 2, none⟩ = some (.bool st) ∧ u.cell? ⟨w.heap.size, 3, none⟩ = some (.bool sk) ∧ u.cell? ⟨w.heap.size, 4, none⟩ = some (.bool re) ∧ u.cell? ⟨w.heap.size, 5, none⟩ = some (.bool fe) ∧ u.cell? ⟨w.heap.size, 6, none⟩ = some (.bool ag) ∧ u.cell? ⟨w.heap.size, 7, none⟩ = some (.int .i64 c) ∧ u.cell? ⟨w.heap.size, 8, none⟩ = some (.int .i64 l) ∧ u.cell? ⟨w.heap.size, 9, none⟩ = some (.int .i64 player) ∧ u.cell? ⟨w.heap.size, 10, none⟩ = some (.slice p1 pn1 pc1) ∧ u.cell? ⟨w.heap.size, 11, none⟩ = some (.slice p2 pn2 pc2) ∧ u.cell? ⟨w.heap.size, 12, none⟩ = some (.int .i64 pp) ∧ u.cell? ⟨w.heap.size, 13, none⟩ = some (.int .i64 pq)) ∧ Below w.heap.size w u
section
variable {w u v : World} {p s c l player : Int} {st sk re fe ag : Bool} {p1 p2 : Option Addr} {pn1 pc1 pn2 pc2 : Nat} {pp pq : Int}
theorem CpAt.below (h : CpAt w p s c l st sk re fe ag player p1 p2 pn1 pc1 pn2 pc2 pp pq u) (k : Below u.heap.size u v) : CpAt w p s c l st sk re fe ag player p1 p2 pn1 pc1 pn2 pc2 pp pq v := by
  obtain ⟨⟨hb, h⟩, hw⟩ := h
  have e := fun o => k.cell (p := ⟨w.heap.size, o, none⟩) hb
  exact ⟨⟨Nat.lt_of_lt_of_le hb k.size, by rw [e, e, e, e, e, e, e, e, e, e, e, e, e, e]; exact h⟩, hw.trans (k.mono hw.size)⟩
theorem CpAt.drew (h : CpAt w p s c l st sk re fe ag player p1 p2 pn1 pc1 pn2 pc2 pp pq u) : CpAt w p s c l st sk re fe ag player p1 p2 pn1 pc1 pn2 pc2 pp pq u.drew := ⟨h.1, h.2.drew⟩
theorem CpAt.be (h : CpAt w p s c l st sk re fe ag player p1 p2 pn1 pc1 pn2 pc2 pp pq u) : Below w.heap.size w u := h.2
end
theorem cp_new (p s c l : Int) (st sk re fe ag : Bool) (player : Int) (p1 p2 : Option Addr) (pn1 pc1 pn2 pc2 : Nat) (pp pq : Int) (w : World) (T : TypeId) : CpAt w p s c l st sk re fe ag player p1 p2 pn1 pc1 pn2 pc2 pp pq (w.alloc (.cells #[.int .i64 p, .int .i64 s, .bool st, .bool sk, .bool re, .bool fe, .bool ag, .int .i64 c, .int .i64 l, .int .i64 player, .slice p1 pn1 pc1, .slice p2 pn2 pc2, .int .i64 pp, .int .i64 pq] T)) :=
  ⟨⟨by simp, by go_simp, by go_simp, by go_simp, by go_simp, by go_simp, by go_simp, by go_simp, by go_simp, by go_simp, by go_simp, by go_simp, by go_simp, by go_simp, by go_simp⟩, (Below.refl _ _).alloc (Nat.le_refl _) _⟩
set_option maxHeartbeats 1000000 in
theorem owns_any (p s c l : Int) (st sk re fe ag : Bool) (player place : Int) (w : World) (hp : 2 ≤ p ∧ p ≤ 8) (hpl : player = 0 ∨ player = 1) :
    Calls Try.prog 108 #[.agg #[.int .i64 p, .int .i64 s, .bool st, .bool sk, .bool re, .bool fe, .bool ag, .int .i64 c, .int .i64 l], .int .i64 player, .int .i64 place] w fun e w' => e = .returned (.bool (ownB p player place)) ∧ Below w.heap.size w w' := by
  obtain ⟨hp2, hp8⟩ := hp
  have BB := Lib.hid ((Below.refl w.heap.size w).alloc (Nat.le_refl _) (.cells #[.int .i64 p, .int .i64 s, .bool st, .bool sk, .bool re, .bool fe, .bool ag, .int .i64 c, .int .i64 l] 30))
  have hw1 : IntKind.i64.wrap p = p := IntWalk.i64_in _ ⟨by omega, by omega⟩
  have hw2 : IntKind.i64.wrap (2 * p) = 2 * p := IntWalk.i64_in _ ⟨by omega, by omega⟩
  rcases (show player = 0 ∨ player ≠ 0 from Decidable.em _) with rfl | hno
  · by_cases h1 : 0 ≤ place
    · have d1 : decide (0 ≤ place) = true := by simpa using h1
      by_cases h2 : place < p
      · have d2 : decide (place < p) = true := by simpa using h2
        have e : ownB p 0 place = true := by unfold ownB; simp; omega
        rw [e]
        go_enter Try.func108, Try.ntmps108
        go_wp2_with fail
        go_ret
        exact ⟨rfl, BB.out⟩
      · have d2 : decide (place < p) = false := by simpa using h2
        have e : ownB p 0 place = false := by unfold ownB; simp; omega
        rw [e]
        go_enter Try.func108, Try.ntmps108
        go_wp2_with fail
        go_ret
        exact ⟨rfl, BB.out⟩
    · have d1 : decide (0 ≤ place) = false := by simpa using h1
      have e : ownB p 0 place = false := by unfold ownB; simp; omega
      rw [e]
      go_enter Try.func108, Try.ntmps108
      go_wp2_with fail
      go_ret
      exact ⟨rfl, BB.out⟩
  rcases (show player = 1 ∨ player ≠ 1 from Decidable.em _) with rfl | hno
  · by_cases h1 : p ≤ place
    · have d1 : decide (p ≤ place) = true := by simpa using h1
      by_cases h2 : place < 2 * p
      · have d2 : decide (place < 2 * p) = true := by simpa using h2
        have e : ownB p 1 place = true := by unfold ownB; simp; omega
        rw [e]
        go_enter Try.func108, Try.ntmps108
        go_wp2_with fail
        go_ret
        exact ⟨rfl, BB.out⟩
      · have d2 : decide (place < 2 * p) = false := by simpa using h2
        have e : ownB p 1 place = false := by unfold ownB; simp; omega
        rw [e]
        go_enter Try.func108, Try.ntmps108
        go_wp2_with fail
        go_ret
        exact ⟨rfl, BB.out⟩
    · have d1 : decide (p ≤ place) = false := by simpa using h1
      have e : ownB p 1 place = false := by unfold ownB; simp; omega
      rw [e]
      go_enter Try.func108, Try.ntmps108
      go_wp2_with fail
      go_ret
      exact ⟨rfl, BB.out⟩
  · omega
set_option maxHeartbeats 1000000 in
theorem isOther_any (p s c l : Int) (st sk re fe ag : Bool) (player : Int) (p1 p2 : Option Addr) (pn1 pc1 pn2 pc2 : Nat) (pp pq : Int) (place : Int) (w : World) (hp : 2 ≤ p ∧ p ≤ 8) (hpl : player = 0 ∨ player = 1) :
    Calls Try.prog 105 #[.agg #[.int .i64 p, .int .i64 s, .bool st, .bool sk, .bool re, .bool fe, .bool ag, .int .i64 c, .int .i64 l, .int .i64 player, .slice p1 pn1 pc1, .slice p2 pn2 pc2, .int .i64 pp, .int .i64 pq], .int .i64 place] w fun e w' => e = .returned (.bool (ownB p (1 - player) place)) ∧ Below w.heap.size w w' := by
  have HS := Lib.hid (cp_new p s c l st sk re fe ag player p1 p2 pn1 pc1 pn2 pc2 pp pq w 73)
  have hw1 : IntKind.i64.wrap (1 - player) = 1 - player := IntWalk.i64_in _ ⟨by omega, by omega⟩
  have HP := Lib.hid hp
  have HPl : Hid (1 - player = 0 ∨ 1 - player = 1) := Lib.hid (by omega)
  clear hp hpl
  go_enter Try.func105, Try.ntmps105
  go_wp2_with (go_at_call 108; refine (owns_any p s c l st sk re fe ag (1 - player) place _ HP.out HPl.out).mono ?_; rintro e w1 ⟨rfl, hb1⟩; obtain ⟨hc1, hf1⟩ := bcell hb1; have hs1 := hb1.size; (try simp at hs1); (try have hz1 : w.heap.size < w1.heap.size := by omega); (try have hy1 : w.heap.size + 1 < w1.heap.size := by omega); (try have hx1 := fun o => hc1 w.heap.size o (by first | omega | (simp; done) | (simp; omega))); (try have hv1 := fun o => hc1 (w.heap.size + 1) o (by first | omega | (simp; done) | (simp; omega))))
  go_ret
  exact ⟨rfl, (by repeat (first | exact Below.refl _ _ | assumption | (refine Below.drew ?_) | (refine Below.setCell ?_ (by first | omega | (simp; done) | (simp; omega)) _) | (refine Below.alloc ?_ (by first | omega | (simp; done) | (simp; omega)) _) | (refine Below.trans ?_ (Below.mono (by assumption) (by first | omega | (simp; done) | (simp; omega))))))⟩
set_option maxHeartbeats 1000000 in
theorem seedsIn_any (p s c l : Int) (st sk re fe ag : Bool) (player : Int) (p1 p2 : Option Addr) (pn1 pc1 pn2 pc2 : Nat) (pp pq : Int) (xs ys L : List Int) (a : Option Addr) (cc n : Nat) (w : World) (h : PosR w p1 p2 pn1 pn2 xs ys) (hp : posB xs = true) (ht : tot xs ≤ 96) (hL : ∀ k ∈ L, 0 ≤ k ∧ k < (pn1 : Int)) (hn : L.length = n) (hn16 : n ≤ 1000) (ha : RowN w a L) :
    Calls Try.prog 61 #[.agg #[.int .i64 p, .int .i64 s, .bool st, .bool sk, .bool re, .bool fe, .bool ag, .int .i64 c, .int .i64 l, .int .i64 player, .slice p1 pn1 pc1, .slice p2 pn2 pc2, .int .i64 pp, .int .i64 pq], .slice a n cc] w fun e w' => e = .returned (.int .i64 (sumAt xs L)) ∧ Below w.heap.size w w' := by
  have HS := Lib.hid (cp_new p s c l st sk re fe ag player p1 p2 pn1 pc1 pn2 pc2 pp pq w 73)
  obtain ⟨_, c0, c1, c2, c3, c4, c5, c6, c7, c8, c9, c10, c11, c12, c13⟩ := HS.out.1
  have H := Lib.hid (h.alloc (.cells #[.int .i64 p, .int .i64 s, .bool st, .bool sk, .bool re, .bool fe, .bool ag, .int .i64 c, .int .i64 l, .int .i64 player, .slice p1 pn1 pc1, .slice p2 pn2 pc2, .int .i64 pp, .int .i64 pq] 73))
  have HA := Lib.hid (ha.alloc (.cells #[.int .i64 p, .int .i64 s, .bool st, .bool sk, .bool re, .bool fe, .bool ag, .int .i64 c, .int .i64 l, .int .i64 player, .slice p1 pn1 pc1, .slice p2 pn2 pc2, .int .i64 pp, .int .i64 pq] 73))
  clear h ha
  go_enter Try.func61, Try.ntmps61
  go_wp2
  generalize w.alloc (.cells #[.int .i64 p, .int .i64 s, .bool st, .bool sk, .bool re, .bool fe, .bool ag, .int .i64 c, .int .i64 l, .int .i64 player, .slice p1 pn1 pc1, .slice p2 pn2 pc2, .int .i64 pp, .int .i64 pq] 73) = w1 at *
  go_loop [5, 10] (fun s i => ∃ (k : Nat) (t : Int), k ≤ n ∧ i = .int .i64 k ∧ s = .int .i64 t ∧ t = sumAt xs (L.take k)) (fun _ i => n - (intOf i).toNat)
  case atStart => exact ⟨0, 0, Nat.zero_le _, rfl, rfl, rfl⟩
  case round =>
    obtain ⟨k, t, hk, rfl, rfl, ht'⟩ := hrel
    have hb := sumAt_bd hp ht (L.take k)
    rw [← ht', List.length_take] at hb
    obtain ⟨b0, b1⟩ := hb
    have b2 : t ≤ 96 * 1000 := by omega
    have Ht := Lib.hid ht'
    have HpT := Lib.hid (And.intro hp ht)
    clear ht' b1
    by_cases hlt : k < n
    · obtain ⟨q, hq⟩ : ∃ q, L[k]? = some q := ⟨L[k]'(by rw [hn]; exact hlt), List.getElem?_eq_getElem _⟩
      obtain ⟨q0, q1⟩ := hL q (List.mem_of_getElem? hq)
      obtain ⟨Q, rfl⟩ : ∃ Q : Nat, q = (Q : Int) := ⟨q.toNat, by omega⟩
      have hne : L ≠ [] := by intro e; subst e; cases hq
      obtain ⟨ga, oa, rfl, hga, hca⟩ := HA.out.2.resolve_left hne
      have ya := hca k _ hq
      obtain ⟨g, o, rfl, hg, y⟩ := rowV (k := Q) H.out.r1 (by have := H.out.l1; omega)
      have v0 := vAt_bd hp ht (Q : Int)
      obtain ⟨v1, v2⟩ := v0
      have Hq := Lib.hid hq
      have k0 : (0 : Int) ≤ (k : Int) := by omega
      have k1 : (k : Int) < (n : Int) := by omega
      have hs : sumAt xs (L.take (k + 1)) = t + vAt xs (Q : Int) := by rw [take_next Hq.out, sumAt_snoc, ← Ht.out]
      have Hs := Lib.hid hs
      have HLn := Lib.hid (And.intro hL hn)
      clear hca hq hne hs hL hn hp ht
      generalize vAt xs (Q : Int) = v at *
      go_wp2
      go_round
      case rel => exact ⟨k + 1, t + v, by omega, by go_num, by go_num, by rw [Hs.out]⟩
      case measure => simp [intOf]; omega
    · obtain rfl : k = n := by omega
      have e1 : L.take k = L := List.take_of_length_le (by rw [hn]; exact Nat.le_refl _)
      have e2 : t = sumAt xs L := by rw [Ht.out, e1]
      have E2 := Lib.hid e2
      clear e1 e2 hn hL
      go_wp2
      go_ret
      exact ⟨by rw [E2.out]; rfl, HS.out.2⟩
end Go.Proofs.Ytdhkfkfoibddnaa
