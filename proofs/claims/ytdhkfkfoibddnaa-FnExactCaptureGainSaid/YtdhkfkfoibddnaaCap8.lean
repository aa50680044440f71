/- The pits of two or three seeds, as the program finds them. No conditions. -/
import Derived.Test.YtdhkfkfoibddnaaCap7
namespace Go.Proofs.Ytdhkfkfoibddnaa
open Go.Joins Go.ChangeShapes Go.WideShapes Go.ChangeAt Go.RowKit Go.Deep
set_option linter.unusedVariables false

theorem row_1 (u : World) (x : Int) (T : TypeId) : RowN (u.alloc (.cells #[.int .i64 x] T)) (some ⟨u.heap.size, 0, none⟩) [x] :=
  ⟨by simp, .inr ⟨u.heap.size, 0, rfl, by simp, fun i y hi => by
    match i, hi with
    | 0, hi =>
      cases hi
      rw [World.cell?_alloc_new]
      rfl⟩⟩
theorem sumAt_one (xs : List Int) (k : Int) : sumAt xs [k] = vAt xs k := by simp [sumAt, tot]
theorem CpAt.grown {w u v : World} {p s c l player : Int} {st sk re fe ag : Bool} {p1 p2 : Option Addr} {pn1 pc1 pn2 pc2 : Nat} {pp pq : Int} {row : Option Nat} (h : CpAt w p s c l st sk re fe ag player p1 p2 pn1 pc1 pn2 pc2 pp pq u) (hg : u.grownBy v row) (hr : ∀ k, row = some k → w.heap.size < k) : CpAt w p s c l st sk re fe ag player p1 p2 pn1 pc1 pn2 pc2 pp pq v := by
  obtain ⟨⟨hb, h⟩, hw⟩ := h
  have hbl := hg.block w.heap.size hb (fun e => by have := hr _ e.symm; omega)
  have e : ∀ o, v.cell? ⟨w.heap.size, o, none⟩ = u.cell? ⟨w.heap.size, o, none⟩ := fun o => World.cell?_of_block (a := ⟨w.heap.size, o, none⟩) hbl
  exact ⟨⟨Nat.lt_of_lt_of_le hb hg.size, by rw [e, e, e, e, e, e, e, e, e, e, e, e, e, e]; exact h⟩, hw.grown hg hw.size (fun k hk => by have := hr k hk; omega)⟩
theorem CpAt.alloc {w u : World} {p s c l player : Int} {st sk re fe ag : Bool} {p1 p2 : Option Addr} {pn1 pc1 pn2 pc2 : Nat} {pp pq : Int} (h : CpAt w p s c l st sk re fe ag player p1 p2 pn1 pc1 pn2 pc2 pp pq u) (o : Obj) : CpAt w p s c l st sk re fe ag player p1 p2 pn1 pc1 pn2 pc2 pp pq (u.alloc o) := h.below (al1 _ _)
theorem none_any (p s c l : Int) (st sk re fe ag : Bool) (player : Int) (p1 p2 : Option Addr) (pn1 pc1 pn2 pc2 : Nat) (pp pq : Int) (w : World) :
    Calls Try.prog 95 #[.agg #[.int .i64 p, .int .i64 s, .bool st, .bool sk, .bool re, .bool fe, .bool ag, .int .i64 c, .int .i64 l, .int .i64 player, .slice p1 pn1 pc1, .slice p2 pn2 pc2, .int .i64 pp, .int .i64 pq]] w (OwnP [] 0 w) := by
  have HS := Lib.hid (cp_new p s c l st sk re fe ag player p1 p2 pn1 pc1 pn2 pc2 pp pq w 73)
  go_enter Try.func95, Try.ntmps95
  go_wp2_with fail
  go_ret
  exact ⟨_, rfl, World.ownsRow_nil _ _ _ _, HS.out.2⟩
set_option maxHeartbeats 4000000 in
set_option maxRecDepth 100000 in
theorem twoThree_any (p s c l : Int) (st sk re fe ag : Bool) (player : Int) (p1 p2 : Option Addr) (pn1 pc1 pn2 pc2 : Nat) (pp pq : Int) (xs ys : List Int) (N : Nat) (w : World) (h : PosR w p1 p2 pn1 pn2 xs ys) (hq : posB xs = true) (ht : tot xs ≤ 96) (hp : 2 ≤ p ∧ p ≤ 8) (hn1 : (pn1 : Int) = 2 * p) (hpl : player = 0 ∨ player = 1) (hla : pp = (N : Int) - 1) (hN : (N : Int) ≤ 2 * p) :
    Calls Try.prog 96 #[.agg #[.int .i64 p, .int .i64 s, .bool st, .bool sk, .bool re, .bool fe, .bool ag, .int .i64 c, .int .i64 l, .int .i64 player, .slice p1 pn1 pc1, .slice p2 pn2 pc2, .int .i64 pp, .int .i64 pq]] w (OwnP (twF p player xs N) (twF p player xs N).length w) := by
  obtain ⟨i0, hi, hz0, hz1, hz2⟩ := info_parts infoN
  have HS := Lib.hid (cp_new p s c l st sk re fe ag player p1 p2 pn1 pc1 pn2 pc2 pp pq w 73)
  have H0 := Lib.hid h
  have HP := Lib.hid hp
  have HPl := Lib.hid hpl
  have HN := Lib.hid hN
  have Hn1 := Lib.hid hn1
  have HQ := Lib.hid (And.intro hq ht)
  have Hla := Lib.hid hla
  clear h hp hpl hN hn1 hq ht hla
  go_enter Try.func96, Try.ntmps96
  go_wp2_with fail
  generalize w.alloc (.cells #[.int .i64 p, .int .i64 s, .bool st, .bool sk, .bool re, .bool fe, .bool ag, .int .i64 c, .int .i64 l, .int .i64 player, .slice p1 pn1 pc1, .slice p2 pn2 pc2, .int .i64 pp, .int .i64 pq] 73) = w1 at *
  go_loopw [3, 4] (fun s0 i wr => ∃ (k m : Nat) (acc : List Int) (z : Int), i = .int .i64 z ∧ z = (k : Int) - 1 ∧ m + k ≤ 16 ∧ wr.ownsRow (w.heap.size + 1) 2 1 s0 m (nvs acc) ∧ acc.length = m ∧ acc ++ twF p player xs k = twF p player xs N ∧ k ≤ N ∧ CpAt w p s c l st sk re fe ag player p1 p2 pn1 pc1 pn2 pc2 pp pq wr) (fun _ i _ => (intOf i + 1).toNat)
  case atStart => exact ⟨N, 0, [], pp, rfl, Hla.out, by have := HN.out; have := HP.out; omega, World.ownsRow_nil _ _ _ _, rfl, rfl, Nat.le_refl _, HS.out⟩
  case round =>
    obtain ⟨k, m, acc, z, rfl, hz, hmk, hown, hlen, hacc, hkN, hC⟩ := hrel
    have HC := Lib.hid hC
    have HO := Lib.hid hown
    have HA := Lib.hid (And.intro hlen hacc)
    obtain ⟨⟨_, c0, c1, c2, c3, c4, c5, c6, c7, c8, c9, c10, c11, c12, c13⟩, -⟩ := hC
    have Hz := Lib.hid hz
    clear hown hlen hacc
    rcases k with _ | k
    · have hb : ownB p (1 - player) z = false := by
        have h1 := HP.out
        have h2 := HPl.out
        unfold ownB
        rcases h2 with rfl | rfl <;> simp <;> omega
      have Hb := Lib.hid hb
      clear hb hz
      go_wp2_with (go_at_call 105; refine (isOther_any p s c l st sk re fe ag player p1 p2 pn1 pc1 pn2 pc2 pp pq z _ HP.out HPl.out).mono ?_; rintro e w5 ⟨rfl, hb5⟩; rw [Hb.out]; have HC := Lib.hid (HC.out.below hb5); have HO := Lib.hid (own_keep HO.out hb5); clear hb5)
      go_ret
      have e := HA.out.2
      simp only [twF, List.append_nil] at e
      rw [← e, HA.out.1]
      exact ⟨_, rfl, own_lower HO.out (by omega), HC.out.be⟩
    · obtain rfl : z = (k : Int) := by omega
      clear hz Hz
      have HV := Lib.hid (vAt_bd HQ.out.1 HQ.out.2 (k : Int))
      have HR : Hid (∀ x ∈ [(k : Int)], 0 ≤ x ∧ x < (pn1 : Int)) := Lib.hid (fun x hx => by
        have := Hn1.out
        have := HN.out
        rcases List.mem_cons.1 hx with rfl | hx
        · omega
        · cases hx)
      rcases hb : ownB p (1 - player) (k : Int) with _ | _
      · have e := HA.out.2
        rw [tw_no (by rw [hb]; rfl), List.append_nil] at e
        have Hb := Lib.hid hb
        have He := Lib.hid e
        clear hb e
        go_wp2_with (go_at_call 105; refine (isOther_any p s c l st sk re fe ag player p1 p2 pn1 pc1 pn2 pc2 pp pq (k : Int) _ HP.out HPl.out).mono ?_; rintro e w5 ⟨rfl, hb5⟩; rw [Hb.out]; have HC := Lib.hid (HC.out.below hb5); have HO := Lib.hid (own_keep HO.out hb5); clear hb5)
        go_ret
        rw [← He.out, HA.out.1]
        exact ⟨_, rfl, own_lower HO.out (by omega), HC.out.be⟩
      · have Hb := Lib.hid hb
        have hs1 := sumAt_one xs (k : Int)
        rcases hv : (decide (vAt xs (k : Int) = 2) || decide (vAt xs (k : Int) = 3)) with _ | _
        · have e := HA.out.2
          rw [tw_no (by rw [hb, hv]; rfl), List.append_nil] at e
          have He := Lib.hid e
          simp only [Bool.or_eq_false_iff, decide_eq_false_iff_not] at hv
          obtain ⟨hv2, hv3⟩ := hv
          generalize vAt xs (k : Int) = v at *
          have t2 : (v == 2) = false := by simpa using hv2
          have t3 : (v == 3) = false := by simpa using hv3
          have Hs1 := Lib.hid hs1
          clear hb e hv2 hv3 hs1
          go_wp2_with (first | (go_at_call 105; refine (isOther_any p s c l st sk re fe ag player p1 p2 pn1 pc1 pn2 pc2 pp pq (k : Int) _ HP.out HPl.out).mono ?_; rintro e w5 ⟨rfl, hb5⟩; rw [Hb.out]; have HC := Lib.hid (HC.out.below hb5); have HO := Lib.hid (own_keep HO.out hb5); clear hb5; obtain ⟨⟨_, c0, c1, c2, c3, c4, c5, c6, c7, c8, c9, c10, c11, c12, c13⟩, -⟩ := HC.out) | (go_at_call 61; refine (seedsIn_any p s c l st sk re fe ag player p1 p2 pn1 pc1 pn2 pc2 pp pq xs ys [(k : Int)] _ 1 1 _ ((H0.out.below HC.out.be).alloc _) HQ.out.1 HQ.out.2 HR.out rfl (by omega) (row_1 _ _ _)).mono ?_; rintro e w6 ⟨rfl, hb6⟩; rw [Hs1.out]; have HC := Lib.hid ((HC.out.alloc _).below hb6); have HO := Lib.hid (own_keep (own_keep HO.out (al1 _ _)) hb6); clear hb6; obtain ⟨⟨_, c0, c1, c2, c3, c4, c5, c6, c7, c8, c9, c10, c11, c12, c13⟩, -⟩ := HC.out))
          go_ret
          rw [← He.out, HA.out.1]
          exact ⟨_, rfl, own_lower HO.out (by omega), HC.out.be⟩
        · have e := HA.out.2
          rw [tw_yes (by rw [hb, hv]; rfl), show ∀ (a b : List Int) (x : Int), a ++ x :: b = (a ++ [x]) ++ b from fun a b x => by simp] at e
          have He := Lib.hid e
          rw [Bool.or_eq_true, decide_eq_true_eq, decide_eq_true_eq] at hv
          generalize vAt xs (k : Int) = v at *
          have Hs1 := Lib.hid hs1
          have hbase : w.heap.size + 1 ≤ wr.heap.size := HC.out.1.1
          have hk1 : IntKind.i64.wrap ((k : Int) - 1) = (k : Int) - 1 := IntWalk.i64_in _ ⟨by omega, by omega⟩
          clear hb e hs1
          rcases hv with rfl | rfl
          all_goals
            go_wp2_with (first | (go_at_call 105; refine (isOther_any p s c l st sk re fe ag player p1 p2 pn1 pc1 pn2 pc2 pp pq (k : Int) _ HP.out HPl.out).mono ?_; rintro e w5 ⟨rfl, hb5⟩; rw [Hb.out]; have HC := Lib.hid (HC.out.below hb5); have HO := Lib.hid (own_keep HO.out hb5); clear hb5; obtain ⟨⟨_, c0, c1, c2, c3, c4, c5, c6, c7, c8, c9, c10, c11, c12, c13⟩, -⟩ := HC.out) | (go_at_call 61; refine (seedsIn_any p s c l st sk re fe ag player p1 p2 pn1 pc1 pn2 pc2 pp pq xs ys [(k : Int)] _ 1 1 _ ((H0.out.below HC.out.be).alloc _) HQ.out.1 HQ.out.2 HR.out rfl (by omega) (row_1 _ _ _)).mono ?_; rintro e w6 ⟨rfl, hb6⟩; rw [Hs1.out]; have HC := Lib.hid ((HC.out.alloc _).below hb6); have HO := Lib.hid (own_keep (own_keep HO.out (al1 _ _)) hb6); clear hb6; obtain ⟨⟨_, c0, c1, c2, c3, c4, c5, c6, c7, c8, c9, c10, c11, c12, c13⟩, -⟩ := HC.out) | (at_builtin; refine wpList_append_own _ rfl _ _ 24 rfl (w.heap.size + 1) 2 i0 (.int .i64 0) 1 8 Try.underlying24 hi hz0 hz1 hz2 rfl (by decide) _ m (nvs acc) rfl (own_keep HO.out (al1 _ _)) ⟨_, 0, none⟩ 1 1 (nvs [(k : Int)]) rfl (by simp [nvs]) (row_news (row_1 _ (k : Int) 2)) (nvs_cell _) (by unfold maxLen; omega) (by omega) (by have := HC.out.1.1; simp; omega) ?_; intro v1 w3 hown1 hgrow1 hnil1))
            go_roundw
            case rel =>
              refine ⟨k, m + 1, acc ++ [(k : Int)], (k : Int) - 1, rfl, rfl, by omega, ?_, by rw [List.length_append, HA.out.1]; rfl, He.out, by omega, ?_⟩
              · rw [nvs_app]
                exact hown1
              · exact (HC.out.alloc _).grown hgrow1 (fun q hq => by have := ((own_keep HO.out (al1 _ (.cells #[.int .i64 (k : Int)] 2))).lt q hq).1; omega)
            case measure => first | (simp [intOf]; done) | (simp [intOf]; omega)
end Go.Proofs.Ytdhkfkfoibddnaa
