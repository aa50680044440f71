/- Captures, as the reference takes them. No conditions. -/
import Derived.Test.YtdhkfkfoibddnaaCap11
namespace Go.Proofs.Ytdhkfkfoibddnaa
open Go.Joins Go.ChangeShapes Go.WideShapes Go.ChangeAt Go.RowKit Go.Deep
set_option linter.unusedVariables false

section
variable {w u v : World} {b d : Nat} {p s c l : Int} {st sk re fe ag : Bool} {p1 p2 : Option Addr} {pn1 pc1 pn2 pc2 : Nat} {pp pq : Int}
theorem L6N.below (h : L6N w b d p s c l st sk re fe ag p1 p2 pn1 pc1 pn2 pc2 pp pq u) (k : Below u.heap.size u v) : L6N w b d p s c l st sk re fe ag p1 p2 pn1 pc1 pn2 pc2 pp pq v := ⟨h.1.below k, h.2.1.below k, h.2.2.trans (k.mono h.2.2.size)⟩
theorem L6N.be (h : L6N w b d p s c l st sk re fe ag p1 p2 pn1 pc1 pn2 pc2 pp pq u) : Below w.heap.size w u := h.2.2
end
theorem L6N.grown {w u v : World} {b d : Nat} {p s c l : Int} {st sk re fe ag : Bool} {p1 p2 : Option Addr} {pn1 pc1 pn2 pc2 : Nat} {pp pq : Int} {row : Option Nat} (h : L6N w b d p s c l st sk re fe ag p1 p2 pn1 pc1 pn2 pc2 pp pq u) (hg : u.grownBy v row) (hb : b < w.heap.size) (hd : d < w.heap.size) (hr : ∀ k, row = some k → w.heap.size ≤ k) : L6N w b d p s c l st sk re fe ag p1 p2 pn1 pc1 pn2 pc2 pp pq v := by
  obtain ⟨⟨hb1, h1⟩, ⟨hd1, h2⟩, hw⟩ := h
  have e1 : ∀ o, v.cell? ⟨b, o, none⟩ = u.cell? ⟨b, o, none⟩ := fun o => World.cell?_of_block (a := ⟨b, o, none⟩) (hg.block b hb1 (fun e => by have := hr _ e.symm; omega))
  have e2 : ∀ o, v.cell? ⟨d, o, none⟩ = u.cell? ⟨d, o, none⟩ := fun o => World.cell?_of_block (a := ⟨d, o, none⟩) (hg.block d hd1 (fun e => by have := hr _ e.symm; omega))
  exact ⟨⟨Nat.lt_of_lt_of_le hb1 hg.size, by rw [e1, e1, e1, e1, e1, e1, e1, e1, e1]; exact h1⟩, ⟨Nat.lt_of_lt_of_le hd1 hg.size, by rw [e2, e2, e2, e2]; exact h2⟩, hw.grown hg hw.size hr⟩
theorem own_eq {p pl k : Int} (hp : 2 ≤ p) (h0 : 0 ≤ k) (h1 : k < 2 * p) (hpl : pl = 0 ∨ pl = 1) : (k / p == pl) = ownB p pl k := by
  have h := own_div hp h0 h1 hpl
  cases e : ownB p pl k
  · rw [e] at h
    simpa using h
  · rw [e] at h
    simpa using h
theorem own_ne {p pl k : Int} (hp : 2 ≤ p) (h0 : 0 ≤ k) (h1 : k < 2 * p) (hpl : pl = 0 ∨ pl = 1) : (k / p != pl) = ownB p (1 - pl) k := by
  rw [own_other hp h0 h1 hpl, ← own_eq hp h0 h1 hpl]
  rfl
theorem in_23 (v : Int) : (decide (2 ≤ v) && decide (v ≤ 3)) = (decide (v = 2) || decide (v = 3)) := by
  by_cases h2 : v = 2
  · subst h2; rfl
  · by_cases h3 : v = 3
    · subst h3; rfl
    · rw [decide_eq_false h2, decide_eq_false h3]
      by_cases h : 2 ≤ v
      · have : decide (v ≤ 3) = false := by simp; omega
        rw [this]; simp
      · rw [decide_eq_false h]; rfl
set_option maxHeartbeats 1000000 in
theorem l06Sum_still (p1 p2 : Option Addr) (pn1 pc1 pn2 pc2 : Nat) (pp pq : Int) (xs ys L : List Int) (d : Nat) (a : Option Addr) (cc n : Nat) (w : World) (hs : SoAt w d p1 p2 pn1 pc1 pn2 pc2 pp pq) (h : PosR w p1 p2 pn1 pn2 xs ys) (hp : posB xs = true) (ht : tot xs ≤ 96) (hL : ∀ k ∈ L, 0 ≤ k ∧ k < (pn1 : Int)) (hn : L.length = n) (hn16 : n ≤ 1000) (ha : RowN w a L) :
    Calls Try.prog 60 #[.pointer (some ⟨d, 0, none⟩), .slice a n cc] w (Still (.int .i64 (sumAt xs L)) w) := by
  obtain ⟨_, s0, s1, s2, s3⟩ := hs
  have H := Lib.hid h
  have HA := Lib.hid ha
  clear h ha
  go_enter Try.func60, Try.ntmps60
  go_wp2
  go_loopw [5, 6] (fun s0 i wr => ∃ (k m : Nat) (t : Int), k ≤ n ∧ i = .int .i64 k ∧ s0 = .int .i64 t ∧ wr = w.drewN m ∧ t = sumAt xs (L.take k)) (fun _ i _ => n - (intOf i).toNat)
  case atStart => exact ⟨0, 0, 0, Nat.zero_le _, rfl, rfl, rfl, rfl⟩
  case round =>
    obtain ⟨k, m, t, hk, rfl, rfl, rfl, ht'⟩ := hrel
    have hb := sumAt_bd hp ht (L.take k)
    rw [← ht', List.length_take] at hb
    obtain ⟨b0, b1⟩ := hb
    have b2 : t ≤ 96 * 1000 := by omega
    have Ht := Lib.hid ht'
    clear ht' b1
    by_cases hlt : k < n
    · obtain ⟨q, hq⟩ : ∃ q, L[k]? = some q := ⟨L[k]'(by rw [hn]; exact hlt), List.getElem?_eq_getElem _⟩
      obtain ⟨q0, q1⟩ := hL q (List.mem_of_getElem? hq)
      obtain ⟨Q, rfl⟩ : ∃ Q : Nat, q = (Q : Int) := ⟨q.toNat, by omega⟩
      have hne : L ≠ [] := by intro e; subst e; cases hq
      obtain ⟨ga, oa, rfl, hga, hca⟩ := HA.out.2.resolve_left hne
      have ya := hca k _ hq
      obtain ⟨g, o, rfl, hg, y⟩ := rowV (k := Q) H.out.r1 (by have := H.out.l1; omega)
      obtain ⟨v1, v2⟩ := vAt_bd hp ht (Q : Int)
      have Hq := Lib.hid hq
      have k0 : (0 : Int) ≤ (k : Int) := by omega
      have k1 : (k : Int) < (n : Int) := by omega
      have hs : sumAt xs (L.take (k + 1)) = t + vAt xs (Q : Int) := by rw [take_next Hq.out, sumAt_snoc, ← Ht.out]
      have Hs := Lib.hid hs
      clear hca hq hne hs hL hn hp ht
      generalize vAt xs (Q : Int) = v at *
      go_wp2
      go_region
      go_wp2
      go_roundw
      case rel => exact ⟨k + 1, _, t + v, by omega, by go_num, by go_num, rfl, by rw [Hs.out]⟩
      case measure => simp [intOf]; omega
    · obtain rfl : k = n := by omega
      have e1 : L.take k = L := List.take_of_length_le (by rw [hn]; exact Nat.le_refl _)
      have e2 : t = sumAt xs L := by rw [Ht.out, e1]
      have E2 := Lib.hid e2
      clear e1 e2 hn hL
      go_wp2
      go_ret
      exact ⟨by rw [E2.out]; rfl, _, rfl⟩
theorem l06Sum_any (p1 p2 : Option Addr) (pn1 pc1 pn2 pc2 : Nat) (pp pq : Int) (xs ys L : List Int) (d : Nat) (a : Option Addr) (cc n : Nat) (w : World) (hs : SoAt w d p1 p2 pn1 pc1 pn2 pc2 pp pq) (h : PosR w p1 p2 pn1 pn2 xs ys) (hp : posB xs = true) (ht : tot xs ≤ 96) (hL : ∀ k ∈ L, 0 ≤ k ∧ k < (pn1 : Int)) (hn : L.length = n) (hn16 : n ≤ 1000) (ha : RowN w a L) :
    Calls Try.prog 60 #[.pointer (some ⟨d, 0, none⟩), .slice a n cc] w fun e w' => e = .returned (.int .i64 (sumAt xs L)) ∧ Below w.heap.size w w' := by
  refine (l06Sum_still p1 p2 pn1 pc1 pn2 pc2 pp pq xs ys L d a cc n w hs h hp ht hL hn hn16 ha).mono ?_
  rintro e w' ⟨rfl, m, rfl⟩
  exact ⟨rfl, below_dn (Below.refl _ _) _⟩
set_option maxHeartbeats 4000000 in
set_option maxRecDepth 100000 in
theorem l06Raw_0 (p s c l : Int) (st sk re fe ag : Bool) (player : Int) (p1 p2 : Option Addr) (pn1 pc1 pn2 pc2 : Nat) (pp pq : Int) (xs ys : List Int) (b d : Nat) (w : World) (hr : RuAt w b p s c l st sk re fe ag) (hs : SoAt w d p1 p2 pn1 pc1 pn2 pc2 pp pq) (g : Good p s c l st sk re fe ag player pn1 pn2 pp xs ys) (hc : pp < 0 ∨ c = 0) :
    Calls Try.prog 77 #[.pointer (some ⟨b, 0, none⟩), .pointer (some ⟨d, 0, none⟩), .int .i64 player] w (OwnP [] 0 w) := by
  have HX := Lib.hid (show L6N w b d p s c l st sk re fe ag p1 p2 pn1 pc1 pn2 pc2 pp pq w from ⟨hr, hs, Below.refl _ _⟩)
  obtain ⟨hb, r0, r1, r2, r3, r4, r5, r6, r7, r8⟩ := hr
  obtain ⟨hd, s0, s1, s2, s3⟩ := hs
  have g1 := g.p2.1
  have g2 := g.p2.2
  have g3 := g.l2
  by_cases t0 : pp < 0
  · clear hc g
    go_enter Try.func77, Try.ntmps77
    go_wp2_with fail
    go_ret
    exact ⟨_, rfl, World.ownsRow_made w #[] 0 (Nat.le_refl _) (by decide) rfl, (HX.out.below (al1 _ _)).be⟩
  · have e : c = 0 := by omega
    have e1 : (c == 1) = false := by simp [e]
    have e2 : (c == 2) = false := by simp [e]
    have e3 : (c == 3) = false := by simp [e]
    clear hc g e
    go_enter Try.func77, Try.ntmps77
    go_wp2_with (go_at_call 86; refine (owner_any p _ _ _ (by go_simp) (by omega) (by omega) (by omega) (by omega)).mono ?_; rintro e w' ⟨rfl, rfl⟩)
    go_ret
    exact ⟨_, rfl, World.ownsRow_made w #[] 0 (Nat.le_refl _) (by decide) rfl, (HX.out.below (al1 _ _)).be⟩
set_option maxHeartbeats 4000000 in
set_option maxRecDepth 100000 in
theorem l06Raw_1 (p s c l : Int) (st sk re fe ag : Bool) (player : Int) (p1 p2 : Option Addr) (pn1 pc1 pn2 pc2 : Nat) (pp pq : Int) (xs ys : List Int) (N : Nat) (b d : Nat) (w : World) (hr : RuAt w b p s c l st sk re fe ag) (hs : SoAt w d p1 p2 pn1 pc1 pn2 pc2 pp pq) (h : PosR w p1 p2 pn1 pn2 xs ys) (g : Good p s c l st sk re fe ag player pn1 pn2 pp xs ys) (h0 : 0 ≤ pp) (hN : pp = (N : Int) - 1) (e1 : (c == 1) = true) :
    Calls Try.prog 77 #[.pointer (some ⟨b, 0, none⟩), .pointer (some ⟨d, 0, none⟩), .int .i64 player] w (OwnP (twF p player xs N) (twF p player xs N).length w) := by
  obtain ⟨i0, hi, hz0, hz1, hz2⟩ := info_parts infoN
  have HX := Lib.hid (show L6N w b d p s c l st sk re fe ag p1 p2 pn1 pc1 pn2 pc2 pp pq w from ⟨hr, hs, Below.refl _ _⟩)
  have H0 := Lib.hid h
  have G := Lib.hid g
  have HN := Lib.hid hN
  obtain ⟨hb, r0, r1, r2, r3, r4, r5, r6, r7, r8⟩ := hr
  obtain ⟨hd, s0, s1, s2, s3⟩ := hs
  have g1 := g.p2.1
  have g2 := g.p2.2
  have g3 := g.l2
  have t0 : ¬ pp < 0 := by omega
  clear g h hN
  go_enter Try.func77, Try.ntmps77
  go_wp2_with (go_at_call 86; refine (owner_any p _ _ _ (by go_simp) (by omega) (by omega) (by omega) (by omega)).mono ?_; rintro e w' ⟨rfl, rfl⟩)
  have HX := Lib.hid (HX.out.below (al1 w (.cells #[] 2)))
  have hown0 := World.ownsRow_made (e := 2) (size := 1) w #[] 0 (Nat.le_refl _) (by decide) rfl
  generalize w.alloc (.cells #[] 2) = w1 at *
  clear r0 r1 r2 r3 r4 r5 r6 r7 r8 s0 s1 s2 s3 t0 h0
  go_loopw [7, 8] (fun s0 i wr => ∃ (k m : Nat) (acc : List Int) (z : Int), i = .int .i64 z ∧ z = (k : Int) - 1 ∧ m + k ≤ 16 ∧ wr.ownsRow w.heap.size 2 1 s0 m (nvs acc) ∧ acc.length = m ∧ acc ++ twF p player xs k = twF p player xs N ∧ k ≤ N ∧ L6N w b d p s c l st sk re fe ag p1 p2 pn1 pc1 pn2 pc2 pp pq wr) (fun _ i _ => (intOf i + 1).toNat)
  case atStart => exact ⟨N, 0, [], pp, rfl, HN.out, by have := HN.out; omega, hown0, rfl, rfl, Nat.le_refl _, HX.out⟩
  case round =>
    obtain ⟨k, m, acc, z, rfl, hz, hmk, hown, hlen, hacc, hkN, hC⟩ := hrel
    have HX := Lib.hid hC
    have HO := Lib.hid hown
    have HA := Lib.hid (And.intro hlen hacc)
    obtain ⟨⟨hbl, r0, r1, r2, r3, r4, r5, r6, r7, r8⟩, ⟨hdl, s0, s1, s2, s3⟩, -⟩ := hC
    have Hz := Lib.hid hz
    clear hown hlen hacc hown0
    rcases k with _ | k
    · have t1 : ¬ 0 ≤ z := by omega
      clear hz
      go_wp2_with (go_at_call 86; refine (owner_any p _ _ _ (by go_simp) (by omega) (by omega) (by omega) (by omega)).mono ?_; rintro e w' ⟨rfl, rfl⟩)
      go_ret
      have e := HA.out.2
      simp only [twF, List.append_nil] at e
      rw [← e, HA.out.1]
      exact ⟨_, rfl, HO.out, HX.out.be⟩
    · obtain rfl : z = (k : Int) := by omega
      have hkp : (k : Int) < 2 * p := by have := HN.out; omega
      have k0 : (0 : Int) ≤ (k : Int) := by omega
      obtain ⟨gx, ox, rfl, hg, y⟩ := rowV (k := k) (H0.out.below HX.out.be).r1 (by have := G.out.n1; have := H0.out.l1; omega)
      have q1 : (k : Int) < (pn1 : Int) := by have := G.out.n1; omega
      have hne := own_ne (p := p) (pl := player) g1 k0 hkp G.out.pl
      clear hz Hz
      rcases hb : ownB p (1 - player) (k : Int) with _ | _
      · have e := HA.out.2
        rw [tw_no (by rw [hb]; rfl), List.append_nil] at e
        have He := Lib.hid e
        rw [hb] at hne
        clear hb e
        go_wp2_with (go_at_call 86; refine (owner_any p _ _ _ (by go_simp) (by omega) (by omega) (by omega) (by omega)).mono ?_; rintro e w' ⟨rfl, rfl⟩)
        go_ret
        rw [← He.out, HA.out.1]
        exact ⟨_, rfl, HO.out, HX.out.be⟩
      · rw [hb] at hne
        have hin := in_23 (vAt xs (k : Int))
        rcases hv : (decide (vAt xs (k : Int) = 2) || decide (vAt xs (k : Int) = 3)) with _ | _
        · have e := HA.out.2
          rw [tw_no (by rw [hb, hv]; rfl), List.append_nil] at e
          have He := Lib.hid e
          rw [hv] at hin
          have HI := Lib.hid hin
          generalize vAt xs (k : Int) = v at *
          clear hb e hv hin
          go_wp2_with (first | (go_at_call 86; refine (owner_any p _ _ _ (by go_simp) (by omega) (by omega) (by omega) (by omega)).mono ?_; rintro e w' ⟨rfl, rfl⟩) | (go_at_call 63; refine (in_b v 2 3 _ HI.out _).mono ?_; rintro e w' ⟨rfl, rfl⟩))
          go_ret
          rw [← He.out, HA.out.1]
          exact ⟨_, rfl, HO.out, HX.out.be⟩
        · have e := HA.out.2
          rw [tw_yes (by rw [hb, hv]; rfl), show ∀ (a b : List Int) (x : Int), a ++ x :: b = (a ++ [x]) ++ b from fun a b x => by simp] at e
          have He := Lib.hid e
          rw [hv] at hin
          have HI := Lib.hid hin
          generalize vAt xs (k : Int) = v at *
          clear hb e hv hin
          go_wp2_with (first | (go_at_call 86; refine (owner_any p _ _ _ (by go_simp) (by omega) (by omega) (by omega) (by omega)).mono ?_; rintro e w' ⟨rfl, rfl⟩) | (go_at_call 63; refine (in_b v 2 3 _ HI.out _).mono ?_; rintro e w' ⟨rfl, rfl⟩) | (at_builtin; refine wpList_append_own _ rfl _ _ 24 rfl w.heap.size 2 i0 (.int .i64 0) 1 8 Try.underlying24 hi hz0 hz1 hz2 rfl (by decide) _ m (nvs acc) rfl (own_keep HO.out (al1 _ _)) ⟨_, 0, none⟩ 1 1 (nvs [(k : Int)]) rfl (by simp [nvs]) (row_news (row_1 _ (k : Int) 2)) (nvs_cell _) (by unfold maxLen; omega) (by omega) (by have := HX.out.be.size; simp; omega) ?_; intro v1 w3 hown1 hgrow1 hnil1))
          go_roundw
          case rel =>
            refine ⟨k, m + 1, acc ++ [(k : Int)], (k : Int) - 1, rfl, rfl, by omega, ?_, by rw [List.length_append, HA.out.1]; rfl, He.out, by omega, ?_⟩
            · rw [nvs_app]
              exact hown1
            · exact L6N.grown (HX.out.below (al1 _ _)) hgrow1 hb hd (fun q hq => ((own_keep HO.out (al1 _ (.cells #[.int .i64 (k : Int)] 2))).lt q hq).1)
          case measure => first | (simp [intOf]; done) | (simp [intOf]; omega)
end Go.Proofs.Ytdhkfkfoibddnaa
