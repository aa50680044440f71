/- Whether sown seeds are equal: the reference's answer and the program's. No conditions. -/
import Derived.Test.YthlfkdjkihiiaaaBoxS
import Derived.Test.YthlfkdjkihiiaaaSame4
namespace Go.Proofs.Ythlfkdjkihiiaaa
open Go.Joins Go.ChangeShapes Go.WideShapes Go.ChangeAt Go.RowKit Go.Deep
set_option linter.unusedVariables false

/-- Sown seeds are equal. -/
def sameS (xs us ys vs : List Int) (p q r t : Int) : Bool := decide (xs = us) && decide (ys = vs) && (p == q) && (r == t)
set_option maxHeartbeats 2000000 in
theorem equal_any (a d : Option Addr) (c1 c2 n m : Nat) (xs ys : List Int) (w : World) (hn : xs.length = n) (hm : ys.length = m) (h1 : RowN w a xs) (h2 : RowN w d ys) :
    Calls Try.prog 64 #[.slice a n c1, .slice d m c2] w (Still (.bool (decide (xs = ys))) w) := by
  have hl : n ≤ 1000000000000 := by rw [← hn]; exact h1.1
  have Hn := Lib.hid hn
  have Hm := Lib.hid hm
  have H1 := Lib.hid h1
  have H2 := Lib.hid h2
  clear hn hm h1 h2
  by_cases hne : n = m
  · subst hne
    go_enter Try.func64, Try.ntmps64
    go_wp2
    go_loopw [13] (fun i wr => ∃ k q : Nat, k ≤ n ∧ i = .int .i64 k ∧ wr = w.drewN q ∧ xs.take k = ys.take k) (fun i _ => n - (intOf i).toNat)
    case atStart => exact ⟨0, 0, Nat.zero_le _, rfl, rfl, rfl⟩
    case round =>
      obtain ⟨k, q, hk, rfl, rfl, hc⟩ := hrel
      have Hc := Lib.hid hc
      clear hc
      have q0 : (0 : Int) ≤ (k : Int) := by omega
      by_cases hlt : k < n
      · obtain ⟨x, hx⟩ : ∃ x, xs[k]? = some x := ⟨xs[k]'(by rw [Hn.out]; exact hlt), List.getElem?_eq_getElem _⟩
        obtain ⟨y, hy⟩ : ∃ y, ys[k]? = some y := ⟨ys[k]'(by rw [Hm.out]; exact hlt), List.getElem?_eq_getElem _⟩
        obtain ⟨g1, o1, rfl, y1⟩ := cell_of H1.out hx
        obtain ⟨g2, o2, rfl, y2⟩ := cell_of H2.out hy
        have Hx := Lib.hid hx
        have Hy := Lib.hid hy
        have q1 : (k : Int) < (n : Int) := by omega
        clear hx hy
        by_cases e : x = y
        · have hd : (x != y) = false := by simpa using e
          have He := Lib.hid e
          clear e
          go_wp2_with fail
          go_quiet (fail)
          go_wp2_with fail
          go_roundw
          case rel => exact ⟨k + 1, _, by omega, by go_num, rfl, by rw [take_snoc Hx.out, take_snoc Hy.out, Hc.out, He.out]⟩
          case measure => simp [intOf]; omega
        · have hd : (x != y) = true := by simpa using e
          have E : Hid (decide (xs = ys) = false) := Lib.hid (decide_eq_false (ne_at Hx.out Hy.out e))
          clear e
          go_wp2_with fail
          go_quiet (fail)
          go_wp2_with fail
          go_ret
          exact ⟨by rw [E.out]; rfl, by first | exact dn2 _ _ _ | exact dn1 _ _⟩
      · obtain rfl : k = n := by omega
        have E : Hid (decide (xs = ys) = true) := Lib.hid (decide_eq_true (by
          have := Hc.out
          rwa [List.take_of_length_le (by rw [Hn.out]; exact Nat.le_refl _), List.take_of_length_le (by rw [Hm.out]; exact Nat.le_refl _)] at this))
        go_wp2
        go_ret
        exact ⟨by rw [E.out]; rfl, dn1 _ _⟩
  · have E : Hid (decide (xs = ys) = false) := Lib.hid (decide_eq_false (fun e => hne (by rw [← Hn.out, ← Hm.out, e])))
    have d1 : ((n : Int) != (m : Int)) = true := by simp; omega
    clear hne
    go_enter Try.func64, Try.ntmps64
    go_wp2
    go_ret
    exact ⟨by rw [E.out]; rfl, 0, rfl⟩
set_option maxHeartbeats 4000000 in
theorem l05Same_any (p1 p2 : Option Addr) (pn1 pc1 pn2 pc2 : Nat) (pp pq : Int) (x1 x2 : Option Addr) (xn1 xc1 xn2 xc2 : Nat) (xp xq : Int) (xs ys us vs : List Int) (b d : Nat) (w : World) (hp : SoAt w b p1 p2 pn1 pc1 pn2 pc2 pp pq) (hx : SoAt w d x1 x2 xn1 xc1 xn2 xc2 xp xq) (h1 : PosR w p1 p2 pn1 pn2 xs ys) (h2 : PosR w x1 x2 xn1 xn2 us vs) :
    Calls Try.prog 57 #[.pointer (some ⟨b, 0, none⟩), .pointer (some ⟨d, 0, none⟩)] w (Still (.bool (sameS xs us ys vs pp xp pq xq)) w) := by
  obtain ⟨_, g0, g1, g2, g3⟩ := hp
  obtain ⟨_, k0, k1, k2, k3⟩ := hx
  have C1 := Lib.hid (fun m => l00Same_any p1 x1 pc1 xc1 pn1 xn1 xs us (w.drewN m) h1.l1 h2.l1 (h1.drewN m).r1 (h2.drewN m).r1)
  have C2 := Lib.hid (fun m => l00Same_any p2 x2 pc2 xc2 pn2 xn2 ys vs (w.drewN m) h1.l2 h2.l2 (h1.drewN m).r2 (h2.drewN m).r2)
  clear h1 h2
  unfold sameS
  generalize hv1 : decide (xs = us) = v1 at *
  generalize hv2 : decide (ys = vs) = v2 at *
  generalize hv3 : (pp == xp) = v3 at *
  clear hv1 hv2
  cases v1
  · go_enter Try.func57, Try.ntmps57
    go_wp2_with fail
    go_quiet ((go_at_call 83; with_reducible exact quiet_s (C1.out _) ⟨_, rfl⟩))
    go_wp2_with fail
    go_ret
    exact ⟨rfl, _, rfl⟩
  · cases v2
    · go_enter Try.func57, Try.ntmps57
      go_wp2_with fail
      go_quiet ((first | (go_at_call 83; with_reducible exact quiet_s (C1.out _) ⟨_, rfl⟩) | (go_at_call 83; with_reducible exact quiet_s (C2.out _) ⟨_, rfl⟩)))
      go_wp2_with fail
      go_ret
      exact ⟨rfl, _, rfl⟩
    · cases v3
      all_goals
        go_enter Try.func57, Try.ntmps57
        go_wp2_with fail
        go_quiet ((first | (go_at_call 83; with_reducible exact quiet_s (C1.out _) ⟨_, rfl⟩) | (go_at_call 83; with_reducible exact quiet_s (C2.out _) ⟨_, rfl⟩)))
        go_wp2_with fail
        go_ret
        exact ⟨rfl, _, rfl⟩
theorem specSameS_any (p1 p2 : Option Addr) (pn1 pc1 pn2 pc2 : Nat) (pp pq : Int) (x1 x2 : Option Addr) (xn1 xc1 xn2 xc2 : Nat) (xp xq : Int) (xs ys us vs : List Int) (w : World) (h1 : PosR w p1 p2 pn1 pn2 xs ys) (h2 : PosR w x1 x2 xn1 xn2 us vs) :
    Calls Try.prog 23 #[.agg #[.slice p1 pn1 pc1, .slice p2 pn2 pc2, .int .i64 pp, .int .i64 pq], .agg #[.slice x1 xn1 xc1, .slice x2 xn2 xc2, .int .i64 xp, .int .i64 xq]] w fun e w' => e = .returned (.bool (sameS xs us ys vs pp xp pq xq)) ∧ Below w.heap.size w w' := by
  have HS := Lib.hid (ss_new p1 p2 pn1 pc1 pn2 pc2 pp pq x1 x2 xn1 xc1 xn2 xc2 xp xq w 33)
  have H1 := Lib.hid h1
  have H2 := Lib.hid h2
  clear h1 h2
  generalize hk : sameS xs us ys vs pp xp pq xq = k
  have Hk := Lib.hid hk
  clear hk
  go_enter Try.func23, Try.ntmps23
  go_wp2_with fail
  refine (l05Same_any p1 p2 pn1 pc1 pn2 pc2 pp pq x1 x2 xn1 xc1 xn2 xc2 xp xq xs ys us vs _ _ _ HS.out.1 HS.out.2.1 (H1.out.below HS.out.2.2) (H2.out.below HS.out.2.2)).mono ?_
  rintro e u ⟨rfl, m, rfl⟩
  rw [Hk.out]
  have HS := Lib.hid (HS.out.drewN m)
  go_wp2_with fail
  go_ret
  exact ⟨rfl, HS.out.2.2⟩
set_option maxHeartbeats 4000000 in
theorem implSameS_any (p1 p2 : Option Addr) (pn1 pc1 pn2 pc2 : Nat) (pp pq : Int) (x1 x2 : Option Addr) (xn1 xc1 xn2 xc2 : Nat) (xp xq : Int) (xs ys us vs : List Int) (w : World) (h1 : PosR w p1 p2 pn1 pn2 xs ys) (h2 : PosR w x1 x2 xn1 xn2 us vs) :
    Calls Try.prog 29 #[.agg #[.slice p1 pn1 pc1, .slice p2 pn2 pc2, .int .i64 pp, .int .i64 pq], .agg #[.slice x1 xn1 xc1, .slice x2 xn2 xc2, .int .i64 xp, .int .i64 xq]] w fun e w' => e = .returned (.bool (sameS xs us ys vs pp xp pq xq)) ∧ Below w.heap.size w w' := by
  have hs := ss_new p1 p2 pn1 pc1 pn2 pc2 pp pq x1 x2 xn1 xc1 xn2 xc2 xp xq w 33
  have HS := Lib.hid hs
  have HS0 := Lib.hid hs
  have C1 := Lib.hid (fun u (k : Below w.heap.size w u) => equal_any p1 x1 pc1 xc1 pn1 xn1 xs us u h1.l1 h2.l1 (h1.below k).r1 (h2.below k).r1)
  have C2 := Lib.hid (fun u (k : Below w.heap.size w u) => equal_any p2 x2 pc2 xc2 pn2 xn2 ys vs u h1.l2 h2.l2 (h1.below k).r2 (h2.below k).r2)
  clear h1 h2 hs
  unfold sameS
  generalize hv1 : decide (xs = us) = v1 at *
  generalize hv2 : decide (ys = vs) = v2 at *
  generalize hv3 : (pp == xp) = v3 at *
  clear hv1 hv2
  cases v1
  · go_enter Try.func29, Try.ntmps29
    go_wp2_with fail
    refine (C1.out _ HS.out.2.2).mono ?_
    rintro e u ⟨rfl, m, rfl⟩
    have HS := Lib.hid (HS.out.drewN m)
    go_wp2_with fail
    go_ret
    exact ⟨rfl, by first | exact HS.out.2.2 | exact (HS0.out.drewN (m + m2)).2.2⟩
  · cases v2
    · go_enter Try.func29, Try.ntmps29
      go_wp2_with fail
      refine (C1.out _ HS.out.2.2).mono ?_
      rintro e u ⟨rfl, m, rfl⟩
      have HS := Lib.hid (HS.out.drewN m)
      go_wp2_with fail
      refine (C2.out _ HS.out.2.2).mono ?_
      rintro e u ⟨rfl, m2, rfl⟩
      have HS := Lib.hid (HS.out.drewN m2)
      go_wp2_with fail
      go_ret
      exact ⟨rfl, by first | exact HS.out.2.2 | exact (HS0.out.drewN (m + m2)).2.2⟩
    · cases v3
      all_goals
        go_enter Try.func29, Try.ntmps29
        go_wp2_with fail
        refine (C1.out _ HS.out.2.2).mono ?_
        rintro e u ⟨rfl, m, rfl⟩
        have HS := Lib.hid (HS.out.drewN m)
        go_wp2_with fail
        refine (C2.out _ HS.out.2.2).mono ?_
        rintro e u ⟨rfl, m2, rfl⟩
        have HS := Lib.hid (HS.out.drewN m2)
        go_wp2_with fail
        go_ret
        exact ⟨rfl, by first | exact HS.out.2.2 | exact (HS0.out.drewN (m + m2)).2.2⟩
end Go.Proofs.Ythlfkdjkihiiaaa
