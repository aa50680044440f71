/- Whether games are equal: the reference's answer and the program's. No conditions. -/
import Derived.Test.YthbkdlidpdliaabGame2
import Derived.Test.YthbkdlidpdliaabSame4
namespace Go.Proofs.Ythbkdlidpdliaab
open Go.Joins Go.ChangeShapes Go.WideShapes Go.ChangeAt Go.RowKit Go.Deep
set_option linter.unusedVariables false

/-- Two games in boxes. -/
def TG2 (w : World) (ggp ggs ggc ggl : Int) (ggst ggsk ggre ggfe ggag : Bool) (gga1 gga2 : Option Addr) (ggan1 ggac1 ggan2 ggac2 : Nat) (ggap : Int) (ggm : Option Addr) (ggmn ggmc : Nat) (ggb1 ggb2 : Option Addr) (ggbn1 ggbc1 ggbn2 ggbc2 : Nat) (ggbp ggrg : Int) (hhp hhs hhc hhl : Int) (hhst hhsk hhre hhfe hhag : Bool) (hha1 hha2 : Option Addr) (hhan1 hhac1 hhan2 hhac2 : Nat) (hhap : Int) (hhm : Option Addr) (hhmn hhmc : Nat) (hhb1 hhb2 : Option Addr) (hhbn1 hhbc1 hhbn2 hhbc2 : Nat) (hhbp hhrg : Int) (u : World) : Prop := GmAt u w.heap.size ggp ggs ggc ggl ggst ggsk ggre ggfe ggag gga1 gga2 ggan1 ggac1 ggan2 ggac2 ggap ggm ggmn ggmc ggb1 ggb2 ggbn1 ggbc1 ggbn2 ggbc2 ggbp ggrg ∧ GmAt u (w.heap.size + 1) hhp hhs hhc hhl hhst hhsk hhre hhfe hhag hha1 hha2 hhan1 hhac1 hhan2 hhac2 hhap hhm hhmn hhmc hhb1 hhb2 hhbn1 hhbc1 hhbn2 hhbc2 hhbp hhrg ∧ Below w.heap.size w u
theorem tg2_new (ggp ggs ggc ggl : Int) (ggst ggsk ggre ggfe ggag : Bool) (gga1 gga2 : Option Addr) (ggan1 ggac1 ggan2 ggac2 : Nat) (ggap : Int) (ggm : Option Addr) (ggmn ggmc : Nat) (ggb1 ggb2 : Option Addr) (ggbn1 ggbc1 ggbn2 ggbc2 : Nat) (ggbp ggrg : Int) (hhp hhs hhc hhl : Int) (hhst hhsk hhre hhfe hhag : Bool) (hha1 hha2 : Option Addr) (hhan1 hhac1 hhan2 hhac2 : Nat) (hhap : Int) (hhm : Option Addr) (hhmn hhmc : Nat) (hhb1 hhb2 : Option Addr) (hhbn1 hhbc1 hhbn2 hhbc2 : Nat) (hhbp hhrg : Int) (w : World) (T : TypeId) : TG2 w ggp ggs ggc ggl ggst ggsk ggre ggfe ggag gga1 gga2 ggan1 ggac1 ggan2 ggac2 ggap ggm ggmn ggmc ggb1 ggb2 ggbn1 ggbc1 ggbn2 ggbc2 ggbp ggrg hhp hhs hhc hhl hhst hhsk hhre hhfe hhag hha1 hha2 hhan1 hhac1 hhan2 hhac2 hhap hhm hhmn hhmc hhb1 hhb2 hhbn1 hhbc1 hhbn2 hhbc2 hhbp hhrg ((w.alloc (.cells #[.int .i64 ggp, .int .i64 ggs, .bool ggst, .bool ggsk, .bool ggre, .bool ggfe, .bool ggag, .int .i64 ggc, .int .i64 ggl, .slice gga1 ggan1 ggac1, .slice gga2 ggan2 ggac2, .int .i64 ggap, .slice ggm ggmn ggmc, .slice ggb1 ggbn1 ggbc1, .slice ggb2 ggbn2 ggbc2, .int .i64 ggbp, .int .i64 ggrg] T)).alloc (.cells #[.int .i64 hhp, .int .i64 hhs, .bool hhst, .bool hhsk, .bool hhre, .bool hhfe, .bool hhag, .int .i64 hhc, .int .i64 hhl, .slice hha1 hhan1 hhac1, .slice hha2 hhan2 hhac2, .int .i64 hhap, .slice hhm hhmn hhmc, .slice hhb1 hhbn1 hhbc1, .slice hhb2 hhbn2 hhbc2, .int .i64 hhbp, .int .i64 hhrg] T)) := by
  have k := al1 (w.alloc (.cells #[.int .i64 ggp, .int .i64 ggs, .bool ggst, .bool ggsk, .bool ggre, .bool ggfe, .bool ggag, .int .i64 ggc, .int .i64 ggl, .slice gga1 ggan1 ggac1, .slice gga2 ggan2 ggac2, .int .i64 ggap, .slice ggm ggmn ggmc, .slice ggb1 ggbn1 ggbc1, .slice ggb2 ggbn2 ggbc2, .int .i64 ggbp, .int .i64 ggrg] T)) (.cells #[.int .i64 hhp, .int .i64 hhs, .bool hhst, .bool hhsk, .bool hhre, .bool hhfe, .bool hhag, .int .i64 hhc, .int .i64 hhl, .slice hha1 hhan1 hhac1, .slice hha2 hhan2 hhac2, .int .i64 hhap, .slice hhm hhmn hhmc, .slice hhb1 hhbn1 hhbc1, .slice hhb2 hhbn2 hhbc2, .int .i64 hhbp, .int .i64 hhrg] T)
  have z := gm_new hhp hhs hhc hhl hhst hhsk hhre hhfe hhag hha1 hha2 hhan1 hhac1 hhan2 hhac2 hhap hhm hhmn hhmc hhb1 hhb2 hhbn1 hhbc1 hhbn2 hhbc2 hhbp hhrg (w.alloc (.cells #[.int .i64 ggp, .int .i64 ggs, .bool ggst, .bool ggsk, .bool ggre, .bool ggfe, .bool ggag, .int .i64 ggc, .int .i64 ggl, .slice gga1 ggan1 ggac1, .slice gga2 ggan2 ggac2, .int .i64 ggap, .slice ggm ggmn ggmc, .slice ggb1 ggbn1 ggbc1, .slice ggb2 ggbn2 ggbc2, .int .i64 ggbp, .int .i64 ggrg] T)) T
  rw [show (w.alloc (.cells #[.int .i64 ggp, .int .i64 ggs, .bool ggst, .bool ggsk, .bool ggre, .bool ggfe, .bool ggag, .int .i64 ggc, .int .i64 ggl, .slice gga1 ggan1 ggac1, .slice gga2 ggan2 ggac2, .int .i64 ggap, .slice ggm ggmn ggmc, .slice ggb1 ggbn1 ggbc1, .slice ggb2 ggbn2 ggbc2, .int .i64 ggbp, .int .i64 ggrg] T)).heap.size = w.heap.size + 1 by simp] at z
  exact ⟨(gm_new ggp ggs ggc ggl ggst ggsk ggre ggfe ggag gga1 gga2 ggan1 ggac1 ggan2 ggac2 ggap ggm ggmn ggmc ggb1 ggb2 ggbn1 ggbc1 ggbn2 ggbc2 ggbp ggrg w T).below k, z, (al1 w _).trans (k.mono (by simp))⟩
theorem TG2.below {w u v : World} {ggp ggs ggc ggl : Int} {ggst ggsk ggre ggfe ggag : Bool} {gga1 gga2 : Option Addr} {ggan1 ggac1 ggan2 ggac2 : Nat} {ggap : Int} {ggm : Option Addr} {ggmn ggmc : Nat} {ggb1 ggb2 : Option Addr} {ggbn1 ggbc1 ggbn2 ggbc2 : Nat} {ggbp ggrg : Int} {hhp hhs hhc hhl : Int} {hhst hhsk hhre hhfe hhag : Bool} {hha1 hha2 : Option Addr} {hhan1 hhac1 hhan2 hhac2 : Nat} {hhap : Int} {hhm : Option Addr} {hhmn hhmc : Nat} {hhb1 hhb2 : Option Addr} {hhbn1 hhbc1 hhbn2 hhbc2 : Nat} {hhbp hhrg : Int} (h : TG2 w ggp ggs ggc ggl ggst ggsk ggre ggfe ggag gga1 gga2 ggan1 ggac1 ggan2 ggac2 ggap ggm ggmn ggmc ggb1 ggb2 ggbn1 ggbc1 ggbn2 ggbc2 ggbp ggrg hhp hhs hhc hhl hhst hhsk hhre hhfe hhag hha1 hha2 hhan1 hhac1 hhan2 hhac2 hhap hhm hhmn hhmc hhb1 hhb2 hhbn1 hhbc1 hhbn2 hhbc2 hhbp hhrg u) (k : Below u.heap.size u v) : TG2 w ggp ggs ggc ggl ggst ggsk ggre ggfe ggag gga1 gga2 ggan1 ggac1 ggan2 ggac2 ggap ggm ggmn ggmc ggb1 ggb2 ggbn1 ggbc1 ggbn2 ggbc2 ggbp ggrg hhp hhs hhc hhl hhst hhsk hhre hhfe hhag hha1 hha2 hhan1 hhac1 hhan2 hhac2 hhap hhm hhmn hhmc hhb1 hhb2 hhbn1 hhbc1 hhbn2 hhbc2 hhbp hhrg v :=
  ⟨h.1.below k, h.2.1.below k, h.2.2.trans (k.mono h.2.2.size)⟩
theorem al2b (w : World) (o q : Obj) : Below w.heap.size w ((w.alloc o).alloc q) := al2 w o q
theorem still_below {W u : World} (h : ∃ m, u = W.drewN m) : Below W.heap.size W u := by
  obtain ⟨m, rfl⟩ := h
  exact below_dn (Below.refl _ _) m
/-- Two games are equal. -/
def gmB (rules : Bool) (sx sy ms nx ny tx ty ns mx my : List Int) (p1 p2 q1 q2 r1 r2 : Int) : Bool :=
  rules && (sameB sx tx sy ty p1 p2 && (decide (ms = ns) && (sameB nx mx ny my q1 q2 && (r1 == r2))))
/-- A position within a block. -/
def At3 (u : World) (b : Nat) (a1 a2 : Option Addr) (n1 c1 n2 c2 : Nat) (pl : Int) (o0 o1 o2 : Nat) : Prop :=
  b < u.heap.size ∧ u.cell? ⟨b, o0, none⟩ = some (.slice a1 n1 c1) ∧ u.cell? ⟨b, o1, none⟩ = some (.slice a2 n2 c2) ∧ u.cell? ⟨b, o2, none⟩ = some (.int .i64 pl)
theorem GmAt.s9 {u : World} {b : Nat} {ggp ggs ggc ggl : Int} {ggst ggsk ggre ggfe ggag : Bool} {gga1 gga2 : Option Addr} {ggan1 ggac1 ggan2 ggac2 : Nat} {ggap : Int} {ggm : Option Addr} {ggmn ggmc : Nat} {ggb1 ggb2 : Option Addr} {ggbn1 ggbc1 ggbn2 ggbc2 : Nat} {ggbp ggrg : Int} (h : GmAt u b ggp ggs ggc ggl ggst ggsk ggre ggfe ggag gga1 gga2 ggan1 ggac1 ggan2 ggac2 ggap ggm ggmn ggmc ggb1 ggb2 ggbn1 ggbc1 ggbn2 ggbc2 ggbp ggrg) : At3 u b gga1 gga2 ggan1 ggac1 ggan2 ggac2 ggap 9 10 11 := ⟨h.1, h.2.2.2.2.2.2.2.2.2.2.1, h.2.2.2.2.2.2.2.2.2.2.2.1, h.2.2.2.2.2.2.2.2.2.2.2.2.1⟩
theorem GmAt.s13 {u : World} {b : Nat} {ggp ggs ggc ggl : Int} {ggst ggsk ggre ggfe ggag : Bool} {gga1 gga2 : Option Addr} {ggan1 ggac1 ggan2 ggac2 : Nat} {ggap : Int} {ggm : Option Addr} {ggmn ggmc : Nat} {ggb1 ggb2 : Option Addr} {ggbn1 ggbc1 ggbn2 ggbc2 : Nat} {ggbp ggrg : Int} (h : GmAt u b ggp ggs ggc ggl ggst ggsk ggre ggfe ggag gga1 gga2 ggan1 ggac1 ggan2 ggac2 ggap ggm ggmn ggmc ggb1 ggb2 ggbn1 ggbc1 ggbn2 ggbc2 ggbp ggrg) : At3 u b ggb1 ggb2 ggbn1 ggbc1 ggbn2 ggbc2 ggbp 13 14 15 := ⟨h.1, h.2.2.2.2.2.2.2.2.2.2.2.2.2.2.1, h.2.2.2.2.2.2.2.2.2.2.2.2.2.2.2.1, h.2.2.2.2.2.2.2.2.2.2.2.2.2.2.2.2.1⟩
theorem TG2.drewN {w u : World} {ggp ggs ggc ggl : Int} {ggst ggsk ggre ggfe ggag : Bool} {gga1 gga2 : Option Addr} {ggan1 ggac1 ggan2 ggac2 : Nat} {ggap : Int} {ggm : Option Addr} {ggmn ggmc : Nat} {ggb1 ggb2 : Option Addr} {ggbn1 ggbc1 ggbn2 ggbc2 : Nat} {ggbp ggrg : Int} {hhp hhs hhc hhl : Int} {hhst hhsk hhre hhfe hhag : Bool} {hha1 hha2 : Option Addr} {hhan1 hhac1 hhan2 hhac2 : Nat} {hhap : Int} {hhm : Option Addr} {hhmn hhmc : Nat} {hhb1 hhb2 : Option Addr} {hhbn1 hhbc1 hhbn2 hhbc2 : Nat} {hhbp hhrg : Int} (h : TG2 w ggp ggs ggc ggl ggst ggsk ggre ggfe ggag gga1 gga2 ggan1 ggac1 ggan2 ggac2 ggap ggm ggmn ggmc ggb1 ggb2 ggbn1 ggbc1 ggbn2 ggbc2 ggbp ggrg hhp hhs hhc hhl hhst hhsk hhre hhfe hhag hha1 hha2 hhan1 hhac1 hhan2 hhac2 hhap hhm hhmn hhmc hhb1 hhb2 hhbn1 hhbc1 hhbn2 hhbc2 hhbp hhrg u) (m : Nat) : TG2 w ggp ggs ggc ggl ggst ggsk ggre ggfe ggag gga1 gga2 ggan1 ggac1 ggan2 ggac2 ggap ggm ggmn ggmc ggb1 ggb2 ggbn1 ggbc1 ggbn2 ggbc2 ggbp ggrg hhp hhs hhc hhl hhst hhsk hhre hhfe hhag hha1 hha2 hhan1 hhac1 hhan2 hhac2 hhap hhm hhmn hhmc hhb1 hhb2 hhbn1 hhbc1 hhbn2 hhbc2 hhbp hhrg (u.drewN m) := h.below (below_dn (Below.refl _ _) m)
set_option maxHeartbeats 2000000 in
theorem l04Same9_any (p1 p2 : Option Addr) (pn1 pc1 pn2 pc2 : Nat) (pp : Int) (x1 x2 : Option Addr) (xn1 xc1 xn2 xc2 : Nat) (xp : Int) (xs ys us vs : List Int) (b d : Nat) (w : World) (hp : At3 w b p1 p2 pn1 pc1 pn2 pc2 pp 9 10 11) (hx : At3 w d x1 x2 xn1 xc1 xn2 xc2 xp 9 10 11) (h1 : PosR w p1 p2 pn1 pn2 xs ys) (h2 : PosR w x1 x2 xn1 xn2 us vs) :
    Calls Try.prog 39 #[.pointer (some ⟨b, 9, none⟩), .pointer (some ⟨d, 9, none⟩)] w (Still (.bool (sameB xs us ys vs pp xp)) w) := by
  obtain ⟨_, g0, g1, g2⟩ := hp
  obtain ⟨_, k0, k1, k2⟩ := hx
  have C1 := Lib.hid (fun m => l00Same_any p1 x1 pc1 xc1 pn1 xn1 xs us (w.drewN m) h1.l1 h2.l1 (h1.drewN m).r1 (h2.drewN m).r1)
  have C2 := Lib.hid (fun m => l00Same_any p2 x2 pc2 xc2 pn2 xn2 ys vs (w.drewN m) h1.l2 h2.l2 (h1.drewN m).r2 (h2.drewN m).r2)
  clear h1 h2
  unfold sameB
  generalize hv1 : decide (xs = us) = v1 at *
  generalize hv2 : decide (ys = vs) = v2 at *
  clear hv1 hv2
  cases v1
  · go_enter Try.func39, Try.ntmps39
    go_wp2_with fail
    go_quiet ((go_at_call 40; with_reducible exact quiet_s (C1.out _) ⟨_, rfl⟩))
    go_wp2_with fail
    go_ret
    exact ⟨rfl, _, rfl⟩
  · cases v2
    all_goals
      go_enter Try.func39, Try.ntmps39
      go_wp2_with fail
      go_quiet ((first | (go_at_call 40; with_reducible exact quiet_s (C1.out _) ⟨_, rfl⟩) | (go_at_call 40; with_reducible exact quiet_s (C2.out _) ⟨_, rfl⟩)))
      go_wp2_with fail
      go_ret
      exact ⟨rfl, _, rfl⟩
set_option maxHeartbeats 2000000 in
theorem l04Same13_any (p1 p2 : Option Addr) (pn1 pc1 pn2 pc2 : Nat) (pp : Int) (x1 x2 : Option Addr) (xn1 xc1 xn2 xc2 : Nat) (xp : Int) (xs ys us vs : List Int) (b d : Nat) (w : World) (hp : At3 w b p1 p2 pn1 pc1 pn2 pc2 pp 13 14 15) (hx : At3 w d x1 x2 xn1 xc1 xn2 xc2 xp 13 14 15) (h1 : PosR w p1 p2 pn1 pn2 xs ys) (h2 : PosR w x1 x2 xn1 xn2 us vs) :
    Calls Try.prog 39 #[.pointer (some ⟨b, 13, none⟩), .pointer (some ⟨d, 13, none⟩)] w (Still (.bool (sameB xs us ys vs pp xp)) w) := by
  obtain ⟨_, g0, g1, g2⟩ := hp
  obtain ⟨_, k0, k1, k2⟩ := hx
  have C1 := Lib.hid (fun m => l00Same_any p1 x1 pc1 xc1 pn1 xn1 xs us (w.drewN m) h1.l1 h2.l1 (h1.drewN m).r1 (h2.drewN m).r1)
  have C2 := Lib.hid (fun m => l00Same_any p2 x2 pc2 xc2 pn2 xn2 ys vs (w.drewN m) h1.l2 h2.l2 (h1.drewN m).r2 (h2.drewN m).r2)
  clear h1 h2
  unfold sameB
  generalize hv1 : decide (xs = us) = v1 at *
  generalize hv2 : decide (ys = vs) = v2 at *
  clear hv1 hv2
  cases v1
  · go_enter Try.func39, Try.ntmps39
    go_wp2_with fail
    go_quiet ((go_at_call 40; with_reducible exact quiet_s (C1.out _) ⟨_, rfl⟩))
    go_wp2_with fail
    go_ret
    exact ⟨rfl, _, rfl⟩
  · cases v2
    all_goals
      go_enter Try.func39, Try.ntmps39
      go_wp2_with fail
      go_quiet ((first | (go_at_call 40; with_reducible exact quiet_s (C1.out _) ⟨_, rfl⟩) | (go_at_call 40; with_reducible exact quiet_s (C2.out _) ⟨_, rfl⟩)))
      go_wp2_with fail
      go_ret
      exact ⟨rfl, _, rfl⟩
set_option maxHeartbeats 2000000 in
theorem equalG_any (a d : Option Addr) (c1 c2 n m : Nat) (xs ys : List Int) (w : World) (hn : xs.length = n) (hm : ys.length = m) (h1 : RowN w a xs) (h2 : RowN w d ys) :
    Calls Try.prog 41 #[.slice a n c1, .slice d m c2] w (Still (.bool (decide (xs = ys))) w) := by
  have hl : n ≤ 1000000000000 := by rw [← hn]; exact h1.1
  have Hn := Lib.hid hn
  have Hm := Lib.hid hm
  have H1 := Lib.hid h1
  have H2 := Lib.hid h2
  clear hn hm h1 h2
  by_cases hne : n = m
  · subst hne
    go_enter Try.func41, Try.ntmps41
    go_wp2
    go_loopw [13] (fun i wr => ∃ k q : Nat, k ≤ n ∧ i = .int .i64 k ∧ wr = w.drewN q ∧ xs.take k = ys.take k) (fun i _ => n - (intOf i).toNat)
    case atStart => exact ⟨0, 0, Nat.zero_le _, rfl, rfl, rfl⟩
    case round =>
      obtain ⟨k, q, hk, rfl, rfl, hc⟩ := hrel
      have Hc := Lib.hid hc
      clear hc
      have q0 : (0 : Int) ≤ (k : Int) := by omega
      by_cases hlt : k < n
      · obtain ⟨x, hx⟩ : ∃ x, xs[k]? = some x := ⟨xs[k]'(by rw [Hn.out]; exact hlt), List.getElem?_eq_getElem _⟩
        obtain ⟨y, hy⟩ : ∃ y, ys[k]? = some y := ⟨ys[k]'(by rw [Hm.out]; exact hlt), List.getElem?_eq_getElem _⟩
        obtain ⟨g1, o1, rfl, y1⟩ := cell_of H1.out hx
        obtain ⟨g2, o2, rfl, y2⟩ := cell_of H2.out hy
        have Hx := Lib.hid hx
        have Hy := Lib.hid hy
        have q1 : (k : Int) < (n : Int) := by omega
        clear hx hy
        by_cases e : x = y
        · have hd : (x != y) = false := by simpa using e
          have He := Lib.hid e
          clear e
          go_wp2_with fail
          go_quiet (fail)
          go_wp2_with fail
          go_roundw
          case rel => exact ⟨k + 1, _, by omega, by go_num, rfl, by rw [take_snoc Hx.out, take_snoc Hy.out, Hc.out, He.out]⟩
          case measure => simp [intOf]; omega
        · have hd : (x != y) = true := by simpa using e
          have E : Hid (decide (xs = ys) = false) := Lib.hid (decide_eq_false (ne_at Hx.out Hy.out e))
          clear e
          go_wp2_with fail
          go_quiet (fail)
          go_wp2_with fail
          go_ret
          exact ⟨by rw [E.out]; rfl, by first | exact dn2 _ _ _ | exact dn1 _ _⟩
      · obtain rfl : k = n := by omega
        have E : Hid (decide (xs = ys) = true) := Lib.hid (decide_eq_true (by
          have := Hc.out
          rwa [List.take_of_length_le (by rw [Hn.out]; exact Nat.le_refl _), List.take_of_length_le (by rw [Hm.out]; exact Nat.le_refl _)] at this))
        go_wp2
        go_ret
        exact ⟨by rw [E.out]; rfl, dn1 _ _⟩
  · have E : Hid (decide (xs = ys) = false) := Lib.hid (decide_eq_false (fun e => hne (by rw [← Hn.out, ← Hm.out, e])))
    have d1 : ((n : Int) != (m : Int)) = true := by simp; omega
    clear hne
    go_enter Try.func41, Try.ntmps41
    go_wp2
    go_ret
    exact ⟨by rw [E.out]; rfl, 0, rfl⟩
set_option maxHeartbeats 4000000 in
set_option maxRecDepth 100000 in
theorem specSG_no (ggp ggs ggc ggl : Int) (ggst ggsk ggre ggfe ggag : Bool) (gga1 gga2 : Option Addr) (ggan1 ggac1 ggan2 ggac2 : Nat) (ggap : Int) (ggm : Option Addr) (ggmn ggmc : Nat) (ggb1 ggb2 : Option Addr) (ggbn1 ggbc1 ggbn2 ggbc2 : Nat) (ggbp ggrg : Int) (hhp hhs hhc hhl : Int) (hhst hhsk hhre hhfe hhag : Bool) (hha1 hha2 : Option Addr) (hhan1 hhac1 hhan2 hhac2 : Nat) (hhap : Int) (hhm : Option Addr) (hhmn hhmc : Nat) (hhb1 hhb2 : Option Addr) (hhbn1 hhbc1 hhbn2 hhbc2 : Nat) (hhbp hhrg : Int) (w : World) (hR : ¬ (ggp = hhp ∧ ggs = hhs ∧ ggst = hhst ∧ ggsk = hhsk ∧ ggre = hhre ∧ ggfe = hhfe ∧ ggag = hhag ∧ ggc = hhc ∧ ggl = hhl)) :
    Calls Try.prog 14 #[.agg #[.int .i64 ggp, .int .i64 ggs, .bool ggst, .bool ggsk, .bool ggre, .bool ggfe, .bool ggag, .int .i64 ggc, .int .i64 ggl, .slice gga1 ggan1 ggac1, .slice gga2 ggan2 ggac2, .int .i64 ggap, .slice ggm ggmn ggmc, .slice ggb1 ggbn1 ggbc1, .slice ggb2 ggbn2 ggbc2, .int .i64 ggbp, .int .i64 ggrg], .agg #[.int .i64 hhp, .int .i64 hhs, .bool hhst, .bool hhsk, .bool hhre, .bool hhfe, .bool hhag, .int .i64 hhc, .int .i64 hhl, .slice hha1 hhan1 hhac1, .slice hha2 hhan2 hhac2, .int .i64 hhap, .slice hhm hhmn hhmc, .slice hhb1 hhbn1 hhbc1, .slice hhb2 hhbn2 hhbc2, .int .i64 hhbp, .int .i64 hhrg]] w fun e w' => e = .returned (.bool false) ∧ Below w.heap.size w w' := by
  have HS := Lib.hid (tg2_new ggp ggs ggc ggl ggst ggsk ggre ggfe ggag gga1 gga2 ggan1 ggac1 ggan2 ggac2 ggap ggm ggmn ggmc ggb1 ggb2 ggbn1 ggbc1 ggbn2 ggbc2 ggbp ggrg hhp hhs hhc hhl hhst hhsk hhre hhfe hhag hha1 hha2 hhan1 hhac1 hhan2 hhac2 hhap hhm hhmn hhmc hhb1 hhb2 hhbn1 hhbc1 hhbn2 hhbc2 hhbp hhrg w 34)
  have HR := Lib.hid hR
  clear hR
  go_enter Try.func14, Try.ntmps14
  go_wp2_with fail
  all_goals first
    | exact absurd ⟨by assumption, by assumption, by assumption, by assumption, by assumption, by assumption, by assumption, by assumption, by assumption⟩ HR.out
    | (go_ret; exact ⟨rfl, al2b _ _ _⟩)
set_option maxHeartbeats 4000000 in
set_option maxRecDepth 100000 in
theorem specSG_yes (ggp ggs ggc ggl : Int) (ggst ggsk ggre ggfe ggag : Bool) (gga1 gga2 : Option Addr) (ggan1 ggac1 ggan2 ggac2 : Nat) (ggap : Int) (ggm : Option Addr) (ggmn ggmc : Nat) (ggb1 ggb2 : Option Addr) (ggbn1 ggbc1 ggbn2 ggbc2 : Nat) (ggbp ggrg : Int) (hha1 hha2 : Option Addr) (hhan1 hhac1 hhan2 hhac2 : Nat) (hhap : Int) (hhm : Option Addr) (hhmn hhmc : Nat) (hhb1 hhb2 : Option Addr) (hhbn1 hhbc1 hhbn2 hhbc2 : Nat) (hhbp hhrg : Int) (sx sy ms nx ny tx ty ns mx my : List Int) (w : World) (h1 : GamR w gga1 gga2 ggan1 ggan2 ggm ggmn ggb1 ggb2 ggbn1 ggbn2 sx sy ms nx ny) (h2 : GamR w hha1 hha2 hhan1 hhan2 hhm hhmn hhb1 hhb2 hhbn1 hhbn2 tx ty ns mx my) :
    Calls Try.prog 14 #[.agg #[.int .i64 ggp, .int .i64 ggs, .bool ggst, .bool ggsk, .bool ggre, .bool ggfe, .bool ggag, .int .i64 ggc, .int .i64 ggl, .slice gga1 ggan1 ggac1, .slice gga2 ggan2 ggac2, .int .i64 ggap, .slice ggm ggmn ggmc, .slice ggb1 ggbn1 ggbc1, .slice ggb2 ggbn2 ggbc2, .int .i64 ggbp, .int .i64 ggrg], .agg #[.int .i64 ggp, .int .i64 ggs, .bool ggst, .bool ggsk, .bool ggre, .bool ggfe, .bool ggag, .int .i64 ggc, .int .i64 ggl, .slice hha1 hhan1 hhac1, .slice hha2 hhan2 hhac2, .int .i64 hhap, .slice hhm hhmn hhmc, .slice hhb1 hhbn1 hhbc1, .slice hhb2 hhbn2 hhbc2, .int .i64 hhbp, .int .i64 hhrg]] w fun e w' => e = .returned (.bool (gmB true sx sy ms nx ny tx ty ns mx my ggap hhap ggbp hhbp ggrg hhrg)) ∧ Below w.heap.size w w' := by
  have HS := Lib.hid (tg2_new ggp ggs ggc ggl ggst ggsk ggre ggfe ggag gga1 gga2 ggan1 ggac1 ggan2 ggac2 ggap ggm ggmn ggmc ggb1 ggb2 ggbn1 ggbc1 ggbn2 ggbc2 ggbp ggrg ggp ggs ggc ggl ggst ggsk ggre ggfe ggag hha1 hha2 hhan1 hhac1 hhan2 hhac2 hhap hhm hhmn hhmc hhb1 hhb2 hhbn1 hhbc1 hhbn2 hhbc2 hhbp hhrg w 34)
  have H1 := Lib.hid h1
  have H2 := Lib.hid h2
  clear h1 h2
  unfold gmB
  generalize hk1 : sameB sx tx sy ty ggap hhap = k1
  have K1 := Lib.hid hk1
  generalize hk2 : decide (ms = ns) = k2
  have K2 := Lib.hid hk2
  generalize hk3 : sameB nx mx ny my ggbp hhbp = k3
  have K3 := Lib.hid hk3
  clear hk1 hk2 hk3
  go_enter Try.func14, Try.ntmps14
  go_wp2_with fail
  refine (l04Same9_any gga1 gga2 ggan1 ggac1 ggan2 ggac2 ggap hha1 hha2 hhan1 hhac1 hhan2 hhac2 hhap sx sy tx ty _ _ _ HS.out.1.s9 HS.out.2.1.s9 (H1.out.s.below HS.out.2.2) (H2.out.s.below HS.out.2.2)).mono ?_
  rintro e u1 ⟨rfl, hb⟩
  rw [K1.out]
  have HS := Lib.hid (HS.out.below (still_below hb))
  clear K1 hb
  obtain ⟨⟨_, d0, d1, d2, d3, d4, d5, d6, d7, d8, d9, d10, d11, d12, d13, d14, d15, d16⟩, ⟨_, e0, e1, e2, e3, e4, e5, e6, e7, e8, e9, e10, e11, e12, e13, e14, e15, e16⟩, _⟩ := HS.out
  cases k1
  · go_wp2_with fail
    go_ret
    exact ⟨rfl, HS.out.2.2⟩
  go_wp2_with fail
  refine (l00Same_any ggm hhm ggmc hhmc ggmn hhmn ms ns _ H1.out.lm H2.out.lm (H1.out.m.below HS.out.2.2) (H2.out.m.below HS.out.2.2)).mono ?_
  rintro e u2 ⟨rfl, hb⟩
  rw [K2.out]
  clear d0 e0 d1 e1 d2 e2 d3 e3 d4 e4 d5 e5 d6 e6 d7 e7 d8 e8 d9 e9 d10 e10 d11 e11 d12 e12 d13 e13 d14 e14 d15 e15 d16 e16
  have HS := Lib.hid (HS.out.below (still_below hb))
  clear K2 hb
  obtain ⟨⟨_, d0, d1, d2, d3, d4, d5, d6, d7, d8, d9, d10, d11, d12, d13, d14, d15, d16⟩, ⟨_, e0, e1, e2, e3, e4, e5, e6, e7, e8, e9, e10, e11, e12, e13, e14, e15, e16⟩, _⟩ := HS.out
  cases k2
  · go_wp2_with fail
    go_ret
    exact ⟨rfl, HS.out.2.2⟩
  go_wp2_with fail
  refine (l04Same13_any ggb1 ggb2 ggbn1 ggbc1 ggbn2 ggbc2 ggbp hhb1 hhb2 hhbn1 hhbc1 hhbn2 hhbc2 hhbp nx ny mx my _ _ _ HS.out.1.s13 HS.out.2.1.s13 (H1.out.n.below HS.out.2.2) (H2.out.n.below HS.out.2.2)).mono ?_
  rintro e u3 ⟨rfl, hb⟩
  rw [K3.out]
  clear d0 e0 d1 e1 d2 e2 d3 e3 d4 e4 d5 e5 d6 e6 d7 e7 d8 e8 d9 e9 d10 e10 d11 e11 d12 e12 d13 e13 d14 e14 d15 e15 d16 e16
  have HS := Lib.hid (HS.out.below (still_below hb))
  clear K3 hb
  obtain ⟨⟨_, d0, d1, d2, d3, d4, d5, d6, d7, d8, d9, d10, d11, d12, d13, d14, d15, d16⟩, ⟨_, e0, e1, e2, e3, e4, e5, e6, e7, e8, e9, e10, e11, e12, e13, e14, e15, e16⟩, _⟩ := HS.out
  cases k3
  · go_wp2_with fail
    go_ret
    exact ⟨rfl, HS.out.2.2⟩
  go_wp2_with fail
  go_ret
  exact ⟨rfl, HS.out.2.2⟩
set_option maxHeartbeats 4000000 in
set_option maxRecDepth 100000 in
theorem implSG_no (ggp ggs ggc ggl : Int) (ggst ggsk ggre ggfe ggag : Bool) (gga1 gga2 : Option Addr) (ggan1 ggac1 ggan2 ggac2 : Nat) (ggap : Int) (ggm : Option Addr) (ggmn ggmc : Nat) (ggb1 ggb2 : Option Addr) (ggbn1 ggbc1 ggbn2 ggbc2 : Nat) (ggbp ggrg : Int) (hhp hhs hhc hhl : Int) (hhst hhsk hhre hhfe hhag : Bool) (hha1 hha2 : Option Addr) (hhan1 hhac1 hhan2 hhac2 : Nat) (hhap : Int) (hhm : Option Addr) (hhmn hhmc : Nat) (hhb1 hhb2 : Option Addr) (hhbn1 hhbc1 hhbn2 hhbc2 : Nat) (hhbp hhrg : Int) (w : World) (hR : ¬ (ggp = hhp ∧ ggs = hhs ∧ ggst = hhst ∧ ggsk = hhsk ∧ ggre = hhre ∧ ggfe = hhfe ∧ ggag = hhag ∧ ggc = hhc ∧ ggl = hhl)) :
    Calls Try.prog 15 #[.agg #[.int .i64 ggp, .int .i64 ggs, .bool ggst, .bool ggsk, .bool ggre, .bool ggfe, .bool ggag, .int .i64 ggc, .int .i64 ggl, .slice gga1 ggan1 ggac1, .slice gga2 ggan2 ggac2, .int .i64 ggap, .slice ggm ggmn ggmc, .slice ggb1 ggbn1 ggbc1, .slice ggb2 ggbn2 ggbc2, .int .i64 ggbp, .int .i64 ggrg], .agg #[.int .i64 hhp, .int .i64 hhs, .bool hhst, .bool hhsk, .bool hhre, .bool hhfe, .bool hhag, .int .i64 hhc, .int .i64 hhl, .slice hha1 hhan1 hhac1, .slice hha2 hhan2 hhac2, .int .i64 hhap, .slice hhm hhmn hhmc, .slice hhb1 hhbn1 hhbc1, .slice hhb2 hhbn2 hhbc2, .int .i64 hhbp, .int .i64 hhrg]] w fun e w' => e = .returned (.bool false) ∧ Below w.heap.size w w' := by
  have HS := Lib.hid (tg2_new ggp ggs ggc ggl ggst ggsk ggre ggfe ggag gga1 gga2 ggan1 ggac1 ggan2 ggac2 ggap ggm ggmn ggmc ggb1 ggb2 ggbn1 ggbc1 ggbn2 ggbc2 ggbp ggrg hhp hhs hhc hhl hhst hhsk hhre hhfe hhag hha1 hha2 hhan1 hhac1 hhan2 hhac2 hhap hhm hhmn hhmc hhb1 hhb2 hhbn1 hhbc1 hhbn2 hhbc2 hhbp hhrg w 34)
  have HR := Lib.hid hR
  clear hR
  go_enter Try.func15, Try.ntmps15
  go_wp2_with fail
  all_goals first
    | exact absurd ⟨by assumption, by assumption, by assumption, by assumption, by assumption, by assumption, by assumption, by assumption, by assumption⟩ HR.out
    | (go_ret; exact ⟨rfl, al2b _ _ _⟩)
set_option maxHeartbeats 4000000 in
set_option maxRecDepth 100000 in
theorem implSG_yes (ggp ggs ggc ggl : Int) (ggst ggsk ggre ggfe ggag : Bool) (gga1 gga2 : Option Addr) (ggan1 ggac1 ggan2 ggac2 : Nat) (ggap : Int) (ggm : Option Addr) (ggmn ggmc : Nat) (ggb1 ggb2 : Option Addr) (ggbn1 ggbc1 ggbn2 ggbc2 : Nat) (ggbp ggrg : Int) (hha1 hha2 : Option Addr) (hhan1 hhac1 hhan2 hhac2 : Nat) (hhap : Int) (hhm : Option Addr) (hhmn hhmc : Nat) (hhb1 hhb2 : Option Addr) (hhbn1 hhbc1 hhbn2 hhbc2 : Nat) (hhbp hhrg : Int) (sx sy ms nx ny tx ty ns mx my : List Int) (w : World) (h1 : GamR w gga1 gga2 ggan1 ggan2 ggm ggmn ggb1 ggb2 ggbn1 ggbn2 sx sy ms nx ny) (h2 : GamR w hha1 hha2 hhan1 hhan2 hhm hhmn hhb1 hhb2 hhbn1 hhbn2 tx ty ns mx my) :
    Calls Try.prog 15 #[.agg #[.int .i64 ggp, .int .i64 ggs, .bool ggst, .bool ggsk, .bool ggre, .bool ggfe, .bool ggag, .int .i64 ggc, .int .i64 ggl, .slice gga1 ggan1 ggac1, .slice gga2 ggan2 ggac2, .int .i64 ggap, .slice ggm ggmn ggmc, .slice ggb1 ggbn1 ggbc1, .slice ggb2 ggbn2 ggbc2, .int .i64 ggbp, .int .i64 ggrg], .agg #[.int .i64 ggp, .int .i64 ggs, .bool ggst, .bool ggsk, .bool ggre, .bool ggfe, .bool ggag, .int .i64 ggc, .int .i64 ggl, .slice hha1 hhan1 hhac1, .slice hha2 hhan2 hhac2, .int .i64 hhap, .slice hhm hhmn hhmc, .slice hhb1 hhbn1 hhbc1, .slice hhb2 hhbn2 hhbc2, .int .i64 hhbp, .int .i64 hhrg]] w fun e w' => e = .returned (.bool (gmB true sx sy ms nx ny tx ty ns mx my ggap hhap ggbp hhbp ggrg hhrg)) ∧ Below w.heap.size w w' := by
  have HS := Lib.hid (tg2_new ggp ggs ggc ggl ggst ggsk ggre ggfe ggag gga1 gga2 ggan1 ggac1 ggan2 ggac2 ggap ggm ggmn ggmc ggb1 ggb2 ggbn1 ggbc1 ggbn2 ggbc2 ggbp ggrg ggp ggs ggc ggl ggst ggsk ggre ggfe ggag hha1 hha2 hhan1 hhac1 hhan2 hhac2 hhap hhm hhmn hhmc hhb1 hhb2 hhbn1 hhbc1 hhbn2 hhbc2 hhbp hhrg w 34)
  have H1 := Lib.hid h1
  have H2 := Lib.hid h2
  clear h1 h2
  unfold gmB
  generalize hk1 : sameB sx tx sy ty ggap hhap = k1
  have K1 := Lib.hid hk1
  generalize hk2 : decide (ms = ns) = k2
  have K2 := Lib.hid hk2
  generalize hk3 : sameB nx mx ny my ggbp hhbp = k3
  have K3 := Lib.hid hk3
  clear hk1 hk2 hk3
  by_cases hrg : ggrg = hhrg
  rotate_left
  · have e0 : (ggrg == hhrg) = false := beq_eq_false_iff_ne.2 hrg
    have EV : Hid ((true && (k1 && (k2 && (k3 && (ggrg == hhrg))))) = false) := Lib.hid (by rw [e0]; simp)
    rw [EV.out]
    clear EV e0
    go_enter Try.func15, Try.ntmps15
    go_wp2_with fail
    all_goals first
      | exact absurd (by assumption) hrg
      | (go_ret; exact ⟨rfl, al2b _ _ _⟩)
  subst hrg
  have EV : Hid ((true && (k1 && (k2 && (k3 && (ggrg == ggrg))))) = (k2 && (k1 && k3))) := Lib.hid (by simp [Bool.and_left_comm])
  rw [EV.out]
  clear EV
  go_enter Try.func15, Try.ntmps15
  go_wp2_with fail
  refine (equalG_any ggm hhm ggmc hhmc ggmn hhmn ms ns _ H1.out.lm H2.out.lm (H1.out.m.below HS.out.2.2) (H2.out.m.below HS.out.2.2)).mono ?_
  rintro e u2 ⟨rfl, hb⟩
  rw [K2.out]
  have HS := Lib.hid (HS.out.below (still_below hb))
  clear K2 hb
  obtain ⟨⟨_, d0, d1, d2, d3, d4, d5, d6, d7, d8, d9, d10, d11, d12, d13, d14, d15, d16⟩, ⟨_, e0, e1, e2, e3, e4, e5, e6, e7, e8, e9, e10, e11, e12, e13, e14, e15, e16⟩, _⟩ := HS.out
  cases k2
  · go_wp2_with fail
    go_ret
    exact ⟨rfl, HS.out.2.2⟩
  go_wp2_with fail
  refine (implSame_any gga1 gga2 ggan1 ggac1 ggan2 ggac2 ggap hha1 hha2 hhan1 hhac1 hhan2 hhac2 hhap sx sy tx ty _ (H1.out.s.below HS.out.2.2) (H2.out.s.below HS.out.2.2)).mono ?_
  rintro e u1 ⟨rfl, hb⟩
  rw [K1.out]
  clear d0 e0 d1 e1 d2 e2 d3 e3 d4 e4 d5 e5 d6 e6 d7 e7 d8 e8 d9 e9 d10 e10 d11 e11 d12 e12 d13 e13 d14 e14 d15 e15 d16 e16
  have HS := Lib.hid (HS.out.below hb)
  clear K1 hb
  obtain ⟨⟨_, d0, d1, d2, d3, d4, d5, d6, d7, d8, d9, d10, d11, d12, d13, d14, d15, d16⟩, ⟨_, e0, e1, e2, e3, e4, e5, e6, e7, e8, e9, e10, e11, e12, e13, e14, e15, e16⟩, _⟩ := HS.out
  cases k1
  · go_wp2_with fail
    go_ret
    exact ⟨rfl, HS.out.2.2⟩
  go_wp2_with fail
  refine (implSame_any ggb1 ggb2 ggbn1 ggbc1 ggbn2 ggbc2 ggbp hhb1 hhb2 hhbn1 hhbc1 hhbn2 hhbc2 hhbp nx ny mx my _ (H1.out.n.below HS.out.2.2) (H2.out.n.below HS.out.2.2)).mono ?_
  rintro e u3 ⟨rfl, hb⟩
  rw [K3.out]
  clear d0 e0 d1 e1 d2 e2 d3 e3 d4 e4 d5 e5 d6 e6 d7 e7 d8 e8 d9 e9 d10 e10 d11 e11 d12 e12 d13 e13 d14 e14 d15 e15 d16 e16
  have HS := Lib.hid (HS.out.below hb)
  clear K3 hb
  cases k3
  all_goals go_wp2_with fail
  all_goals go_ret
  all_goals exact ⟨rfl, HS.out.2.2⟩
end Go.Proofs.Ythbkdlidpdliaab
