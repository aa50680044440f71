/- Whether games are equal: the reference's answer and the program's. No conditions. -/
import Derived.Test.YtmngmbpdiaocjaaGame2
import Derived.Test.YtmngmbpdiaocjaaSame4
namespace Go.Proofs.Ytmngmbpdiaocjaa
open Go.Joins Go.ChangeShapes Go.WideShapes Go.ChangeAt Go.RowKit Go.Deep
set_option linter.unusedVariables false

/-- Two games in boxes. -/
def TG2 (w : World) (ggp ggs ggc ggl : Int) (ggst ggsk ggre ggfe ggag : Bool) (gga1 gga2 : Option Addr) (ggan1 ggac1 ggan2 ggac2 : Nat) (ggap : Int) (ggm : Option Addr) (ggmn ggmc : Nat) (ggb1 ggb2 : Option Addr) (ggbn1 ggbc1 ggbn2 ggbc2 : Nat) (ggbp ggrg : Int) (hhp hhs hhc hhl : Int) (hhst hhsk hhre hhfe hhag : Bool) (hha1 hha2 : Option Addr) (hhan1 hhac1 hhan2 hhac2 : Nat) (hhap : Int) (hhm : Option Addr) (hhmn hhmc : Nat) (hhb1 hhb2 : Option Addr) (hhbn1 hhbc1 hhbn2 hhbc2 : Nat) (hhbp hhrg : Int) (u : World) : Prop := GmAt u w.heap.size ggp ggs ggc ggl ggst ggsk ggre ggfe ggag gga1 gga2 ggan1 ggac1 ggan2 ggac2 ggap ggm ggmn ggmc ggb1 ggb2 ggbn1 ggbc1 ggbn2 ggbc2 ggbp ggrg ∧ GmAt u (w.heap.size + 1) hhp hhs hhc hhl hhst hhsk hhre hhfe hhag hha1 hha2 hhan1 hhac1 hhan2 hhac2 hhap hhm hhmn hhmc hhb1 hhb2 hhbn1 hhbc1 hhbn2 hhbc2 hhbp hhrg ∧ Below w.heap.size w u
theorem tg2_new (ggp ggs ggc ggl : Int) (ggst ggsk ggre ggfe ggag : Bool) (gga1 gga2 : Option Addr) (ggan1 ggac1 ggan2 ggac2 : Nat) (ggap : Int) (ggm : Option Addr) (ggmn ggmc : Nat) (ggb1 ggb2 : Option Addr) (ggbn1 ggbc1 ggbn2 ggbc2 : Nat) (ggbp ggrg : Int) (hhp hhs hhc hhl : Int) (hhst hhsk hhre hhfe hhag : Bool) (hha1 hha2 : Option Addr) (hhan1 hhac1 hhan2 hhac2 : Nat) (hhap : Int) (hhm : Option Addr) (hhmn hhmc : Nat) (hhb1 hhb2 : Option Addr) (hhbn1 hhbc1 hhbn2 hhbc2 : Nat) (hhbp hhrg : Int) (w : World) (T : TypeId) : TG2 w ggp ggs ggc ggl ggst ggsk ggre ggfe ggag gga1 gga2 ggan1 ggac1 ggan2 ggac2 ggap ggm ggmn ggmc ggb1 ggb2 ggbn1 ggbc1 ggbn2 ggbc2 ggbp ggrg hhp hhs hhc hhl hhst hhsk hhre hhfe hhag hha1 hha2 hhan1 hhac1 hhan2 hhac2 hhap hhm hhmn hhmc hhb1 hhb2 hhbn1 hhbc1 hhbn2 hhbc2 hhbp hhrg ((w.alloc (.cells #[.int .i64 ggp, .int .i64 ggs, .bool ggst, .bool ggsk, .bool ggre, .bool ggfe, .bool ggag, .int .i64 ggc, .int .i64 ggl, .slice gga1 ggan1 ggac1, .slice gga2 ggan2 ggac2, .int .i64 ggap, .slice ggm ggmn ggmc, .slice ggb1 ggbn1 ggbc1, .slice ggb2 ggbn2 ggbc2, .int .i64 ggbp, .int .i64 ggrg] T)).alloc (.cells #[.int .i64 hhp, .int .i64 hhs, .bool hhst, .bool hhsk, .bool hhre, .bool hhfe, .bool hhag, .int .i64 hhc, .int .i64 hhl, .slice hha1 hhan1 hhac1, .slice hha2 hhan2 hhac2, .int .i64 hhap, .slice hhm hhmn hhmc, .slice hhb1 hhbn1 hhbc1, .slice hhb2 hhbn2 hhbc2, .int .i64 hhbp, .int .i64 hhrg] T)) := by
  have k := al1 (w.alloc (.cells #[.int .i64 ggp, .int .i64 ggs, .bool ggst, .bool ggsk, .bool ggre, .bool ggfe, .bool ggag, .int .i64 ggc, .int .i64 ggl, .slice gga1 ggan1 ggac1, .slice gga2 ggan2 ggac2, .int .i64 ggap, .slice ggm ggmn ggmc, .slice ggb1 ggbn1 ggbc1, .slice ggb2 ggbn2 ggbc2, .int .i64 ggbp, .int .i64 ggrg] T)) (.cells #[.int .i64 hhp, .int .i64 hhs, .bool hhst, .bool hhsk, .bool hhre, .bool hhfe, .bool hhag, .int .i64 hhc, .int .i64 hhl, .slice hha1 hhan1 hhac1, .slice hha2 hhan2 hhac2, .int .i64 hhap, .slice hhm hhmn hhmc, .slice hhb1 hhbn1 hhbc1, .slice hhb2 hhbn2 hhbc2, .int .i64 hhbp, .int .i64 hhrg] T)
  have z := gm_new hhp hhs hhc hhl hhst hhsk hhre hhfe hhag hha1 hha2 hhan1 hhac1 hhan2 hhac2 hhap hhm hhmn hhmc hhb1 hhb2 hhbn1 hhbc1 hhbn2 hhbc2 hhbp hhrg (w.alloc (.cells #[.int .i64 ggp, .int .i64 ggs, .bool ggst, .bool ggsk, .bool ggre, .bool ggfe, .bool ggag, .int .i64 ggc, .int .i64 ggl, .slice gga1 ggan1 ggac1, .slice gga2 ggan2 ggac2, .int .i64 ggap, .slice ggm ggmn ggmc, .slice ggb1 ggbn1 ggbc1, .slice ggb2 ggbn2 ggbc2, .int .i64 ggbp, .int .i64 ggrg] T)) T
  rw [show (w.alloc (.cells #[.int .i64 ggp, .int .i64 ggs, .bool ggst, .bool ggsk, .bool ggre, .bool ggfe, .bool ggag, .int .i64 ggc, .int .i64 ggl, .slice gga1 ggan1 ggac1, .slice gga2 ggan2 ggac2, .int .i64 ggap, .slice ggm ggmn ggmc, .slice ggb1 ggbn1 ggbc1, .slice ggb2 ggbn2 ggbc2, .int .i64 ggbp, .int .i64 ggrg] T)).heap.size = w.heap.size + 1 by simp] at z
  exact ⟨(gm_new ggp ggs ggc ggl ggst ggsk ggre ggfe ggag gga1 gga2 ggan1 ggac1 ggan2 ggac2 ggap ggm ggmn ggmc ggb1 ggb2 ggbn1 ggbc1 ggbn2 ggbc2 ggbp ggrg w T).below k, z, (al1 w _).trans (k.mono (by simp))⟩
theorem TG2.below {w u v : World} {ggp ggs ggc ggl : Int} {ggst ggsk ggre ggfe ggag : Bool} {gga1 gga2 : Option Addr} {ggan1 ggac1 ggan2 ggac2 : Nat} {ggap : Int} {ggm : Option Addr} {ggmn ggmc : Nat} {ggb1 ggb2 : Option Addr} {ggbn1 ggbc1 ggbn2 ggbc2 : Nat} {ggbp ggrg : Int} {hhp hhs hhc hhl : Int} {hhst hhsk hhre hhfe hhag : Bool} {hha1 hha2 : Option Addr} {hhan1 hhac1 hhan2 hhac2 : Nat} {hhap : Int} {hhm : Option Addr} {hhmn hhmc : Nat} {hhb1 hhb2 : Option Addr} {hhbn1 hhbc1 hhbn2 hhbc2 : Nat} {hhbp hhrg : Int} (h : TG2 w ggp ggs ggc ggl ggst ggsk ggre ggfe ggag gga1 gga2 ggan1 ggac1 ggan2 ggac2 ggap ggm ggmn ggmc ggb1 ggb2 ggbn1 ggbc1 ggbn2 ggbc2 ggbp ggrg hhp hhs hhc hhl hhst hhsk hhre hhfe hhag hha1 hha2 hhan1 hhac1 hhan2 hhac2 hhap hhm hhmn hhmc hhb1 hhb2 hhbn1 hhbc1 hhbn2 hhbc2 hhbp hhrg u) (k : Below u.heap.size u v) : TG2 w ggp ggs ggc ggl ggst ggsk ggre ggfe ggag gga1 gga2 ggan1 ggac1 ggan2 ggac2 ggap ggm ggmn ggmc ggb1 ggb2 ggbn1 ggbc1 ggbn2 ggbc2 ggbp ggrg hhp hhs hhc hhl hhst hhsk hhre hhfe hhag hha1 hha2 hhan1 hhac1 hhan2 hhac2 hhap hhm hhmn hhmc hhb1 hhb2 hhbn1 hhbc1 hhbn2 hhbc2 hhbp hhrg v :=
  ⟨h.1.below k, h.2.1.below k, h.2.2.trans (k.mono h.2.2.size)⟩
theorem al2b (w : World) (o q : Obj) : Below w.heap.size w ((w.alloc o).alloc q) := al2 w o q
theorem still_below {W u : World} (h : ∃ m, u = W.drewN m) : Below W.heap.size W u := by
  obtain ⟨m, rfl⟩ := h
  exact below_dn (Below.refl _ _) m
/-- Two games are equal. -/
def gmB (rules : Bool) (sx sy ms nx ny tx ty ns mx my : List Int) (p1 p2 q1 q2 r1 r2 : Int) : Bool :=
  rules && (sameB sx tx sy ty p1 p2 && (decide (ms = ns) && (sameB nx mx ny my q1 q2 && (r1 == r2))))
/-- A position within a block. -/
def At3 (u : World) (b : Nat) (a1 a2 : Option Addr) (n1 c1 n2 c2 : Nat) (pl : Int) (o0 o1 o2 : Nat) : Prop :=
  b < u.heap.size ∧ u.cell? ⟨b, o0, none⟩ = some (.slice a1 n1 c1) ∧ u.cell? ⟨b, o1, none⟩ = some (.slice a2 n2 c2) ∧ u.cell? ⟨b, o2, none⟩ = some (.int .i64 pl)
theorem GmAt.s9 {u : World} {b : Nat} {ggp ggs ggc ggl : Int} {ggst ggsk ggre ggfe ggag : Bool} {gga1 gga2 : Option Addr} {ggan1 ggac1 ggan2 ggac2 : Nat} {ggap : Int} {ggm : Option Addr} {ggmn ggmc : Nat} {ggb1 ggb2 : Option Addr} {ggbn1 ggbc1 ggbn2 ggbc2 : Nat} {ggbp ggrg : Int} (h : GmAt u b ggp ggs ggc ggl ggst ggsk ggre ggfe ggag gga1 gga2 ggan1 ggac1 ggan2 ggac2 ggap ggm ggmn ggmc ggb1 ggb2 ggbn1 ggbc1 ggbn2 ggbc2 ggbp ggrg) : At3 u b gga1 gga2 ggan1 ggac1 ggan2 ggac2 ggap 9 10 11 := ⟨h.1, h.2.2.2.2.2.2.2.2.2.2.1, h.2.2.2.2.2.2.2.2.2.2.2.1, h.2.2.2.2.2.2.2.2.2.2.2.2.1⟩
theorem GmAt.s13 {u : World} {b : Nat} {ggp ggs ggc ggl : Int} {ggst ggsk ggre ggfe ggag : Bool} {gga1 gga2 : Option Addr} {ggan1 ggac1 ggan2 ggac2 : Nat} {ggap : Int} {ggm : Option Addr} {ggmn ggmc : Nat} {ggb1 ggb2 : Option Addr} {ggbn1 ggbc1 ggbn2 ggbc2 : Nat} {ggbp ggrg : Int} (h : GmAt u b ggp ggs ggc ggl ggst ggsk ggre ggfe ggag gga1 gga2 ggan1 ggac1 ggan2 ggac2 ggap ggm ggmn ggmc ggb1 ggb2 ggbn1 ggbc1 ggbn2 ggbc2 ggbp ggrg) : At3 u b ggb1 ggb2 ggbn1 ggbc1 ggbn2 ggbc2 ggbp 13 14 15 := ⟨h.1, h.2.2.2.2.2.2.2.2.2.2.2.2.2.2.1, h.2.2.2.2.2.2.2.2.2.2.2.2.2.2.2.1, h.2.2.2.2.2.2.2.2.2.2.2.2.2.2.2.2.1⟩
theorem TG2.drewN {w u : World} {ggp ggs ggc ggl : Int} {ggst ggsk ggre ggfe ggag : Bool} {gga1 gga2 : Option Addr} {ggan1 ggac1 ggan2 ggac2 : Nat} {ggap : Int} {ggm : Option Addr} {ggmn ggmc : Nat} {ggb1 ggb2 : Option Addr} {ggbn1 ggbc1 ggbn2 ggbc2 : Nat} {ggbp ggrg : Int} {hhp hhs hhc hhl : Int} {hhst hhsk hhre hhfe hhag : Bool} {hha1 hha2 : Option Addr} {hhan1 hhac1 hhan2 hhac2 : Nat} {hhap : Int} {hhm : Option Addr} {hhmn hhmc : Nat} {hhb1 hhb2 : Option Addr} {hhbn1 hhbc1 hhbn2 hhbc2 : Nat} {hhbp hhrg : Int} (h : TG2 w ggp ggs ggc ggl ggst ggsk ggre ggfe ggag gga1 gga2 ggan1 ggac1 ggan2 ggac2 ggap ggm ggmn ggmc ggb1 ggb2 ggbn1 ggbc1 ggbn2 ggbc2 ggbp ggrg hhp hhs hhc hhl hhst hhsk hhre hhfe hhag hha1 hha2 hhan1 hhac1 hhan2 hhac2 hhap hhm hhmn hhmc hhb1 hhb2 hhbn1 hhbc1 hhbn2 hhbc2 hhbp hhrg u) (m : Nat) : TG2 w ggp ggs ggc ggl ggst ggsk ggre ggfe ggag gga1 gga2 ggan1 ggac1 ggan2 ggac2 ggap ggm ggmn ggmc ggb1 ggb2 ggbn1 ggbc1 ggbn2 ggbc2 ggbp ggrg hhp hhs hhc hhl hhst hhsk hhre hhfe hhag hha1 hha2 hhan1 hhac1 hhan2 hhac2 hhap hhm hhmn hhmc hhb1 hhb2 hhbn1 hhbc1 hhbn2 hhbc2 hhbp hhrg (u.drewN m) := h.below (below_dn (Below.refl _ _) m)
set_option maxHeartbeats 2000000 in
theorem l04Same9_any (p1 p2 : Option Addr) (pn1 pc1 pn2 pc2 : Nat) (pp : Int) (x1 x2 : Option Addr) (xn1 xc1 xn2 xc2 : Nat) (xp : Int) (xs ys us vs : List Int) (b d : Nat) (w : World) (hp : At3 w b p1 p2 pn1 pc1 pn2 pc2 pp 9 10 11) (hx : At3 w d x1 x2 xn1 xc1 xn2 xc2 xp 9 10 11) (h1 : PosR w p1 p2 pn1 pn2 xs ys) (h2 : PosR w x1 x2 xn1 xn2 us vs) :
    Calls Try.prog 48 #[.pointer (some ⟨b, 9, none⟩), .pointer (some ⟨d, 9, none⟩)] w (Still (.bool (sameB xs us ys vs pp xp)) w) := by
  obtain ⟨_, g0, g1, g2⟩ := hp
  obtain ⟨_, k0, k1, k2⟩ := hx
  have C1 := Lib.hid (fun m => l00Same_any p1 x1 pc1 xc1 pn1 xn1 xs us (w.drewN m) h1.l1 h2.l1 (h1.drewN m).r1 (h2.drewN m).r1)
  have C2 := Lib.hid (fun m => l00Same_any p2 x2 pc2 xc2 pn2 xn2 ys vs (w.drewN m) h1.l2 h2.l2 (h1.drewN m).r2 (h2.drewN m).r2)
  clear h1 h2
  unfold sameB
  generalize hv1 : decide (xs = us) = v1 at *
  generalize hv2 : decide (ys = vs) = v2 at *
  clear hv1 hv2
  cases v1
  · go_enter Try.func48, Try.ntmps48
    go_wp2_with fail
    go_quiet ((go_at_call 61; with_reducible exact quiet_s (C1.out _) ⟨_, rfl⟩))
    go_wp2_with fail
    go_ret
    exact ⟨rfl, _, rfl⟩
  · cases v2
    all_goals
      go_enter Try.func48, Try.ntmps48
      go_wp2_with fail
      go_quiet ((first | (go_at_call 61; with_reducible exact quiet_s (C1.out _) ⟨_, rfl⟩) | (go_at_call 61; with_reducible exact quiet_s (C2.out _) ⟨_, rfl⟩)))
      go_wp2_with fail
      go_ret
      exact ⟨rfl, _, rfl⟩
set_option maxHeartbeats 2000000 in
theorem l04Same13_any (p1 p2 : Option Addr) (pn1 pc1 pn2 pc2 : Nat) (pp : Int) (x1 x2 : Option Addr) (xn1 xc1 xn2 xc2 : Nat) (xp : Int) (xs ys us vs : List Int) (b d : Nat) (w : World) (hp : At3 w b p1 p2 pn1 pc1 pn2 pc2 pp 13 14 15) (hx : At3 w d x1 x2 xn1 xc1 xn2 xc2 xp 13 14 15) (h1 : PosR w p1 p2 pn1 pn2 xs ys) (h2 : PosR w x1 x2 xn1 xn2 us vs) :
    Calls Try.prog 48 #[.pointer (some ⟨b, 13, none⟩), .pointer (some ⟨d, 13, none⟩)] w (Still (.bool (sameB xs us ys vs pp xp)) w) := by
  obtain ⟨_, g0, g1, g2⟩ := hp
  obtain ⟨_, k0, k1, k2⟩ := hx
  have C1 := Lib.hid (fun m => l00Same_any p1 x1 pc1 xc1 pn1 xn1 xs us (w.drewN m) h1.l1 h2.l1 (h1.drewN m).r1 (h2.drewN m).r1)
  have C2 := Lib.hid (fun m => l00Same_any p2 x2 pc2 xc2 pn2 xn2 ys vs (w.drewN m) h1.l2 h2.l2 (h1.drewN m).r2 (h2.drewN m).r2)
  clear h1 h2
  unfold sameB
  generalize hv1 : decide (xs = us) = v1 at *
  generalize hv2 : decide (ys = vs) = v2 at *
  clear hv1 hv2
  cases v1
  · go_enter Try.func48, Try.ntmps48
    go_wp2_with fail
    go_quiet ((go_at_call 61; with_reducible exact quiet_s (C1.out _) ⟨_, rfl⟩))
    go_wp2_with fail
    go_ret
    exact ⟨rfl, _, rfl⟩
  · cases v2
    all_goals
      go_enter Try.func48, Try.ntmps48
      go_wp2_with fail
      go_quiet ((first | (go_at_call 61; with_reducible exact quiet_s (C1.out _) ⟨_, rfl⟩) | (go_at_call 61; with_reducible exact quiet_s (C2.out _) ⟨_, rfl⟩)))
      go_wp2_with fail
      go_ret
      exact ⟨rfl, _, rfl⟩
end Go.Proofs.Ytmngmbpdiaocjaa
