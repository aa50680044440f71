/- Who must feed. No conditions. -/
import Derived.Test.YtdhkfkfoibddnaaSide4
import Derived.Test.YtdhkfkfoibddnaaPosZ
import Derived.Test.YtdhkfkfoibddnaaSpec4
import Derived.Test.YtdhkfkfoibddnaaValid4
import Derived.IntWalk
namespace Go.Proofs.Ytdhkfkfoibddnaa
open Go.Joins Go.ChangeShapes Go.WideShapes Go.ChangeAt Go.RowKit Go.Deep
set_option linter.unusedVariables false

/-- All pits of the player who is not to move are empty. -/
def noneO (p pp : Int) (xs : List Int) : Bool := tot (halfL xs p.toNat (1 - pp)) == 0
def feedB (k fe : Bool) (p pp : Int) (xs : List Int) : Bool := k && (fe && noneO p pp xs)
theorem feed_parts (p s c l : Int) (st sk re fe ag : Bool) {pn1 pn2 : Nat} {pp : Int} {xs ys : List Int} (hk : okP (okR p s c l st ag) p pn1 pn2 pp xs ys = true) :
    (2 ≤ p ∧ p ≤ 8) ∧ (pn1 : Int) = 2 * p ∧ (1 - pp = 0 ∨ 1 - pp = 1) ∧ posB xs = true ∧ tot xs ≤ 96 := by
  obtain ⟨hok, hn1, hn2, hpl, hs⟩ := okP_parts hk
  obtain ⟨hp1, hp2, -⟩ := okR_bd hok
  obtain ⟨q1, q2, q3⟩ := seedB_parts hs
  have q4 := posB_tot q2
  exact ⟨⟨hp1, hp2⟩, hn1, by omega, q1, by omega⟩
set_option maxHeartbeats 2000000 in
set_option maxRecDepth 100000 in
theorem other_any (p s c l : Int) (st sk re fe ag : Bool) (p1 p2 : Option Addr) (pn1 pc1 pn2 pc2 : Nat) (pp : Int) (xs : List Int) (w : World) (l1 : xs.length = pn1) (r1 : RowN w p1 xs) (hp : 2 ≤ p ∧ p ≤ 8) (hn : (pn1 : Int) = 2 * p) (hpl : 1 - pp = 0 ∨ 1 - pp = 1) (hpos : posB xs = true) (ht : tot xs ≤ 96) (hcap : pn1 ≤ pc1) :
    Calls Try.prog 92 #[.agg #[.slice p1 pn1 pc1, .slice p2 pn2 pc2, .int .i64 pp], .agg #[.int .i64 p, .int .i64 s, .bool st, .bool sk, .bool re, .bool fe, .bool ag, .int .i64 c, .int .i64 l]] w fun e w' => e = .returned (.bool (noneO p pp xs)) ∧ Below w.heap.size w w' := by
  obtain ⟨P, rfl⟩ : ∃ P : Nat, p = (P : Int) := ⟨p.toNat, by omega⟩
  unfold noneO
  rw [Int.toNat_natCast]
  have hP1 : 2 ≤ P := by omega
  have hP2 : P ≤ 8 := by omega
  have hN : pn1 = 2 * P := by omega
  have HB := Lib.hid (al2 w (.cells #[.slice p1 pn1 pc1, .slice p2 pn2 pc2, .int .i64 pp] 32) (.cells #[.int .i64 P, .int .i64 s, .bool st, .bool sk, .bool re, .bool fe, .bool ag, .int .i64 c, .int .i64 l] 30))
  have HSd : Hid (∀ u, Below w.heap.size w u → Calls Try.prog 107 #[.agg #[.slice p1 pn1 pc1, .slice p2 pn2 pc2, .int .i64 pp], .agg #[.int .i64 P, .int .i64 s, .bool st, .bool sk, .bool re, .bool fe, .bool ag, .int .i64 c, .int .i64 l], .int .i64 (1 - pp)] u (SideP xs P (1 - pp) u)) := Lib.hid (fun u hu => side_any P s c l st sk re fe ag _ _ _ _ _ _ _ xs (1 - pp) u l1 (r1.below hu) hP1 hP2 hN hcap hpl)
  have HL := Lib.hid (half_len (xs := xs) (P := P) (l1.trans hN) hpl)
  have hh := half_tot (xs := xs) (P := P) (l1.trans hN) hpl hpos
  have HH := Lib.hid hh
  have HT : Hid (tot (halfL xs P (1 - pp)) ≤ 96) := Lib.hid (by omega)
  have hw1 : IntKind.i64.wrap (1 - pp) = 1 - pp := IntWalk.i64_in _ ⟨by omega, by omega⟩
  generalize hhs : halfL xs P (1 - pp) = hs at *
  clear hh hpos ht hn hp hpl l1 r1 hN hP1 hP2
  go_enter Try.func92, Try.ntmps92
  go_wp2_with fail
  refine (HSd.out _ HB.out).mono ?_
  rintro e u3 ⟨a3, c3, rfl, r3, hc3, b3⟩
  have HB3 := Lib.hid (HB.out.trans (b3.mono HB.out.size))
  rw [hhs] at r3
  have R3 := Lib.hid r3
  clear b3 r3 hhs
  go_wp2_with fail
  refine (sumOf_any a3 c3 P _ _ HL.out R3.out HH.out.1 (by have := HT.out; omega)).mono ?_
  rintro e u4 ⟨rfl, rfl⟩
  go_wp2_with fail
  go_ret
  exact ⟨rfl, HB3.out⟩
set_option maxHeartbeats 2000000 in
set_option maxRecDepth 100000 in
theorem implFeed_any (p s c l : Int) (st sk re fe ag : Bool) (p1 p2 : Option Addr) (pn1 pc1 pn2 pc2 : Nat) (pp : Int) (xs ys : List Int) (w : World) (h : PosR w p1 p2 pn1 pn2 xs ys) (hcap : pn1 ≤ pc1) (k : Bool) (hk : okP (okR p s c l st ag) p pn1 pn2 pp xs ys = k) :
    Calls Try.prog 91 #[.agg #[.int .i64 p, .int .i64 s, .bool st, .bool sk, .bool re, .bool fe, .bool ag, .int .i64 c, .int .i64 l], .agg #[.slice p1 pn1 pc1, .slice p2 pn2 pc2, .int .i64 pp]] w fun e w' => e = .returned (.bool (feedB k fe p pp xs)) ∧ Below w.heap.size w w' := by
  have H := Lib.hid h
  have HS := Lib.hid (rp_new p s c l st sk re fe ag p1 p2 pn1 pc1 pn2 pc2 pp w 30 32)
  have Hk := Lib.hid hk
  have HO : Hid (k = true → ∀ u, Below w.heap.size w u → Calls Try.prog 92 #[.agg #[.slice p1 pn1 pc1, .slice p2 pn2 pc2, .int .i64 pp], .agg #[.int .i64 p, .int .i64 s, .bool st, .bool sk, .bool re, .bool fe, .bool ag, .int .i64 c, .int .i64 l]] u fun e w' => e = .returned (.bool (noneO p pp xs)) ∧ Below u.heap.size u w') := Lib.hid (fun e u hu => by
    obtain ⟨f1, f2, f3, f4, f5⟩ := feed_parts p s c l st sk re fe ag (hk.trans e)
    exact other_any p s c l st sk re fe ag _ _ _ _ _ _ _ xs u h.l1 (h.below hu).r1 f1 f2 f3 f4 f5 hcap)
  unfold feedB
  generalize noneO p pp xs = nn at *
  clear h hk
  go_enter Try.func91, Try.ntmps91
  go_wp2_with fail
  refine (implValid_b p s c l st sk re fe ag _ _ _ _ _ _ _ xs ys _ (H.out.below HS.out.2.2) _ Hk.out).mono ?_
  rintro e u ⟨rfl, hb⟩
  have HS := Lib.hid (HS.out.below hb)
  clear hb
  cases k
  · go_wp2_with fail
    go_ret
    exact ⟨rfl, HS.out.2.2⟩
  · obtain ⟨⟨_, r0, r1, r2, r3, r4, r5, r6, r7, r8⟩, ⟨_, g0, g1, g2⟩, -⟩ := HS.out
    cases fe
    · go_wp2_with fail
      go_ret
      exact ⟨rfl, HS.out.2.2⟩
    · go_wp2_with fail
      refine (HO.out (by first | rfl | trivial) _ HS.out.2.2).mono ?_
      rintro e u2 ⟨rfl, hb⟩
      have HS := Lib.hid (HS.out.below hb)
      clear hb
      go_wp2_with fail
      go_ret
      exact ⟨rfl, HS.out.2.2⟩
set_option maxHeartbeats 2000000 in
set_option maxRecDepth 100000 in
theorem l07Feed_any (p s c l : Int) (st sk re fe ag : Bool) (p1 p2 : Option Addr) (pn1 pc1 pn2 pc2 : Nat) (pp : Int) (xs ys : List Int) (rb pb : Nat) (w : World) (hr : RuAt w rb p s c l st sk re fe ag) (hq : PoAt w pb p1 p2 pn1 pc1 pn2 pc2 pp) (h : PosR w p1 p2 pn1 pn2 xs ys) (hk : okP (okR p s c l st ag) p pn1 pn2 pp xs ys = true) :
    Calls Try.prog 68 #[.pointer (some ⟨rb, 0, none⟩), .pointer (some ⟨pb, 0, none⟩)] w (Still (.bool (fe && noneO p pp xs)) w) := by
  obtain ⟨f1, f2, f3, f4, f5⟩ := feed_parts p s c l st sk re fe ag hk
  obtain ⟨P, rfl⟩ : ∃ P : Nat, p = (P : Int) := ⟨p.toNat, by omega⟩
  unfold noneO
  rw [Int.toNat_natCast]
  obtain ⟨_, g0, g1, g2, g3, g4, g5, g6, g7, g8⟩ := hr
  obtain ⟨_, t0, t1, t2⟩ := hq
  have HC : Hid (∀ q, Calls Try.prog 69 #[.pointer (some ⟨rb, 0, none⟩), .slice p1 pn1 pc1, .int .i64 (1 - pp)] (w.drewN q) fun e w' => e = .returned (.int .i64 (tot (halfL xs P (1 - pp)))) ∧ w.drewN q = w') := Lib.hid (fun q => l04Side_any P rb p1 pc1 pn1 xs (1 - pp) (w.drewN q) ((Below.cell (below_dn (Below.refl w.heap.size w) q) (p := ⟨rb, 0, none⟩) (by assumption)).trans g0) h.l1 (h.r1.drewN q) (by omega) (by omega) (by omega) f3 f4 f5)
  have hw1 : IntKind.i64.wrap (1 - pp) = 1 - pp := IntWalk.i64_in _ ⟨by omega, by omega⟩
  generalize tot (halfL xs P (1 - pp)) = hs at *
  clear f1 f2 f3 f4 f5 h hk
  cases fe
  · go_enter Try.func68, Try.ntmps68
    go_wp2_with fail
    go_quiet (fail)
    go_wp2_with fail
    go_ret
    exact ⟨rfl, by first | exact ⟨_, rfl⟩ | exact ⟨_, World.drewN_drewN _ _ _⟩⟩
  · go_enter Try.func68, Try.ntmps68
    go_wp2_with fail
    go_quiet ((go_at_call 69; exact quiet_w (HC.out _) ⟨_, rfl⟩))
    go_wp2_with fail
    go_ret
    exact ⟨rfl, by first | exact ⟨_, rfl⟩ | exact ⟨_, World.drewN_drewN _ _ _⟩⟩
end Go.Proofs.Ytdhkfkfoibddnaa
