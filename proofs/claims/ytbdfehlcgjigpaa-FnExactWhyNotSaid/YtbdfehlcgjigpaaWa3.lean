/- WhyI, Touch, RinP, one after the other (what the laws reach of them). No conditions. -/
import Derived.Test.YtbdfehlcgjigpaaWa2
namespace Go.Proofs.Ytbdfehlcgjigpaa
open Go.Joins Go.ChangeShapes Go.WideShapes Go.ChangeAt Go.RowKit Go.Deep
set_option linter.unusedVariables false
set_option maxHeartbeats 8000000
set_option maxRecDepth 100000
/- WhyI -/
theorem whyIll_any (p s c l : Int) (st sk re fe ag : Bool) (p1 p2 : Option Addr) (pn1 pc1 pn2 pc2 : Nat) (pp : Int) (xs ys : List Int) (move : Int) (m : Res) (w : World) (h : PosR w p1 p2 pn1 pn2 xs ys) (hk : okP (okR p s c l st ag) p pn1 pn2 pp xs ys = true) (hc : mvCd true p pp st sk re xs ys move = 0) (hm : mvV true p pp st sk re xs ys move = some m) :
  Calls Try.prog 30 #[.agg #[.int .i64 p, .int .i64 s, .bool st, .bool sk, .bool re, .bool fe, .bool ag, .int .i64 c, .int .i64 l], .agg #[.slice p1 pn1 pc1, .slice p2 pn2 pc2, .int .i64 pp], .int .i64 move] w fun e w' => e = .returned (.string (if fbS c l p pp m = true then whyTs else whyTf)) ∧ Below w.heap.size w w' := by
 have HS := Lib.hid (rp_new p s c l st sk re fe ag p1 p2 pn1 pc1 pn2 pc2 pp w 30 32)
 have HM : Hid (∀ u, Below w.heap.size w u → Calls Try.prog 39 #[.agg #[.int .i64 p, .int .i64 s, .bool st, .bool sk, .bool re, .bool fe, .bool ag, .int .i64 c, .int .i64 l], .agg #[.slice p1 pn1 pc1, .slice p2 pn2 pc2, .int .i64 pp], .int .i64 move] u (SoZ pn1 2 m.last m.laps 0 m.xs m.ys u)) := Lib.hid (fun u hu => by
  have h9 := implMove_any p s c l st sk re fe ag p1 p2 pn1 pc1 pn2 pc2 pp xs ys move u (h.below hu) true hk
  rw [hc, hm] at h9
  exact h9)
 obtain ⟨-, -, -, -, fin⟩ := mvV_fin hk h.l1 h.l2 hm
 have hok := okS_fin hk fin
 have HI : Hid (∀ (a1 a2 : Option Addr) (c1 c2 : Nat) (u : World), PosR u a1 a2 pn1 2 m.xs m.ys → pn1 ≤ c1 → Calls Try.prog 43 #[.agg #[.int .i64 p, .int .i64 s, .bool st, .bool sk, .bool re, .bool fe, .bool ag, .int .i64 c, .int .i64 l], .agg #[.slice a1 pn1 c1, .slice a2 2 c2, .int .i64 m.last, .int .i64 m.laps], .int .i64 pp] u fun e w' => e = .returned (.bool (slamF c p pp m.last m.xs)) ∧ Below u.heap.size u w') := Lib.hid (fun a1 a2 c1 c2 u hu hc1 => implSlam_b p s c l st sk re fe ag pp a1 a2 pn1 c1 2 c2 m.last m.laps m.xs m.ys u hu true hok hc1)
 unfold fbS
 generalize slamF c p pp m.last m.xs = sl at *
 generalize m.last = la at *
 generalize (m.laps : Int) = lp at *
 generalize m.xs = us at *
 generalize m.ys = vs at *
 clear h hk hc hm fin hok
 by_cases hl : l = 1
 ·have t1 : (l == 1) = true := by simpa using hl
  rw [decide_eq_true hl, Bool.true_and]
  clear hl
  cases sl
  ·rw [if_neg (by decide)]
   go_enter Try.func30, Try.ntmps30
   go_wp2_with fail
   refine (HM.out _ HS.out.2.2).mono ?_
   rintro e u ⟨a1, c1, b1, a2, c2, b2, rfl, ho, lt1, lt2, k1, k2, hb⟩
   have HO := Lib.hid (And.intro ho.r k1)
   have HS := Lib.hid (HS.out.below hb)
   clear hb ho lt1 lt2 k1 k2
   obtain ⟨_, r0, r1, r2, r3, r4, r5, r6, r7, r8⟩ := HS.out.1
   obtain ⟨_, x0, x1, x2⟩ := HS.out.2.1
   go_wp2_with fail
   refine (HI.out _ _ _ _ _ (HO.out.1.below (al1 _ _)) HO.out.2).mono ?_
   rintro e u2 ⟨rfl, hb⟩
   have HB := Lib.hid ((HS.out.below (al1 _ _)).below hb)
   clear hb r0 r1 r2 r3 r4 r5 r6 r7 r8 x0 x1 x2
   go_wp2_with fail
   go_ret
   exact ⟨rfl, HB.out.2.2⟩
  ·rw [if_pos rfl]
   go_enter Try.func30, Try.ntmps30
   go_wp2_with fail
   refine (HM.out _ HS.out.2.2).mono ?_
   rintro e u ⟨a1, c1, b1, a2, c2, b2, rfl, ho, lt1, lt2, k1, k2, hb⟩
   have HO := Lib.hid (And.intro ho.r k1)
   have HS := Lib.hid (HS.out.below hb)
   clear hb ho lt1 lt2 k1 k2
   obtain ⟨_, r0, r1, r2, r3, r4, r5, r6, r7, r8⟩ := HS.out.1
   obtain ⟨_, x0, x1, x2⟩ := HS.out.2.1
   go_wp2_with fail
   refine (HI.out _ _ _ _ _ (HO.out.1.below (al1 _ _)) HO.out.2).mono ?_
   rintro e u2 ⟨rfl, hb⟩
   have HB := Lib.hid ((HS.out.below (al1 _ _)).below hb)
   clear hb r0 r1 r2 r3 r4 r5 r6 r7 r8 x0 x1 x2
   go_wp2_with fail
   go_ret
   exact ⟨rfl, HB.out.2.2⟩
 ·have t1 : (l == 1) = false := by simpa using hl
  rw [decide_eq_false hl, Bool.false_and, if_neg (by decide)]
  clear hl
  go_enter Try.func30, Try.ntmps30
  go_wp2_with fail
  refine (HM.out _ HS.out.2.2).mono ?_
  rintro e u ⟨a1, c1, b1, a2, c2, b2, rfl, ho, lt1, lt2, k1, k2, hb⟩
  have HO := Lib.hid (And.intro ho.r k1)
  have HS := Lib.hid (HS.out.below hb)
  clear hb ho lt1 lt2 k1 k2
  obtain ⟨_, r0, r1, r2, r3, r4, r5, r6, r7, r8⟩ := HS.out.1
  obtain ⟨_, x0, x1, x2⟩ := HS.out.2.1
  go_wp2_with fail
  go_ret
  exact ⟨rfl, (HS.out.below (al1 _ _)).2.2⟩
theorem implWhy_any (p s c l : Int) (st sk re fe ag : Bool) (p1 p2 : Option Addr) (pn1 pc1 pn2 pc2 : Nat) (pp : Int) (xs ys : List Int) (move : Int) (w : World) (h : PosR w p1 p2 pn1 pn2 xs ys) (hcap : pn1 ≤ pc1) (k : Bool) (hk : okP (okR p s c l st ag) p pn1 pn2 pp xs ys = k) :
  Calls Try.prog 17 #[.agg #[.int .i64 p, .int .i64 s, .bool st, .bool sk, .bool re, .bool fe, .bool ag, .int .i64 c, .int .i64 l], .agg #[.slice p1 pn1 pc1, .slice p2 pn2 pc2, .int .i64 pp], .int .i64 move] w fun e w' => e = .returned (.tuple #[.string (whyS (lgC c l p pp fe xs (mvCd k p pp st sk re xs ys move) (mvV k p pp st sk re xs ys move)) (slW c l p pp (mvV k p pp st sk re xs ys move))), .int .i64 (whyC (lgC c l p pp fe xs (mvCd k p pp st sk re xs ys move) (mvV k p pp st sk re xs ys move)))]) ∧ Below w.heap.size w w' := by
 have HS := Lib.hid (rp_new p s c l st sk re fe ag p1 p2 pn1 pc1 pn2 pc2 pp w 30 32)
 have HC := Lib.hid (fun u (hu : Below w.heap.size w u) => implFault_any p s c l st sk re fe ag p1 p2 pn1 pc1 pn2 pc2 pp xs ys move u (h.below hu) hcap k hk)
 have hin := lgC_in (st := st) (sk := sk) (re := re) (fe := fe) (c := c) (l := l) hk h.l1 h.l2 move
 have HW : Hid (∀ m, k = true → mvCd k p pp st sk re xs ys move = 0 → mvV k p pp st sk re xs ys move = some m → ∀ u, Below w.heap.size w u → Calls Try.prog 30 #[.agg #[.int .i64 p, .int .i64 s, .bool st, .bool sk, .bool re, .bool fe, .bool ag, .int .i64 c, .int .i64 l], .agg #[.slice p1 pn1 pc1, .slice p2 pn2 pc2, .int .i64 pp], .int .i64 move] u fun e w' => e = .returned (.string (if fbS c l p pp m = true then whyTs else whyTf)) ∧ Below u.heap.size u w') := Lib.hid (fun m hk1 hc hm u hu => by
  subst hk1
  exact whyIll_any p s c l st sk re fe ag p1 p2 pn1 pc1 pn2 pc2 pp xs ys move m u (h.below hu) hk hc hm)
 generalize lgC c l p pp fe xs (mvCd k p pp st sk re xs ys move) (mvV k p pp st sk re xs ys move) = cd at *
 clear h hk hcap
 rcases hin with rfl | rfl | ⟨-, rfl | rfl | rfl⟩ | ⟨hk1, rfl, hc, m, hm⟩
 ·clear HW
  show Calls _ _ _ _ fun e w' => e = .returned (.tuple #[.string ⟨#[]⟩, .int .i64 3]) ∧ Below w.heap.size w w'
  go_enter Try.func17, Try.ntmps17
  go_wp2_with fail
  refine (HC.out _ HS.out.2.2).mono ?_
  rintro e u ⟨rfl, hb⟩
  have HS := Lib.hid (HS.out.below hb)
  clear hb
  go_wp2_with fail
  go_ret2
  exact ⟨rfl, HS.out.2.2⟩
 ·clear HW
  show Calls _ _ _ _ fun e w' => e = .returned (.tuple #[.string ⟨#[]⟩, .int .i64 1]) ∧ Below w.heap.size w w'
  go_enter Try.func17, Try.ntmps17
  go_wp2_with fail
  refine (HC.out _ HS.out.2.2).mono ?_
  rintro e u ⟨rfl, hb⟩
  have HS := Lib.hid (HS.out.below hb)
  clear hb
  go_wp2_with fail
  go_ret2
  exact ⟨rfl, HS.out.2.2⟩
 ·clear HW
  show Calls _ _ _ _ fun e w' => e = .returned (.tuple #[.string whyT2, .int .i64 0]) ∧ Below w.heap.size w w'
  go_enter Try.func17, Try.ntmps17
  go_wp2_with fail
  refine (HC.out _ HS.out.2.2).mono ?_
  rintro e u ⟨rfl, hb⟩
  have HS := Lib.hid (HS.out.below hb)
  clear hb
  go_wp2_with fail
  go_ret2
  exact ⟨rfl, HS.out.2.2⟩
 ·clear HW
  show Calls _ _ _ _ fun e w' => e = .returned (.tuple #[.string whyT6, .int .i64 0]) ∧ Below w.heap.size w w'
  go_enter Try.func17, Try.ntmps17
  go_wp2_with fail
  refine (HC.out _ HS.out.2.2).mono ?_
  rintro e u ⟨rfl, hb⟩
  have HS := Lib.hid (HS.out.below hb)
  clear hb
  go_wp2_with fail
  go_ret2
  exact ⟨rfl, HS.out.2.2⟩
 ·clear HW
  show Calls _ _ _ _ fun e w' => e = .returned (.tuple #[.string whyT10, .int .i64 0]) ∧ Below w.heap.size w w'
  go_enter Try.func17, Try.ntmps17
  go_wp2_with fail
  refine (HC.out _ HS.out.2.2).mono ?_
  rintro e u ⟨rfl, hb⟩
  have HS := Lib.hid (HS.out.below hb)
  clear hb
  go_wp2_with fail
  go_ret2
  exact ⟨rfl, HS.out.2.2⟩
 ·have HW2 := Lib.hid (HW.out m hk1 hc hm)
  rw [hm]
  show Calls _ _ _ _ fun e w' => e = .returned (.tuple #[.string (if fbS c l p pp m = true then whyTs else whyTf), .int .i64 0]) ∧ Below w.heap.size w w'
  generalize (if fbS c l p pp m = true then whyTs else whyTf) = tx at *
  clear HW hk1 hc hm
  go_enter Try.func17, Try.ntmps17
  go_wp2_with fail
  refine (HC.out _ HS.out.2.2).mono ?_
  rintro e u ⟨rfl, hb⟩
  have HS := Lib.hid (HS.out.below hb)
  clear hb
  obtain ⟨_, r0, r1, r2, r3, r4, r5, r6, r7, r8⟩ := HS.out.1
  obtain ⟨_, x0, x1, x2⟩ := HS.out.2.1
  go_wp2_with fail
  refine (HW2.out _ HS.out.2.2).mono ?_
  rintro e u2 ⟨rfl, hb⟩
  have HS := Lib.hid (HS.out.below hb)
  clear hb r0 r1 r2 r3 r4 r5 r6 r7 r8 x0 x1 x2
  go_wp2_with fail
  go_ret2
  exact ⟨rfl, HS.out.2.2⟩
def RqAt (w : World) (rb pb : Nat) (p s c l : Int) (st sk re fe ag : Bool) (p1 p2 : Option Addr) (pn1 pc1 pn2 pc2 : Nat) (pp : Int) (u : World) : Prop := RuAt u rb p s c l st sk re fe ag ∧ PoAt u pb p1 p2 pn1 pc1 pn2 pc2 pp ∧ Below w.heap.size w u
theorem RqAt.below {w u v : World} {rb pb : Nat} {p s c l : Int} {st sk re fe ag : Bool} {p1 p2 : Option Addr} {pn1 pc1 pn2 pc2 : Nat} {pp : Int} (h : RqAt w rb pb p s c l st sk re fe ag p1 p2 pn1 pc1 pn2 pc2 pp u) (k : Below u.heap.size u v) : RqAt w rb pb p s c l st sk re fe ag p1 p2 pn1 pc1 pn2 pc2 pp v :=
 ⟨h.1.below k, h.2.1.below k, h.2.2.trans (k.mono h.2.2.size)⟩
theorem l11Why_any (p s c l : Int) (st sk re fe ag : Bool) (p1 p2 : Option Addr) (pn1 pc1 pn2 pc2 : Nat) (pp : Int) (xs ys : List Int) (rb pb : Nat) (move : Int) (m : Res) (w : World) (hr : RuAt w rb p s c l st sk re fe ag) (hq : PoAt w pb p1 p2 pn1 pc1 pn2 pc2 pp) (h : PosR w p1 p2 pn1 pn2 xs ys) (hk : okP (okR p s c l st ag) p pn1 pn2 pp xs ys = true) (hc : mvCd true p pp st sk re xs ys move = 0) (hm : mvV true p pp st sk re xs ys move = some m) :
  Calls Try.prog 28 #[.pointer (some ⟨rb, 0, none⟩), .pointer (some ⟨pb, 0, none⟩), .int .i64 move, .int .i64 9] w fun e w' => e = .returned (.string (if fbS c l p pp m = true then whyTs else whyTf)) ∧ Below w.heap.size w w' := by
 have HX := Lib.hid (show RqAt w rb pb p s c l st sk re fe ag p1 p2 pn1 pc1 pn2 pc2 pp w from ⟨hr, hq, Below.refl _ _⟩)
 have HM : Hid (∀ u, RqAt w rb pb p s c l st sk re fe ag p1 p2 pn1 pc1 pn2 pc2 pp u → Calls Try.prog 34 #[.pointer (some ⟨rb, 0, none⟩), .pointer (some ⟨pb, 0, none⟩), .int .i64 move] u (SwC pn1 0 (some m) u)) := Lib.hid (fun u hu => by
  have h9 := l05Move_any p s c l st sk re fe ag p1 p2 pn1 pc1 pn2 pc2 pp xs ys rb pb move u hu.1 hu.2.1 (h.below hu.2.2) true hk
  rw [hc, hm] at h9
  exact h9)
 obtain ⟨-, -, -, -, fin⟩ := mvV_fin hk h.l1 h.l2 hm
 obtain ⟨g, -⟩ := good_fin (t := 0) p s c l st sk re fe ag hk fin
 have HI : Hid (∀ (a1 a2 : Option Addr) (c1 c2 d : Nat) (u : World), RuAt u rb p s c l st sk re fe ag → SoAt u d a1 a2 pn1 c1 2 c2 m.last m.laps → PosR u a1 a2 pn1 2 m.xs m.ys → Calls Try.prog 35 #[.pointer (some ⟨rb, 0, none⟩), .pointer (some ⟨d, 0, none⟩), .int .i64 pp] u fun e w' => e = .returned (.bool (slamF c p pp m.last m.xs)) ∧ Below u.heap.size u w') := Lib.hid (fun a1 a2 c1 c2 d u hu hd ho => l06Slam_any p s c l st sk re fe ag pp a1 a2 pn1 c1 2 c2 m.last m.laps m.xs m.ys rb d u hu hd ho g)
 unfold fbS
 generalize slamF c p pp m.last m.xs = sl at *
 clear h hk hc hm fin g hr hq
 by_cases hl : l = 1
 ·have t1 : (l == 1) = true := by simpa using hl
  rw [decide_eq_true hl, Bool.true_and]
  clear hl
  cases sl
  ·rw [if_neg (by decide)]
   go_enter Try.func28, Try.ntmps28
   go_wp2_with fail
   refine (HM.out _ HX.out).mono ?_
   rintro e u ⟨b1, c1, b2, c2, v, rfl, ho, lt1, lt2, k1, k2, hown, hb⟩
   obtain ⟨va, vc, rfl⟩ := slice_own9 hown
   have HO := Lib.hid ho.r
   have HX := Lib.hid (HX.out.below hb)
   clear hb ho lt1 lt2 k1 k2 hown
   obtain ⟨_, r0, r1, r2, r3, r4, r5, r6, r7, r8⟩ := HX.out.1
   obtain ⟨_, x0, x1, x2⟩ := HX.out.2.1
   go_wp2_with fail
   refine (HI.out _ _ _ _ _ _ (HX.out.below (al1 _ _)).1 (so_new _ _ _ _ _ _ _ _ _ _) (HO.out.below (al1 _ _))).mono ?_
   rintro e u2 ⟨rfl, hb⟩
   have HB := Lib.hid ((HX.out.below (al1 _ _)).below hb)
   clear hb r0 r1 r2 r3 r4 r5 r6 r7 r8 x0 x1 x2
   go_wp2_with fail
   go_ret
   exact ⟨rfl, HB.out.2.2⟩
  ·rw [if_pos rfl]
   go_enter Try.func28, Try.ntmps28
   go_wp2_with fail
   refine (HM.out _ HX.out).mono ?_
   rintro e u ⟨b1, c1, b2, c2, v, rfl, ho, lt1, lt2, k1, k2, hown, hb⟩
   obtain ⟨va, vc, rfl⟩ := slice_own9 hown
   have HO := Lib.hid ho.r
   have HX := Lib.hid (HX.out.below hb)
   clear hb ho lt1 lt2 k1 k2 hown
   obtain ⟨_, r0, r1, r2, r3, r4, r5, r6, r7, r8⟩ := HX.out.1
   obtain ⟨_, x0, x1, x2⟩ := HX.out.2.1
   go_wp2_with fail
   refine (HI.out _ _ _ _ _ _ (HX.out.below (al1 _ _)).1 (so_new _ _ _ _ _ _ _ _ _ _) (HO.out.below (al1 _ _))).mono ?_
   rintro e u2 ⟨rfl, hb⟩
   have HB := Lib.hid ((HX.out.below (al1 _ _)).below hb)
   clear hb r0 r1 r2 r3 r4 r5 r6 r7 r8 x0 x1 x2
   go_wp2_with fail
   go_ret
   exact ⟨rfl, HB.out.2.2⟩
 ·have t1 : (l == 1) = false := by simpa using hl
  rw [decide_eq_false hl, Bool.false_and, if_neg (by decide)]
  clear hl
  go_enter Try.func28, Try.ntmps28
  go_wp2_with fail
  refine (HM.out _ HX.out).mono ?_
  rintro e u ⟨b1, c1, b2, c2, v, rfl, ho, lt1, lt2, k1, k2, hown, hb⟩
  obtain ⟨va, vc, rfl⟩ := slice_own9 hown
  have HO := Lib.hid ho.r
  have HX := Lib.hid (HX.out.below hb)
  clear hb ho lt1 lt2 k1 k2 hown
  obtain ⟨_, r0, r1, r2, r3, r4, r5, r6, r7, r8⟩ := HX.out.1
  obtain ⟨_, x0, x1, x2⟩ := HX.out.2.1
  go_wp2_with fail
  go_ret
  exact ⟨rfl, (HX.out.below (al1 _ _)).2.2⟩
theorem l11Why2_any (rb pb : Nat) (move : Int) (w : World) : Calls Try.prog 28 #[.pointer (some ⟨rb, 0, none⟩), .pointer (some ⟨pb, 0, none⟩), .int .i64 move, .int .i64 2] w fun e w' => e = .returned (.string whyT2) ∧ Below w.heap.size w w' := by
 go_enter Try.func28, Try.ntmps28
 go_wp2_with fail
 go_ret
 exact ⟨rfl, Below.refl _ _⟩
theorem l11Why6_any (rb pb : Nat) (move : Int) (w : World) : Calls Try.prog 28 #[.pointer (some ⟨rb, 0, none⟩), .pointer (some ⟨pb, 0, none⟩), .int .i64 move, .int .i64 6] w fun e w' => e = .returned (.string whyT6) ∧ Below w.heap.size w w' := by
 go_enter Try.func28, Try.ntmps28
 go_wp2_with fail
 go_ret
 exact ⟨rfl, Below.refl _ _⟩
theorem l11Why10_any (rb pb : Nat) (move : Int) (w : World) : Calls Try.prog 28 #[.pointer (some ⟨rb, 0, none⟩), .pointer (some ⟨pb, 0, none⟩), .int .i64 move, .int .i64 10] w fun e w' => e = .returned (.string whyT10) ∧ Below w.heap.size w w' := by
 go_enter Try.func28, Try.ntmps28
 go_wp2_with fail
 go_ret
 exact ⟨rfl, Below.refl _ _⟩
theorem specWhy_any (p s c l : Int) (st sk re fe ag : Bool) (p1 p2 : Option Addr) (pn1 pc1 pn2 pc2 : Nat) (pp : Int) (xs ys : List Int) (move : Int) (w : World) (h : PosR w p1 p2 pn1 pn2 xs ys) (k : Bool) (hk : okP (okR p s c l st ag) p pn1 pn2 pp xs ys = k) :
  Calls Try.prog 16 #[.agg #[.int .i64 p, .int .i64 s, .bool st, .bool sk, .bool re, .bool fe, .bool ag, .int .i64 c, .int .i64 l], .agg #[.slice p1 pn1 pc1, .slice p2 pn2 pc2, .int .i64 pp], .int .i64 move] w fun e w' => e = .returned (.tuple #[.string (whyS (lgC c l p pp fe xs (mvCd k p pp st sk re xs ys move) (mvV k p pp st sk re xs ys move)) (slW c l p pp (mvV k p pp st sk re xs ys move))), .int .i64 (whyC (lgC c l p pp fe xs (mvCd k p pp st sk re xs ys move) (mvV k p pp st sk re xs ys move)))]) ∧ Below w.heap.size w w' := by
 have HS := Lib.hid (rp_new p s c l st sk re fe ag p1 p2 pn1 pc1 pn2 pc2 pp w 30 32)
 have HC := Lib.hid (fun u (hu : Below w.heap.size w u) => specFault_any p s c l st sk re fe ag p1 p2 pn1 pc1 pn2 pc2 pp xs ys move u (h.below hu) k hk)
 have hin := lgC_in (st := st) (sk := sk) (re := re) (fe := fe) (c := c) (l := l) hk h.l1 h.l2 move
 have HW : Hid (∀ m, k = true → mvCd k p pp st sk re xs ys move = 0 → mvV k p pp st sk re xs ys move = some m → ∀ u, RpAt w p s c l st sk re fe ag p1 p2 pn1 pc1 pn2 pc2 pp u → Calls Try.prog 28 #[.pointer (some ⟨w.heap.size, 0, none⟩), .pointer (some ⟨w.heap.size + 1, 0, none⟩), .int .i64 move, .int .i64 9] u fun e w' => e = .returned (.string (if fbS c l p pp m = true then whyTs else whyTf)) ∧ Below u.heap.size u w') := Lib.hid (fun m hk1 hc hm u hu => by
  subst hk1
  exact l11Why_any p s c l st sk re fe ag p1 p2 pn1 pc1 pn2 pc2 pp xs ys _ _ move m u hu.1 hu.2.1 (h.below hu.2.2) hk hc hm)
 generalize lgC c l p pp fe xs (mvCd k p pp st sk re xs ys move) (mvV k p pp st sk re xs ys move) = cd at *
 clear h hk
 rcases hin with rfl | rfl | ⟨-, rfl | rfl | rfl⟩ | ⟨hk1, rfl, hc, m, hm⟩
 ·clear HW
  show Calls _ _ _ _ fun e w' => e = .returned (.tuple #[.string ⟨#[]⟩, .int .i64 3]) ∧ Below w.heap.size w w'
  go_enter Try.func16, Try.ntmps16
  go_wp2_with fail
  refine (HC.out _ HS.out.2.2).mono ?_
  rintro e u ⟨rfl, hb⟩
  have HS := Lib.hid (HS.out.below hb)
  clear hb
  go_wp2_with fail
  go_ret2
  exact ⟨rfl, HS.out.2.2⟩
 ·clear HW
  show Calls _ _ _ _ fun e w' => e = .returned (.tuple #[.string ⟨#[]⟩, .int .i64 1]) ∧ Below w.heap.size w w'
  go_enter Try.func16, Try.ntmps16
  go_wp2_with fail
  refine (HC.out _ HS.out.2.2).mono ?_
  rintro e u ⟨rfl, hb⟩
  have HS := Lib.hid (HS.out.below hb)
  clear hb
  go_wp2_with fail
  go_ret2
  exact ⟨rfl, HS.out.2.2⟩
 ·clear HW
  show Calls _ _ _ _ fun e w' => e = .returned (.tuple #[.string whyT2, .int .i64 0]) ∧ Below w.heap.size w w'
  go_enter Try.func16, Try.ntmps16
  go_wp2_with fail
  refine (HC.out _ HS.out.2.2).mono ?_
  rintro e u ⟨rfl, hb⟩
  have HS := Lib.hid (HS.out.below hb)
  clear hb
  go_wp2_with fail
  refine (l11Why2_any _ _ move _).mono ?_
  rintro e u2 ⟨rfl, hb⟩
  have HS := Lib.hid (HS.out.below hb)
  clear hb
  go_wp2_with fail
  go_ret2
  exact ⟨rfl, HS.out.2.2⟩
 ·clear HW
  show Calls _ _ _ _ fun e w' => e = .returned (.tuple #[.string whyT6, .int .i64 0]) ∧ Below w.heap.size w w'
  go_enter Try.func16, Try.ntmps16
  go_wp2_with fail
  refine (HC.out _ HS.out.2.2).mono ?_
  rintro e u ⟨rfl, hb⟩
  have HS := Lib.hid (HS.out.below hb)
  clear hb
  go_wp2_with fail
  refine (l11Why6_any _ _ move _).mono ?_
  rintro e u2 ⟨rfl, hb⟩
  have HS := Lib.hid (HS.out.below hb)
  clear hb
  go_wp2_with fail
  go_ret2
  exact ⟨rfl, HS.out.2.2⟩
 ·clear HW
  show Calls _ _ _ _ fun e w' => e = .returned (.tuple #[.string whyT10, .int .i64 0]) ∧ Below w.heap.size w w'
  go_enter Try.func16, Try.ntmps16
  go_wp2_with fail
  refine (HC.out _ HS.out.2.2).mono ?_
  rintro e u ⟨rfl, hb⟩
  have HS := Lib.hid (HS.out.below hb)
  clear hb
  go_wp2_with fail
  refine (l11Why10_any _ _ move _).mono ?_
  rintro e u2 ⟨rfl, hb⟩
  have HS := Lib.hid (HS.out.below hb)
  clear hb
  go_wp2_with fail
  go_ret2
  exact ⟨rfl, HS.out.2.2⟩
 ·have HW2 := Lib.hid (HW.out m hk1 hc hm)
  rw [hm]
  show Calls _ _ _ _ fun e w' => e = .returned (.tuple #[.string (if fbS c l p pp m = true then whyTs else whyTf), .int .i64 0]) ∧ Below w.heap.size w w'
  generalize (if fbS c l p pp m = true then whyTs else whyTf) = tx at *
  clear HW hk1 hc hm
  go_enter Try.func16, Try.ntmps16
  go_wp2_with fail
  refine (HC.out _ HS.out.2.2).mono ?_
  rintro e u ⟨rfl, hb⟩
  have HS := Lib.hid (HS.out.below hb)
  clear hb
  go_wp2_with fail
  refine (HW2.out _ HS.out).mono ?_
  rintro e u2 ⟨rfl, hb⟩
  have HS := Lib.hid (HS.out.below hb)
  clear hb
  go_wp2_with fail
  go_ret2
  exact ⟨rfl, HS.out.2.2⟩
/- Touch -/
def tch (xs us : List Int) : Nat → List Int
 | 0 => []
 | k + 1 => if us.getD k 0 = xs.getD k 0 then tch xs us k else tch xs us k ++ [(k : Int)]
theorem tch_len (xs us : List Int) : ∀ k, (tch xs us k).length ≤ k
 | 0 => Nat.le_refl _
 | k + 1 => by
  have h := tch_len xs us k
  unfold tch
  split
  ·omega
  ·rw [List.length_append]
   simp only [List.length_cons, List.length_nil]
   omega
theorem tch_eq {xs us : List Int} {k : Nat} (h : us.getD k 0 = xs.getD k 0) : tch xs us (k + 1) = tch xs us k := by
 rw [tch, if_pos h]
theorem tch_ne {xs us : List Int} {k : Nat} (h : ¬ us.getD k 0 = xs.getD k 0) : tch xs us (k + 1) = tch xs us k ++ [(k : Int)] := by
 rw [tch, if_neg h]
def tchV (c l p pp : Int) (xs : List Int) (n : Nat) (MV : Option Res) : List Int := match MV with | none => [] | some m => tch xs (tkX c l p pp m.last m.xs) n
theorem lg_some' {c l p pp : Int} {fe : Bool} {xs : List Int} {MV : Option Res} {cd : Int} {m : Res} (h : lgV c l p pp fe xs MV = some m) : MV = some m ∧ lgC c l p pp fe xs cd MV = 0 := by
 cases MV with
 | none => cases h
 | some m' =>
  unfold lgV at h
  unfold lgC
  dsimp only at h ⊢
  generalize illB c l p pp fe xs m' = b at *
  cases b
  ·rw [if_neg (by decide)] at h ⊢
   exact ⟨h, rfl⟩
  ·rw [if_pos rfl] at h
   cases h
theorem touch_bd {p s c l pp : Int} {st sk re fe ag : Bool} {n1 n2 : Nat} {xs ys : List Int} {k : Bool} {move : Int} {m : Res} (hk : okP (okR p s c l st ag) p n1 n2 pp xs ys = k) (l1 : xs.length = n1) (l2 : ys.length = n2) (hl : lgV c l p pp fe xs (mvV k p pp st sk re xs ys move) = some m) : k = true ∧ xs.length = n1 ∧ n1 ≤ 1000 := by
 obtain ⟨h1, -⟩ := lg_some' (cd := 0) hl
 obtain ⟨h2, -⟩ := mvV_fin hk l1 l2 h1
 subst h2
 obtain ⟨q1, q2, -⟩ := okP_parts hk
 obtain ⟨r1, r2, -⟩ := okR_bd q1
 exact ⟨rfl, l1, by omega⟩
theorem touch_len {p s c l pp : Int} {st sk re fe ag : Bool} {n1 n2 : Nat} {xs ys : List Int} {k : Bool} {move : Int} {m : Res} (hk : okP (okR p s c l st ag) p n1 n2 pp xs ys = k) (l1 : xs.length = n1) (l2 : ys.length = n2) (hl : lgV c l p pp fe xs (mvV k p pp st sk re xs ys move) = some m) : (tkX c l p pp m.last m.xs).length = n1 := by
 obtain ⟨h1, -⟩ := lg_some' (cd := 0) hl
 obtain ⟨h2, -, -, -, fin⟩ := mvV_fin hk l1 l2 h1
 subst h2
 obtain ⟨-, h3, -⟩ := good_fin (t := 0) p s c l st sk re fe ag hk fin
 rw [tkX_len]
 exact h3
def RcT (L : List Int) (cd : Int) (w : World) (e : Ending) (w' : World) : Prop :=
 ∃ v, e = .returned (.tuple #[v, .int .i64 cd]) ∧ w'.ownsRow w.heap.size 2 1 v L.length (nvs L) ∧ Below w.heap.size w w'
theorem getD_some {xs : List Int} {k : Nat} {x : Int} (h : xs[k]? = some x) : xs.getD k 0 = x := by
 rw [List.getD_eq_getElem?_getD, h]
 rfl
theorem implTouch_any (p s c l : Int) (st sk re fe ag : Bool) (p1 p2 : Option Addr) (pn1 pc1 pn2 pc2 : Nat) (pp : Int) (xs ys : List Int) (move : Int) (w : World) (h : PosR w p1 p2 pn1 pn2 xs ys) (hcap : pn1 ≤ pc1) (k : Bool) (hk : okP (okR p s c l st ag) p pn1 pn2 pp xs ys = k) :
  Calls Try.prog 10 #[.agg #[.int .i64 p, .int .i64 s, .bool st, .bool sk, .bool re, .bool fe, .bool ag, .int .i64 c, .int .i64 l], .agg #[.slice p1 pn1 pc1, .slice p2 pn2 pc2, .int .i64 pp], .int .i64 move] w (RcT (tchV c l p pp xs pn1 (lgV c l p pp fe xs (mvV k p pp st sk re xs ys move))) (lgC c l p pp fe xs (mvCd k p pp st sk re xs ys move) (mvV k p pp st sk re xs ys move)) w) := by
 have HS := Lib.hid (rp_new p s c l st sk re fe ag p1 p2 pn1 pc1 pn2 pc2 pp w 30 32)
 have HC := Lib.hid (fun u (hu : Below w.heap.size w u) => makeL_any p s c l st sk re fe ag p1 p2 pn1 pc1 pn2 pc2 pp xs ys move u (h.below hu) hcap k hk)
 obtain ⟨i1, hi1, hy0, hy1, hy2⟩ := info_parts infoN
 cases hl : (lgV c l p pp fe xs (mvV k p pp st sk re xs ys move)) with
 | none =>
  have d := lg_none (s := s) (ag := ag) hk h.l1 hl
  rw [hl] at HC
  generalize (lgC c l p pp fe xs (mvCd k p pp st sk re xs ys move) (mvV k p pp st sk re xs ys move)) = cd at *
  have d2 : (cd != 0) = true := by simpa using d
  clear h hk hcap hl d hi1 hy0 hy1 hy2
  show Calls _ _ _ _ (RcT [] cd w)
  go_enter Try.func10, Try.ntmps10
  go_wp2_with fail
  refine (HC.out _ HS.out.2.2).mono ?_
  rintro e w5 ⟨rfl, hb⟩
  have HS := Lib.hid (HS.out.below hb)
  obtain ⟨cs, hcs⟩ : ∃ cs, cs = zero21 := ⟨_, rfl⟩
  have HCs := Lib.hid (show cs.length = 21 ∧ cs.toArray.all (·.oneCell') = true from by rw [hcs]; exact ⟨rfl, all_oneCell_toArray (by unfold zero21; simp [Value.oneCell'])⟩)
  rw [← hcs]
  clear hb HC hcs
  go_wp2_with (refine wpList_store_mid rfl 60 _ _ rfl w5.heap.size 0 cs.toArray rfl rfl (by rw [show cs.toArray.size = 21 from by simpa using HCs.out.1]; exact (thN_new w5 60).th) (by rw [show cs.toArray.size = 21 from by simpa using HCs.out.1]; kernel_rfl) HCs.out.2 ?_)
  go_ret2
  exact ⟨_, rfl, World.ownsRow_nil _ _ _ _, below_sc w5.heap.size HS.out.2.2.size _ 0 (HS.out.2.2.alloc HS.out.2.2.size _)⟩
 | some m =>
  have hcd : (lgC c l p pp fe xs (mvCd k p pp st sk re xs ys move) (mvV k p pp st sk re xs ys move)) = 0 := (lg_some' hl).2
  rw [hl, hcd] at HC
  rw [hcd]
  obtain ⟨q1, q2, hpl⟩ : k = true ∧ xs.length = pn1 ∧ pn1 ≤ 1000 := touch_bd hk h.l1 h.l2 hl
  have HL := Lib.hid (And.intro q2 (touch_len hk h.l1 h.l2 hl))
  show Calls _ _ _ _ (RcT (tch xs (tkX c l p pp m.last m.xs) pn1) 0 w)
  have H := Lib.hid h
  clear h hk hcap hl hcd q1 q2
  go_enter Try.func10, Try.ntmps10
  go_wp2_with fail
  refine (HC.out _ HS.out.2.2).mono ?_
  rintro e w5 ⟨s1, s2, sc1, sc2, g1, k1, g2, k2, rfl, ho, hl1, hl2, hc1, hc2, hb⟩
  have HF := Lib.hid (mkF_new p s c l st sk re fe ag (s1 := s1) (s2 := s2) (sc1 := sc1) (sc2 := sc2) (p1 := p1) (p2 := p2) (pc1 := pc1) (pc2 := pc2) 60 (Below.trans HS.out.2.2 (Below.mono hb HS.out.2.2.size)) (ho.lower HS.out.2.2.size) hl1 hl2 hc1 hc2)
  clear hb ho hl1 hl2 hc1 hc2
  obtain ⟨cs, hcs⟩ : ∃ cs : List Value, cs = [.int .i64 p, .int .i64 s, .bool st, .bool sk, .bool re, .bool fe, .bool ag, .int .i64 c, .int .i64 l, .int .i64 pp, .slice s1 pn1 sc1, .slice s2 2 sc2, .int .i64 m.last, .int .i64 m.laps, .slice p1 pn1 pc1, .slice p2 2 pc2, .int .i64 pp, .slice (some ⟨g1, 0, none⟩) pn1 k1, .slice (some ⟨g2, 0, none⟩) 2 k2, .int .i64 m.last, .int .i64 m.laps] := ⟨_, rfl⟩
  have HCs := Lib.hid (show cs.length = 21 ∧ cs.toArray.all (·.oneCell') = true from by rw [hcs]; exact ⟨rfl, mm_one p s c l st sk re fe ag pp s1 s2 pn1 sc1 2 sc2 m.last m.laps p1 p2 pn1 pc1 2 pc2 pp (some ⟨g1, 0, none⟩) (some ⟨g2, 0, none⟩) pn1 k1 2 k2 m.last m.laps⟩)
  rw [← hcs] at HF ⊢
  have Hcs := Lib.hid hcs
  clear hcs
  go_upto_region 2 with (refine wpList_store_mid rfl 60 _ _ rfl w5.heap.size 0 cs.toArray rfl rfl (by rw [show cs.toArray.size = 21 from by simpa using HCs.out.1]; exact (thN_new w5 60).th) (by rw [show cs.toArray.size = 21 from by simpa using HCs.out.1]; kernel_rfl) HCs.out.2 ?_)
  generalize hX : World.setCells _ _ _ _ = X
  have HFX : Hid (MkF w w p s c l st sk re fe ag pp s1 s2 pn1 sc1 sc2 p1 p2 pc1 pc2 m w5.heap.size g1 k1 g2 k2 X) := Lib.hid (by rw [← hX]; exact HF.out)
  clear HF hX
  have HF := HFX
  clear HFX
  generalize w5.heap.size = M at *
  have hMX : M < X.heap.size := HF.out.lt
  have HBX := Lib.hid (show Below w.heap.size w X from HF.out.be)
  have HRow := Lib.hid HF.out.ho.o1.row
  generalize tkX c l p pp m.last m.xs = us at *
  have HC2 : Hid (∀ wr : World, Below X.heap.size X wr → M < wr.heap.size ∧ wr.cell? ⟨M, 14, none⟩ = some (.slice p1 pn1 pc1) ∧ wr.cell? ⟨M, 17, none⟩ = some (.slice (some ⟨g1, 0, none⟩) pn1 k1)) := Lib.hid (fun wr hb => ⟨Nat.lt_of_lt_of_le hMX hb.size, (hb.cell (p := ⟨M, 14, none⟩) hMX).trans (HF.out.rg 14 _ rfl), (hb.cell (p := ⟨M, 17, none⟩) hMX).trans (HF.out.rg 17 _ rfl)⟩)
  obtain ⟨-, t14, -⟩ := HC2.out X (Below.refl _ _)
  clear HF HC HS
  go_wp2_with fail
  clear t14
  go_loopw [10, 27] (fun v8 i wr => ∃ k : Nat, i = .int .i64 k ∧ k ≤ pn1 ∧ Below X.heap.size X wr ∧ wr.ownsRow X.heap.size 2 1 v8 (tch xs us k).length (nvs (tch xs us k))) (fun _ i _ => pn1 - (intOf i).toNat)
  case atStart => exact ⟨0, rfl, Nat.zero_le _, Below.refl _ _, World.ownsRow_nil _ _ _ _⟩
  case round =>
   obtain ⟨k, rfl, hkN, hbw, hown⟩ := hrel
   have Hbw := Lib.hid hbw
   have Hown := Lib.hid hown
   have hln := tch_len xs us k
   clear hbw hown
   obtain ⟨hMw, -, t17⟩ := HC2.out wr Hbw.out
   by_cases hlt : k < pn1
   ·obtain ⟨x, hx⟩ : ∃ x, xs[k]? = some x := ⟨xs[k]'(by rw [HL.out.1]; exact hlt), List.getElem?_eq_getElem _⟩
    obtain ⟨y, hy⟩ : ∃ y, us[k]? = some y := ⟨us[k]'(by rw [HL.out.2]; exact hlt), List.getElem?_eq_getElem _⟩
    obtain ⟨ga, oa, hga, hgl, hca⟩ := ((H.out.below (Below.trans HBX.out (Below.mono Hbw.out HBX.out.size))).r1).2.resolve_left (by intro e; rw [e] at hx; cases hx)
    have y1 := hca k _ hx
    subst hga
    obtain ⟨gb, ob, hgb, hgm, hcb⟩ := (HRow.out.below Hbw.out).2.resolve_left (by intro e; rw [e] at hy; cases hy)
    cases hgb
    have y2 : wr.cell? ⟨g1, k, none⟩ = some (.int .i64 y) := by
     have h9 := hcb k _ hy
     rwa [Nat.zero_add] at h9
    have ex := getD_some hx
    have ey := getD_some hy
    have k0 : (0 : Int) ≤ (k : Int) := by omega
    have kq : (k : Int) < (pn1 : Int) := by omega
    have hbase := Hbw.out.size
    clear hx hy hca hcb hgl hgm
    by_cases hne : us.getD k 0 = xs.getD k 0
    ·have hd : y = x := by rw [← ey, ← ex]; exact hne
     subst hd
     have Hne := Lib.hid hne
     clear hne ex ey
     go_wp2_with fail
     go_roundw
     case rel => exact ⟨k + 1, by go_num, by omega, Hbw.out, by rw [tch_eq Hne.out]; exact Hown.out⟩
     case measure => simp [intOf]; omega
    ·have hd : (y != x) = true := by simp; intro e; exact hne (by rw [ey, ex, e])
     clear ex ey
     go_wp2_with (at_builtin; refine wpList_append_lies _ rfl _ _ 24 rfl X.heap.size 2 i1 (.int .i64 0) 1 8 Try.underlying24 hi1 hy0 hy1 hy2 rfl (by decide) u10 (tch xs us k).length (nvs (tch xs us k)) rfl (own_keepS Hown.out (al1 _ _)) ⟨wr.heap.size, 0, none⟩ 1 1 (nvs [(k : Int)]) rfl (by simp [nvs]) (row_news (row_oneL wr (k : Int) 2)) (nvs_cell _) (by decide) (by unfold maxLen; omega) (by omega) (by simp; omega) _ rfl ?_; intro g' cap' w9 hown9 hgrow9 hat9 hlt9)
     have HB9 := Lib.hid ((Below.alloc Hbw.out Hbw.out.size (.cells #[.int .i64 (k : Int)] 2)).grown hgrow9 (by simp; omega) (fun j hj => (own_lt Hown.out j hj).1))
     have Hown9 := Lib.hid hown9
     clear hown9 hgrow9 hat9 hlt9 y1 y2 t17
     go_wp2_with fail
     go_roundw
     case rel => exact ⟨k + 1, by go_num, by omega, HB9.out, by rw [tch_ne hne, List.length_append, nvs_app]; exact Hown9.out⟩
     case measure => simp [intOf]; omega
   ·obtain rfl : k = pn1 := by omega
    obtain ⟨va8, vc8, rfl⟩ := slice_own9 Hown.out
    clear t17 hMw
    go_wp2_with fail
    go_ret2
    exact ⟨_, rfl, own_lower Hown.out HBX.out.size, Below.trans HBX.out (Below.mono Hbw.out HBX.out.size)⟩
theorem specTouch_any (p s c l : Int) (st sk re fe ag : Bool) (p1 p2 : Option Addr) (pn1 pc1 pn2 pc2 : Nat) (pp : Int) (xs ys : List Int) (move : Int) (w : World) (h : PosR w p1 p2 pn1 pn2 xs ys) (k : Bool) (hk : okP (okR p s c l st ag) p pn1 pn2 pp xs ys = k) :
  Calls Try.prog 7 #[.agg #[.int .i64 p, .int .i64 s, .bool st, .bool sk, .bool re, .bool fe, .bool ag, .int .i64 c, .int .i64 l], .agg #[.slice p1 pn1 pc1, .slice p2 pn2 pc2, .int .i64 pp], .int .i64 move] w (RcT (tchV c l p pp xs pn1 (lgV c l p pp fe xs (mvV k p pp st sk re xs ys move))) (lgC c l p pp fe xs (mvCd k p pp st sk re xs ys move) (mvV k p pp st sk re xs ys move)) w) := by
 have HS := Lib.hid (rp_new p s c l st sk re fe ag p1 p2 pn1 pc1 pn2 pc2 pp w 30 32)
 have HC := Lib.hid (fun u (hu : Below w.heap.size w u) => specFault_any p s c l st sk re fe ag p1 p2 pn1 pc1 pn2 pc2 pp xs ys move u (h.below hu) k hk)
 have HM := Lib.hid (fun u (hu : RpAt w p s c l st sk re fe ag p1 p2 pn1 pc1 pn2 pc2 pp u) => l07Make_any p s c l st sk re fe ag p1 p2 pn1 pc1 pn2 pc2 pp xs ys w.heap.size (w.heap.size + 1) move u hu.1 hu.2.1 (h.below hu.2.2) k hk)
 obtain ⟨i1, hi1, hy0, hy1, hy2⟩ := info_parts infoN
 cases hl : (lgV c l p pp fe xs (mvV k p pp st sk re xs ys move)) with
 | none =>
  have d := lg_none (s := s) (ag := ag) hk h.l1 hl
  clear HM
  generalize (lgC c l p pp fe xs (mvCd k p pp st sk re xs ys move) (mvV k p pp st sk re xs ys move)) = cd at *
  have d2 : (cd != 0) = true := by simpa using d
  clear h hk hl d hi1 hy0 hy1 hy2
  show Calls _ _ _ _ (RcT [] cd w)
  go_enter Try.func7, Try.ntmps7
  go_wp2_with fail
  refine (HC.out _ HS.out.2.2).mono ?_
  rintro e w5 ⟨rfl, hb⟩
  have HS := Lib.hid (HS.out.below hb)
  clear hb
  go_wp2_with fail
  go_ret2
  exact ⟨_, rfl, World.ownsRow_nil _ _ _ _, HS.out.2.2⟩
 | some m =>
  have hcd : (lgC c l p pp fe xs (mvCd k p pp st sk re xs ys move) (mvV k p pp st sk re xs ys move)) = 0 := (lg_some' hl).2
  rw [hl, hcd] at HM
  rw [hcd] at HC ⊢
  obtain ⟨q1, q2, hpl⟩ : k = true ∧ xs.length = pn1 ∧ pn1 ≤ 1000 := touch_bd hk h.l1 h.l2 hl
  have HL := Lib.hid (And.intro q2 (touch_len hk h.l1 h.l2 hl))
  show Calls _ _ _ _ (RcT (tch xs (tkX c l p pp m.last m.xs) pn1) 0 w)
  have H := Lib.hid h
  clear h hk hl hcd q1 q2
  go_enter Try.func7, Try.ntmps7
  go_wp2_with fail
  refine (HC.out _ HS.out.2.2).mono ?_
  rintro e w5 ⟨rfl, hb⟩
  have HS := Lib.hid (HS.out.below hb)
  clear hb HC
  go_wp2_with fail
  refine (HM.out _ HS.out).mono ?_
  rintro e u ⟨g1, k1, g2, k2, rfl, ho, hl1, hl2, hc1, hc2, hb⟩
  have HO := Lib.hid (ho.o1.row)
  have HS := Lib.hid (HS.out.below hb)
  clear hb ho hl1 hl2 hc1 hc2 HM
  go_upto_region 5 with fail
  have HS := Lib.hid (HS.out.below (al1 u (.cells #[.int .i64 move, .int .i64 (gnV c l p pp ys m), .bool (agV ag m), .slice (some ⟨g1, 0, none⟩) pn1 k1, .slice (some ⟨g2, 0, none⟩) 2 k2, .int .i64 (nxV ag pp m)] 49)))
  have HRow0 := Lib.hid (HO.out.below (al1 u (.cells #[.int .i64 move, .int .i64 (gnV c l p pp ys m), .bool (agV ag m), .slice (some ⟨g1, 0, none⟩) pn1 k1, .slice (some ⟨g2, 0, none⟩) 2 k2, .int .i64 (nxV ag pp m)] 49)))
  have t3 : (u.alloc (.cells #[.int .i64 move, .int .i64 (gnV c l p pp ys m), .bool (agV ag m), .slice (some ⟨g1, 0, none⟩) pn1 k1, .slice (some ⟨g2, 0, none⟩) 2 k2, .int .i64 (nxV ag pp m)] 49)).cell? ⟨u.heap.size, 3, none⟩ = some (.slice (some ⟨g1, 0, none⟩) pn1 k1) := by go_simp
  have hM0 : u.heap.size < (u.alloc (.cells #[.int .i64 move, .int .i64 (gnV c l p pp ys m), .bool (agV ag m), .slice (some ⟨g1, 0, none⟩) pn1 k1, .slice (some ⟨g2, 0, none⟩) 2 k2, .int .i64 (nxV ag pp m)] 49)).heap.size := by simp
  have HT3 := Lib.hid (And.intro hM0 t3)
  clear HO hM0 t3
  generalize u.alloc (.cells #[.int .i64 move, .int .i64 (gnV c l p pp ys m), .bool (agV ag m), .slice (some ⟨g1, 0, none⟩) pn1 k1, .slice (some ⟨g2, 0, none⟩) 2 k2, .int .i64 (nxV ag pp m)] 49) = Y at *
  generalize u.heap.size = M at *
  generalize tkX c l p pp m.last m.xs = us at *
  have HO0 := Lib.hid (World.ownsRow_made (base := Y.heap.size) (e := 2) (size := 1) Y #[] 0 (Nat.le_refl _) (by decide) rfl)
  have HX0 := Lib.hid (al1 Y (.cells #[] 2))
  have hst : Y.heap.size ≤ (Y.alloc (.cells #[] 2)).heap.size := HX0.out.size
  go_wp2_with fail
  have HBX := Lib.hid (show Below w.heap.size w Y from HS.out.2.2)
  have HRow := HRow0
  clear HRow0
  have HC2 : Hid (∀ wr : World, Below Y.heap.size Y wr → (M < wr.heap.size ∧ wr.cell? ⟨M, 3, none⟩ = some (.slice (some ⟨g1, 0, none⟩) pn1 k1)) ∧ (w.heap.size + 1 < wr.heap.size ∧ wr.cell? ⟨w.heap.size + 1, 0, none⟩ = some (.slice p1 pn1 pc1))) := Lib.hid (fun wr hb => ⟨⟨Nat.lt_of_lt_of_le HT3.out.1 hb.size, (hb.cell (p := ⟨M, 3, none⟩) HT3.out.1).trans HT3.out.2⟩, (HS.out.2.1.below hb).1, (HS.out.2.1.below hb).2.1⟩)
  generalize Y.alloc (.cells #[] 2) = X1 at *
  go_loopw [11, 12] (fun v8 i wr => ∃ k : Nat, i = .int .i64 k ∧ k ≤ pn1 ∧ Below Y.heap.size Y wr ∧ wr.ownsRow Y.heap.size 2 1 v8 (tch xs us k).length (nvs (tch xs us k))) (fun _ i _ => pn1 - (intOf i).toNat)
  case atStart => exact ⟨0, rfl, Nat.zero_le _, HX0.out, HO0.out⟩
  case round =>
   obtain ⟨k, rfl, hkN, hbw, hown⟩ := hrel
   have Hbw := Lib.hid hbw
   have Hown := Lib.hid hown
   have hln := tch_len xs us k
   clear hbw hown
   obtain ⟨⟨hMw, t3⟩, hpw, x0⟩ := HC2.out wr Hbw.out
   by_cases hlt : k < pn1
   ·obtain ⟨x, hx⟩ : ∃ x, xs[k]? = some x := ⟨xs[k]'(by rw [HL.out.1]; exact hlt), List.getElem?_eq_getElem _⟩
    obtain ⟨y, hy⟩ : ∃ y, us[k]? = some y := ⟨us[k]'(by rw [HL.out.2]; exact hlt), List.getElem?_eq_getElem _⟩
    obtain ⟨ga, oa, hga, hgl, hca⟩ := ((H.out.below (Below.trans HBX.out (Below.mono Hbw.out HBX.out.size))).r1).2.resolve_left (by intro e; rw [e] at hx; cases hx)
    have y1 := hca k _ hx
    subst hga
    obtain ⟨gb, ob, hgb, hgm, hcb⟩ := (HRow.out.below Hbw.out).2.resolve_left (by intro e; rw [e] at hy; cases hy)
    cases hgb
    have y2 : wr.cell? ⟨g1, k, none⟩ = some (.int .i64 y) := by
     have h9 := hcb k _ hy
     rwa [Nat.zero_add] at h9
    have ex := getD_some hx
    have ey := getD_some hy
    have k0 : (0 : Int) ≤ (k : Int) := by omega
    have kq : (k : Int) < (pn1 : Int) := by omega
    have hbase := Hbw.out.size
    clear hx hy hca hcb hgl hgm
    by_cases hne : us.getD k 0 = xs.getD k 0
    ·have hd : y = x := by rw [← ey, ← ex]; exact hne
     subst hd
     have Hne := Lib.hid hne
     clear hne ex ey
     go_wp2_with fail
     go_quiet (fail)
     go_wp2_with fail
     go_roundw
     case rel => exact ⟨k + 1, by go_num, by omega, (by first | exact Hbw.out | exact below_dn Hbw.out _), by rw [tch_eq Hne.out]; exact (by first | exact Hown.out | exact own_keepS Hown.out (below_dn (Below.refl _ _) _))⟩
     case measure => simp [intOf]; omega
    ·have hd : (y != x) = true := by simp; intro e; exact hne (by rw [ey, ex, e])
     clear ex ey
     go_wp2_with fail
     go_quiet (fail)
     go_wp2_with (at_builtin; refine wpList_append_lies _ rfl _ _ 24 rfl Y.heap.size 2 i1 (.int .i64 0) 1 8 Try.underlying24 hi1 hy0 hy1 hy2 rfl (by decide) u11 (tch xs us k).length (nvs (tch xs us k)) rfl (own_keepS (own_keepS Hown.out (below_dn (Below.refl _ _) _)) (al1 _ _)) ⟨wr.heap.size, 0, none⟩ 1 1 (nvs [(k : Int)]) rfl (by simp [nvs]) (row_news (row_oneL _ (k : Int) 2)) (nvs_cell _) (by decide) (by unfold maxLen; omega) (by omega) (by simp; omega) _ rfl ?_; intro g' cap' w9 hown9 hgrow9 hat9 hlt9)
     have HB9 := Lib.hid ((Below.alloc (below_dn Hbw.out _) (below_dn Hbw.out _).size (.cells #[.int .i64 (k : Int)] 2)).grown hgrow9 (by simp; omega) (fun j hj => (own_lt Hown.out j hj).1))
     have Hown9 := Lib.hid hown9
     clear hown9 hgrow9 hat9 hlt9 y1 y2 t3 x0
     go_wp2_with fail
     go_roundw
     case rel => exact ⟨k + 1, by go_num, by omega, HB9.out, by rw [tch_ne hne, List.length_append, nvs_app]; exact Hown9.out⟩
     case measure => simp [intOf]; omega
   ·obtain rfl : k = pn1 := by omega
    obtain ⟨va8, vc8, rfl⟩ := slice_own9 Hown.out
    go_wp2_with fail
    go_ret2
    exact ⟨_, rfl, own_lower Hown.out HBX.out.size, Below.trans HBX.out (Below.mono Hbw.out HBX.out.size)⟩
/- RinP -/
def RIn (u : World) (lo hi : Nat) (a : Option Addr) (b : Nat) (L : List Int) : Prop := OutN u lo a b L ∧ (L ≠ [] → b < hi) ∧ hi ≤ u.heap.size
section
variable {u v : World} {lo hi b c d : Nat} {a : Option Addr} {L : List Int}
theorem RIn.below (h : RIn u lo hi a b L) (k : Below u.heap.size u v) : RIn v lo hi a b L := ⟨h.1.below k, h.2.1, Nat.le_trans h.2.2 k.size⟩
theorem RIn.drew (h : RIn u lo hi a b L) : RIn u.drew lo hi a b L := h.below (Below.refl _ _).drew
theorem RIn.but2 (h : RIn u lo hi a b L) (k : But2 c d u v) (hc : hi ≤ c ∨ c < lo) (hd : hi ≤ d ∨ d < lo) : RIn v lo hi a b L := by
 obtain ⟨ho, hlt, hs⟩ := h
 refine ⟨?_, hlt, Nat.le_trans hs k.size⟩
 by_cases hne : L = []
 ·subst hne
  exact ⟨rowN_nil _ _, ho.at_b, ho.new, fun h => absurd rfl h⟩
 ·have h1 := hlt hne
  have h2 := ho.new
  exact ho.but2 k (by omega) (by omega)
end
theorem rin_own {u : World} {lo n : Nat} {v : Value} {L : List Int} (h : u.ownsRow lo 2 1 v n (nvs L)) (hn : L.length = n) (hle : n ≤ 1000000) : ∃ a c b, v = .slice a n c ∧ RIn u lo u.heap.size a b L := by
 by_cases hne : L = []
 ·subst hne
  obtain ⟨_, ⟨hv, h0⟩ | ⟨g, cap, cur, hv, hb, _⟩⟩ := h
  ·subst h0
   exact ⟨none, 0, lo, hv, ⟨rowN_nil _ _, (fun _ _ e => by cases e), Nat.le_refl _, fun h => absurd rfl h⟩, (fun h => absurd rfl h), Nat.le_refl _⟩
  ·exact ⟨_, cap, g, hv, ⟨rowN_nil _ _, (fun _ _ e => by cases e; rfl), hb, fun h => absurd rfl h⟩, (fun h => absurd rfl h), Nat.le_refl _⟩
 ·obtain ⟨c, b, hv, ho, hlt, _⟩ := outN_own h hn (by omega) hne
  exact ⟨_, c, b, hv, ho, (fun _ => hlt), Nat.le_refl _⟩
def XIn (u : World) (lo x1 x2 n1 n2 : Nat) (xs ys : List Int) : Prop := PosO u lo (some ⟨x1, 0, none⟩) (some ⟨x2, 0, none⟩) x1 x2 n1 n2 xs ys
theorem XIn.below {u v : World} {lo x1 x2 n1 n2 : Nat} {xs ys : List Int} (h : XIn u lo x1 x2 n1 n2 xs ys) (k : Below u.heap.size u v) : XIn v lo x1 x2 n1 n2 xs ys := PosO.below h k
theorem XIn.drew {u : World} {lo x1 x2 n1 n2 : Nat} {xs ys : List Int} (h : XIn u lo x1 x2 n1 n2 xs ys) : XIn u.drew lo x1 x2 n1 n2 xs ys := PosO.below h (Below.refl _ _).drew
def GIn (u : World) (lo : Nat) (a : Option Addr) (b n : Nat) : Prop := OutN u lo a b (marksN 1 n)
theorem GIn.below {u v : World} {lo b n : Nat} {a : Option Addr} (h : GIn u lo a b n) (k : Below u.heap.size u v) : GIn v lo a b n := OutN.below h k
theorem GIn.drew {u : World} {lo b n : Nat} {a : Option Addr} (h : GIn u lo a b n) : GIn u.drew lo a b n := OutN.below h (Below.refl _ _).drew
end Go.Proofs.Ytbdfehlcgjigpaa
