/- FnSettled: its walk, over what the calls answer. No conditions. -/
import Derived.Test.YtgogjjkecbgbiaaAsk9
import Derived.Test.YtgogjjkecbgbiaaEnd9T
import Derived.Test.YtgogjjkecbgbiaaEnd9W
import Derived.Test.YtgogjjkecbgbiaaSame4
import Derived.Test.YtgogjjkecbgbiaaSum4
import Derived.BigQuiet
import Derived.Deep.QuietTactic
namespace Go.Proofs.Ytgogjjkecbgbiaa
open Go.Joins Go.ChangeShapes Go.WideShapes Go.ChangeAt Go.RowKit Go.Deep
set_option linter.unusedVariables false

/-- A position in memory, with its rows. -/
def Pv9 (u : World) (z : Nat) (x1 x2 : Option Addr) (xn1 xc1 xn2 xc2 : Nat) (xp : Int) (xs ys : List Int) : Prop := PoAt u z x1 x2 xn1 xc1 xn2 xc2 xp ∧ PosR u x1 x2 xn1 xn2 xs ys
theorem Pv9.below {u v : World} {z : Nat} {x1 x2 : Option Addr} {xn1 xc1 xn2 xc2 : Nat} {xp : Int} {xs ys : List Int} (h : Pv9 u z x1 x2 xn1 xc1 xn2 xc2 xp xs ys) (k : Below u.heap.size u v) : Pv9 v z x1 x2 xn1 xc1 xn2 xc2 xp xs ys := ⟨h.1.below k, h.2.below k⟩
theorem pv9_new {u : World} {x1 x2 : Option Addr} {xn1 xc1 xn2 xc2 : Nat} {xp : Int} {xs ys : List Int} (h : PosR u x1 x2 xn1 xn2 xs ys) (T : TypeId) : Pv9 (u.alloc (.cells #[.slice x1 xn1 xc1, .slice x2 xn2 xc2, .int .i64 xp] T)) u.heap.size x1 x2 xn1 xc1 xn2 xc2 xp xs ys := ⟨po_new x1 x2 xn1 xc1 xn2 xc2 xp u T, h.below (al1 _ _)⟩
theorem same9 (xs ys : List Int) (p : Int) : sameB xs xs ys ys p p = true := by
  unfold sameB
  rw [decide_eq_true rfl, decide_eq_true rfl]
  simp
/-- What the calls on a position answer, on both sides. -/
structure Fs (p s c l : Int) (st sk re fe ag : Bool) (g1 o1 : Nat) (x2 : Option Addr) (xn1 xc1 xn2 xc2 : Nat) (xp pl : Int) (xs ys : List Int) (gm1 gm2 : Nat) (gp gc : Int) (gu gv : List Int) (sm1 sm2 : Nat) (sp sc : Int) (su sv : List Int) (n nc m mc ld lc a w0 : Int) : Prop where
  gi : ∀ u, PosR u (some ⟨g1, o1, none⟩) x2 xn1 xn2 xs ys → Calls Try.prog 6 #[.agg #[.int .i64 p, .int .i64 s, .bool st, .bool sk, .bool re, .bool fe, .bool ag, .int .i64 c, .int .i64 l], .agg #[.slice (some ⟨g1, o1, none⟩) xn1 xc1, .slice x2 xn2 xc2, .int .i64 xp], .int .i64 pl] u (PosZ gm1 gm2 gp gc gu gv u)
  gs : ∀ u, PosR u (some ⟨g1, o1, none⟩) x2 xn1 xn2 xs ys → Calls Try.prog 7 #[.agg #[.int .i64 p, .int .i64 s, .bool st, .bool sk, .bool re, .bool fe, .bool ag, .int .i64 c, .int .i64 l], .agg #[.slice (some ⟨g1, o1, none⟩) xn1 xc1, .slice x2 xn2 xc2, .int .i64 xp], .int .i64 pl] u (PosZ gm1 gm2 gp gc gu gv u)
  si : ∀ u, PosR u (some ⟨g1, o1, none⟩) x2 xn1 xn2 xs ys → Calls Try.prog 8 #[.agg #[.int .i64 p, .int .i64 s, .bool st, .bool sk, .bool re, .bool fe, .bool ag, .int .i64 c, .int .i64 l], .agg #[.slice (some ⟨g1, o1, none⟩) xn1 xc1, .slice x2 xn2 xc2, .int .i64 xp]] u (PosZ sm1 sm2 sp sc su sv u)
  ss : ∀ u, PosR u (some ⟨g1, o1, none⟩) x2 xn1 xn2 xs ys → Calls Try.prog 9 #[.agg #[.int .i64 p, .int .i64 s, .bool st, .bool sk, .bool re, .bool fe, .bool ag, .int .i64 c, .int .i64 l], .agg #[.slice (some ⟨g1, o1, none⟩) xn1 xc1, .slice x2 xn2 xc2, .int .i64 xp]] u (PosZ sm1 sm2 sp sc su sv u)
  ni : ∀ u, PosR u (some ⟨g1, o1, none⟩) x2 xn1 xn2 xs ys → Calls Try.prog 10 #[.agg #[.int .i64 p, .int .i64 s, .bool st, .bool sk, .bool re, .bool fe, .bool ag, .int .i64 c, .int .i64 l], .agg #[.slice (some ⟨g1, o1, none⟩) xn1 xc1, .slice x2 xn2 xc2, .int .i64 xp], .int .i64 pl] u (Ret2 n nc u)
  ns : ∀ u, PosR u (some ⟨g1, o1, none⟩) x2 xn1 xn2 xs ys → Calls Try.prog 11 #[.agg #[.int .i64 p, .int .i64 s, .bool st, .bool sk, .bool re, .bool fe, .bool ag, .int .i64 c, .int .i64 l], .agg #[.slice (some ⟨g1, o1, none⟩) xn1 xc1, .slice x2 xn2 xc2, .int .i64 xp], .int .i64 pl] u (Ret2 n nc u)
  mi : ∀ u, PosR u (some ⟨g1, o1, none⟩) x2 xn1 xn2 xs ys → Calls Try.prog 12 #[.agg #[.int .i64 p, .int .i64 s, .bool st, .bool sk, .bool re, .bool fe, .bool ag, .int .i64 c, .int .i64 l], .agg #[.slice (some ⟨g1, o1, none⟩) xn1 xc1, .slice x2 xn2 xc2, .int .i64 xp]] u (Ret2 m mc u)
  ms : ∀ u, PosR u (some ⟨g1, o1, none⟩) x2 xn1 xn2 xs ys → Calls Try.prog 13 #[.agg #[.int .i64 p, .int .i64 s, .bool st, .bool sk, .bool re, .bool fe, .bool ag, .int .i64 c, .int .i64 l], .agg #[.slice (some ⟨g1, o1, none⟩) xn1 xc1, .slice x2 xn2 xc2, .int .i64 xp]] u (Ret2 m mc u)
  li : ∀ u, PosR u (some ⟨g1, o1, none⟩) x2 xn1 xn2 xs ys → Calls Try.prog 14 #[.agg #[.int .i64 p, .int .i64 s, .bool st, .bool sk, .bool re, .bool fe, .bool ag, .int .i64 c, .int .i64 l], .agg #[.slice (some ⟨g1, o1, none⟩) xn1 xc1, .slice x2 xn2 xc2, .int .i64 xp]] u (Ret2 ld lc u)
  ls : ∀ u, PosR u (some ⟨g1, o1, none⟩) x2 xn1 xn2 xs ys → Calls Try.prog 15 #[.agg #[.int .i64 p, .int .i64 s, .bool st, .bool sk, .bool re, .bool fe, .bool ag, .int .i64 c, .int .i64 l], .agg #[.slice (some ⟨g1, o1, none⟩) xn1 xc1, .slice x2 xn2 xc2, .int .i64 xp]] u (Ret2 ld lc u)
  no : sc ≠ 0 → gc ≠ 0
  ag2 : sc = 0 → ∀ (t1 t2 : Option Addr) (d1 d2 : Nat) u, PosR u t1 t2 sm1 sm2 su sv → sm1 ≤ d1 → Calls Try.prog 8 #[.agg #[.int .i64 p, .int .i64 s, .bool st, .bool sk, .bool re, .bool fe, .bool ag, .int .i64 c, .int .i64 l], .agg #[.slice t1 sm1 d1, .slice t2 sm2 d2, .int .i64 sp]] u (PosZ sm1 sm2 sp 0 su sv u)
  so : sc = 0 → ∀ (t1 t2 : Option Addr) (d1 d2 : Nat) u, PosR u t1 t2 sm1 sm2 su sv → Calls Try.prog 17 #[.agg #[.int .i64 p, .int .i64 s, .bool st, .bool sk, .bool re, .bool fe, .bool ag, .int .i64 c, .int .i64 l], .agg #[.slice t1 sm1 d1, .slice t2 sm2 d2, .int .i64 sp]] u (Ret2 0 0 u)
  lo : sc = 0 → ∀ (t1 t2 : Option Addr) (d1 d2 : Nat) u, PosR u t1 t2 sm1 sm2 su sv → Calls Try.prog 14 #[.agg #[.int .i64 p, .int .i64 s, .bool st, .bool sk, .bool re, .bool fe, .bool ag, .int .i64 c, .int .i64 l], .agg #[.slice t1 sm1 d1, .slice t2 sm2 d2, .int .i64 sp]] u (Ret2 a 0 u)
  mo : sc = 0 → ∀ (t1 t2 : Option Addr) (d1 d2 : Nat) u, PosR u t1 t2 sm1 sm2 su sv → Calls Try.prog 12 #[.agg #[.int .i64 p, .int .i64 s, .bool st, .bool sk, .bool re, .bool fe, .bool ag, .int .i64 c, .int .i64 l], .agg #[.slice t1 sm1 d1, .slice t2 sm2 d2, .int .i64 sp]] u (Ret2 w0 0 u)
  w1 : sc = 0 → (w0 = 0 ∧ 0 < a) ∨ (w0 = 1 ∧ a < 0) ∨ (w0 = -1 ∧ a = 0)
  fin : gc = 0 → xn2 = 2 ∧ gm2 = 2 ∧ ((n = 0 ∧ m = pl) ∨ (n ≠ 0 ∧ m ≠ pl)) ∧ ∃ a0 a1 y0 y1, gv = [a0, a1] ∧ ys = [y0, y1] ∧ ((pl = 0 ∧ a1 = y1 ∧ y0 ≤ a0) ∨ (pl = 1 ∧ a0 = y0 ∧ y1 ≤ a1))
theorem f6big_any (a : Option Addr) (l1 k1 : Nat) (r : Bool) (h : decide (4096 < l1) = r) (h1 : l1 ≤ 9223372036854775807) (w : World) :
    Calls Try.prog 4 #[.slice a l1 k1] w fun e w' => e = .returned (.bool r) ∧ w = w' := by
  subst h
  by_cases e1 : 4096 < l1
  · have g1 : (4096 : Int) < (l1 : Int) := by omega
    go_enter Try.func4, Try.ntmps4
    go_wp2
    go_ret
    exact ⟨by simp [e1], rfl⟩
  · have g1 : ¬ (4096 : Int) < (l1 : Int) := by omega
    go_enter Try.func4, Try.ntmps4
    go_wp2
    go_ret
    exact ⟨by simp, rfl⟩
set_option maxHeartbeats 16000000 in
set_option maxRecDepth 100000 in
theorem settled_walk {w : World} (a1 : Option Addr) (l1 k1 : Nat) (hA : Bytes w a1 l1)
    (hF : ∀ (p s c l : Int) (st sk re fe ag : Bool) (g1 o1 : Nat) (x2 : Option Addr) (xn1 xc1 xn2 xc2 : Nat) (xp pl : Int) (xs ys : List Int), xs.length = xn1 → ys.length = xn2 → xn1 ≤ xc1 → ∃ gm1 gm2 gp gc gu gv sm1 sm2 sp sc su sv n nc m mc ld lc a w0, Fs p s c l st sk re fe ag g1 o1 x2 xn1 xc1 xn2 xc2 xp pl xs ys gm1 gm2 gp gc gu gv sm1 sm2 sp sc su sv n nc m mc ld lc a w0) :
    Calls Try.prog 3 #[.slice a1 l1 k1] w fun e w' => e = .returned (.bool true) ∧ Below w.heap.size w w' := by
  have hl1 := hA.1
  have HA := Lib.hid hA
  have HF := Lib.hid hF
  clear hA hF
  rcases hlong : decide (4096 < l1) with _ | _
  rotate_left
  · have Hl := Lib.hid hlong
    clear hlong
    go_enter Try.func3, Try.ntmps3
    go_wp2_with fail
    refine (f6big_any _ _ _ true Hl.out hl1 _).mono ?_
    rintro e w' ⟨rfl, rfl⟩
    go_wp2_with fail
    go_ret
    exact ⟨rfl, Below.refl _ _⟩
  have Hl := Lib.hid hlong
  clear hlong
  go_enter Try.func3, Try.ntmps3
  go_wp2_with fail
  refine (f6big_any _ _ _ false Hl.out hl1 _).mono ?_
  rintro e w0' ⟨rfl, rfl⟩
  go_wp2_with fail
  refine (drawGive_any a1 l1 k1 _ HA.out).mono ?_
  rintro e w2 ⟨p, s, c, l, st, sk, re, fe, ag, g1, o1, x2, xn1, xc1, xn2, xc2, xp, pl, xs, ys, rfl, hro, hc1, hc2, -, -, hb⟩
  obtain ⟨gm1, gm2, gp, gc, gu, gv, sm1, sm2, sp, sc, su, sv, n, nc, m, mc, ld, lc, a, w0, hfs⟩ := HF.out p s c l st sk re fe ag g1 o1 x2 xn1 xc1 xn2 xc2 xp pl xs ys hro.l1 hro.l2 hc1
  have FS := Lib.hid hfs
  have HSg := Lib.hid (fun (t1 t2 r1 r2 : Option Addr) (d1 d2 f1 f2 : Nat) (u : World) (h : PosR u t1 t2 gm1 gm2 gu gv) (h' : PosR u r1 r2 gm1 gm2 gu gv) => specSame_any t1 t2 gm1 d1 gm2 d2 gp r1 r2 gm1 f1 gm2 f2 gp gu gv gu gv u h h')
  have HSs := Lib.hid (fun (t1 t2 r1 r2 : Option Addr) (d1 d2 f1 f2 : Nat) (u : World) (h : PosR u t1 t2 sm1 sm2 su sv) (h' : PosR u r1 r2 sm1 sm2 su sv) => specSame_any t1 t2 sm1 d1 sm2 d2 sp r1 r2 sm1 f1 sm2 f2 sp su sv su sv u h h')
  rw [same9] at HSg HSs
  have HC := Lib.hid (And.intro hc1 hc2)
  go_upto_region 4 with fail
  have HB := Lib.hid (hb.trans ((al2 w2 (.cells #[.int .i64 p, .int .i64 s, .bool st, .bool sk, .bool re, .bool fe, .bool ag, .int .i64 c, .int .i64 l] 25) (.cells #[.slice (some ⟨g1, o1, none⟩) xn1 xc1, .slice x2 xn2 xc2, .int .i64 xp] 28)).mono hb.size))
  have HR := Lib.hid ((ru_new p s c l st sk re fe ag w2 25).below (al1 _ (.cells #[.slice (some ⟨g1, o1, none⟩) xn1 xc1, .slice x2 xn2 xc2, .int .i64 xp] 28)))
  have HP : Hid (Pv9 ((w2.alloc (.cells #[.int .i64 p, .int .i64 s, .bool st, .bool sk, .bool re, .bool fe, .bool ag, .int .i64 c, .int .i64 l] 25)).alloc (.cells #[.slice (some ⟨g1, o1, none⟩) xn1 xc1, .slice x2 xn2 xc2, .int .i64 xp] 28)) (w2.heap.size + 1) (some ⟨g1, o1, none⟩) x2 xn1 xc1 xn2 xc2 xp xs ys) := by
    have h := po_new (some ⟨g1, o1, none⟩) x2 xn1 xc1 xn2 xc2 xp (w2.alloc (.cells #[.int .i64 p, .int .i64 s, .bool st, .bool sk, .bool re, .bool fe, .bool ag, .int .i64 c, .int .i64 l] 25)) 28
    rw [show (w2.alloc (.cells #[.int .i64 p, .int .i64 s, .bool st, .bool sk, .bool re, .bool fe, .bool ag, .int .i64 c, .int .i64 l] 25)).heap.size = w2.heap.size + 1 by simp] at h
    exact Lib.hid ⟨h, hro.below (al2 _ _ _)⟩
  clear hfs hro hc1 hc2 hb HF
  generalize hQ : w2.heap.size + 1 = Q at *
  generalize hR0 : w2.heap.size = R0 at *
  generalize hW : (w2.alloc (.cells #[.int .i64 p, .int .i64 s, .bool st, .bool sk, .bool re, .bool fe, .bool ag, .int .i64 c, .int .i64 l] 25)).alloc (.cells #[.slice (some ⟨g1, o1, none⟩) xn1 xc1, .slice x2 xn2 xc2, .int .i64 xp] 28) = w3 at *
  clear hW hQ hR0
  obtain ⟨rz, r0, r1, r2, r3, r4, r5, r6, r7, r8⟩ := HR.out
  obtain ⟨⟨Pz, Pd0, Pd1, Pd2⟩, -⟩ := HP.out
  go_wp2_with fail
  clear rz r0 r1 r2 r3 r4 r5 r6 r7 r8
  clear Pz Pd0 Pd1 Pd2
  refine (FS.out.gi _ HP.out.2).mono ?_
  rintro e u ⟨x1, xc1, xb1, x2, xc2, xb2, rfl, ho, -, -, hxc, -, hb⟩
  have HP := Lib.hid (HP.out.below hb)
  have HR := Lib.hid (HR.out.below hb)
  have HB := Lib.hid (HB.out.trans (hb.mono HB.out.size))
  have Hx := Lib.hid (pv9_new (xc1 := xc1) (xc2 := xc2) (xp := gp) ho.r 28)
  have HP := Lib.hid (HP.out.below (al1 _ (.cells #[.slice x1 gm1 xc1, .slice x2 gm2 xc2, .int .i64 gp] 28)))
  have HR := Lib.hid (HR.out.below (al1 _ (.cells #[.slice x1 gm1 xc1, .slice x2 gm2 xc2, .int .i64 gp] 28)))
  have HB := Lib.hid (HB.out.trans ((al1 _ (.cells #[.slice x1 gm1 xc1, .slice x2 gm2 xc2, .int .i64 gp] 28)).mono HB.out.size))
  clear hb ho
  go_upto_region 5 with fail
  generalize hZx : u.heap.size = Zx at *
  generalize hWx : u.alloc (.cells #[.slice x1 gm1 xc1, .slice x2 gm2 xc2, .int .i64 gp] 28) = wx at *
  clear hZx hWx
  obtain ⟨rz, r0, r1, r2, r3, r4, r5, r6, r7, r8⟩ := HR.out
  obtain ⟨⟨Pz, Pd0, Pd1, Pd2⟩, -⟩ := HP.out
  go_wp2_with fail
  clear rz r0 r1 r2 r3 r4 r5 r6 r7 r8
  clear Pz Pd0 Pd1 Pd2
  refine (FS.out.gs _ HP.out.2).mono ?_
  rintro e u ⟨m1, mc1, mb1, m2, mc2, mb2, rfl, ho, -, -, hmc, -, hb⟩
  have HP := Lib.hid (HP.out.below hb)
  have HR := Lib.hid (HR.out.below hb)
  have HB := Lib.hid (HB.out.trans (hb.mono HB.out.size))
  have Hx := Lib.hid (Hx.out.below hb)
  have Hm := Lib.hid (pv9_new (xc1 := mc1) (xc2 := mc2) (xp := gp) ho.r 28)
  have HP := Lib.hid (HP.out.below (al1 _ (.cells #[.slice m1 gm1 mc1, .slice m2 gm2 mc2, .int .i64 gp] 28)))
  have HR := Lib.hid (HR.out.below (al1 _ (.cells #[.slice m1 gm1 mc1, .slice m2 gm2 mc2, .int .i64 gp] 28)))
  have HB := Lib.hid (HB.out.trans ((al1 _ (.cells #[.slice m1 gm1 mc1, .slice m2 gm2 mc2, .int .i64 gp] 28)).mono HB.out.size))
  have Hx := Lib.hid (Hx.out.below (al1 _ (.cells #[.slice m1 gm1 mc1, .slice m2 gm2 mc2, .int .i64 gp] 28)))
  clear hb ho
  go_upto_region 6 with fail
  generalize hZm : u.heap.size = Zm at *
  generalize hWm : u.alloc (.cells #[.slice m1 gm1 mc1, .slice m2 gm2 mc2, .int .i64 gp] 28) = wm at *
  clear hZm hWm
  obtain ⟨rz, r0, r1, r2, r3, r4, r5, r6, r7, r8⟩ := HR.out
  obtain ⟨⟨Pz, Pd0, Pd1, Pd2⟩, -⟩ := HP.out
  go_wp2_with fail
  clear rz r0 r1 r2 r3 r4 r5 r6 r7 r8
  clear Pz Pd0 Pd1 Pd2
  refine (FS.out.si _ HP.out.2).mono ?_
  rintro e u ⟨y1, yc1, yb1, y2, yc2, yb2, rfl, ho, -, -, hyc, -, hb⟩
  have HP := Lib.hid (HP.out.below hb)
  have HR := Lib.hid (HR.out.below hb)
  have HB := Lib.hid (HB.out.trans (hb.mono HB.out.size))
  have Hx := Lib.hid (Hx.out.below hb)
  have Hm := Lib.hid (Hm.out.below hb)
  have Hy := Lib.hid (pv9_new (xc1 := yc1) (xc2 := yc2) (xp := sp) ho.r 28)
  have HP := Lib.hid (HP.out.below (al1 _ (.cells #[.slice y1 sm1 yc1, .slice y2 sm2 yc2, .int .i64 sp] 28)))
  have HR := Lib.hid (HR.out.below (al1 _ (.cells #[.slice y1 sm1 yc1, .slice y2 sm2 yc2, .int .i64 sp] 28)))
  have HB := Lib.hid (HB.out.trans ((al1 _ (.cells #[.slice y1 sm1 yc1, .slice y2 sm2 yc2, .int .i64 sp] 28)).mono HB.out.size))
  have Hx := Lib.hid (Hx.out.below (al1 _ (.cells #[.slice y1 sm1 yc1, .slice y2 sm2 yc2, .int .i64 sp] 28)))
  have Hm := Lib.hid (Hm.out.below (al1 _ (.cells #[.slice y1 sm1 yc1, .slice y2 sm2 yc2, .int .i64 sp] 28)))
  clear hb ho
  go_upto_region 7 with fail
  generalize hZy : u.heap.size = Zy at *
  generalize hWy : u.alloc (.cells #[.slice y1 sm1 yc1, .slice y2 sm2 yc2, .int .i64 sp] 28) = wy at *
  clear hZy hWy
  obtain ⟨rz, r0, r1, r2, r3, r4, r5, r6, r7, r8⟩ := HR.out
  obtain ⟨⟨Pz, Pd0, Pd1, Pd2⟩, -⟩ := HP.out
  go_wp2_with fail
  clear rz r0 r1 r2 r3 r4 r5 r6 r7 r8
  clear Pz Pd0 Pd1 Pd2
  refine (FS.out.ss _ HP.out.2).mono ?_
  rintro e u ⟨t1, tc1, tb1, t2, tc2, tb2, rfl, ho, -, -, htc, -, hb⟩
  have HP := Lib.hid (HP.out.below hb)
  have HR := Lib.hid (HR.out.below hb)
  have HB := Lib.hid (HB.out.trans (hb.mono HB.out.size))
  have Hx := Lib.hid (Hx.out.below hb)
  have Hm := Lib.hid (Hm.out.below hb)
  have Hy := Lib.hid (Hy.out.below hb)
  have Ht := Lib.hid (pv9_new (xc1 := tc1) (xc2 := tc2) (xp := sp) ho.r 28)
  have HP := Lib.hid (HP.out.below (al1 _ (.cells #[.slice t1 sm1 tc1, .slice t2 sm2 tc2, .int .i64 sp] 28)))
  have HR := Lib.hid (HR.out.below (al1 _ (.cells #[.slice t1 sm1 tc1, .slice t2 sm2 tc2, .int .i64 sp] 28)))
  have HB := Lib.hid (HB.out.trans ((al1 _ (.cells #[.slice t1 sm1 tc1, .slice t2 sm2 tc2, .int .i64 sp] 28)).mono HB.out.size))
  have Hx := Lib.hid (Hx.out.below (al1 _ (.cells #[.slice t1 sm1 tc1, .slice t2 sm2 tc2, .int .i64 sp] 28)))
  have Hm := Lib.hid (Hm.out.below (al1 _ (.cells #[.slice t1 sm1 tc1, .slice t2 sm2 tc2, .int .i64 sp] 28)))
  have Hy := Lib.hid (Hy.out.below (al1 _ (.cells #[.slice t1 sm1 tc1, .slice t2 sm2 tc2, .int .i64 sp] 28)))
  clear hb ho
  go_upto_region 8 with fail
  generalize hZt : u.heap.size = Zt at *
  generalize hWt : u.alloc (.cells #[.slice t1 sm1 tc1, .slice t2 sm2 tc2, .int .i64 sp] 28) = wt at *
  clear hZt hWt
  obtain ⟨rz, r0, r1, r2, r3, r4, r5, r6, r7, r8⟩ := HR.out
  obtain ⟨⟨Pz, Pd0, Pd1, Pd2⟩, -⟩ := HP.out
  go_wp2_with fail
  clear rz r0 r1 r2 r3 r4 r5 r6 r7 r8
  clear Pz Pd0 Pd1 Pd2
  refine (FS.out.ni _ HP.out.2).mono ?_
  rintro e u ⟨rfl, hb⟩
  have HP := Lib.hid (HP.out.below hb)
  have HR := Lib.hid (HR.out.below hb)
  have HB := Lib.hid (HB.out.trans (hb.mono HB.out.size))
  have Hx := Lib.hid (Hx.out.below hb)
  have Hm := Lib.hid (Hm.out.below hb)
  have Hy := Lib.hid (Hy.out.below hb)
  have Ht := Lib.hid (Ht.out.below hb)
  clear hb
  obtain ⟨rz, r0, r1, r2, r3, r4, r5, r6, r7, r8⟩ := HR.out
  obtain ⟨⟨Pz, Pd0, Pd1, Pd2⟩, -⟩ := HP.out
  go_wp2_with fail
  clear rz r0 r1 r2 r3 r4 r5 r6 r7 r8
  clear Pz Pd0 Pd1 Pd2
  refine (FS.out.ns _ HP.out.2).mono ?_
  rintro e u ⟨rfl, hb⟩
  have HP := Lib.hid (HP.out.below hb)
  have HR := Lib.hid (HR.out.below hb)
  have HB := Lib.hid (HB.out.trans (hb.mono HB.out.size))
  have Hx := Lib.hid (Hx.out.below hb)
  have Hm := Lib.hid (Hm.out.below hb)
  have Hy := Lib.hid (Hy.out.below hb)
  have Ht := Lib.hid (Ht.out.below hb)
  clear hb
  obtain ⟨rz, r0, r1, r2, r3, r4, r5, r6, r7, r8⟩ := HR.out
  obtain ⟨⟨Pz, Pd0, Pd1, Pd2⟩, -⟩ := HP.out
  go_wp2_with fail
  clear rz r0 r1 r2 r3 r4 r5 r6 r7 r8
  clear Pz Pd0 Pd1 Pd2
  refine (FS.out.mi _ HP.out.2).mono ?_
  rintro e u ⟨rfl, hb⟩
  have HP := Lib.hid (HP.out.below hb)
  have HR := Lib.hid (HR.out.below hb)
  have HB := Lib.hid (HB.out.trans (hb.mono HB.out.size))
  have Hx := Lib.hid (Hx.out.below hb)
  have Hm := Lib.hid (Hm.out.below hb)
  have Hy := Lib.hid (Hy.out.below hb)
  have Ht := Lib.hid (Ht.out.below hb)
  clear hb
  obtain ⟨rz, r0, r1, r2, r3, r4, r5, r6, r7, r8⟩ := HR.out
  obtain ⟨⟨Pz, Pd0, Pd1, Pd2⟩, -⟩ := HP.out
  go_wp2_with fail
  clear rz r0 r1 r2 r3 r4 r5 r6 r7 r8
  clear Pz Pd0 Pd1 Pd2
  refine (FS.out.ms _ HP.out.2).mono ?_
  rintro e u ⟨rfl, hb⟩
  have HP := Lib.hid (HP.out.below hb)
  have HR := Lib.hid (HR.out.below hb)
  have HB := Lib.hid (HB.out.trans (hb.mono HB.out.size))
  have Hx := Lib.hid (Hx.out.below hb)
  have Hm := Lib.hid (Hm.out.below hb)
  have Hy := Lib.hid (Hy.out.below hb)
  have Ht := Lib.hid (Ht.out.below hb)
  clear hb
  obtain ⟨rz, r0, r1, r2, r3, r4, r5, r6, r7, r8⟩ := HR.out
  obtain ⟨⟨Pz, Pd0, Pd1, Pd2⟩, -⟩ := HP.out
  go_wp2_with fail
  clear rz r0 r1 r2 r3 r4 r5 r6 r7 r8
  clear Pz Pd0 Pd1 Pd2
  refine (FS.out.li _ HP.out.2).mono ?_
  rintro e u ⟨rfl, hb⟩
  have HP := Lib.hid (HP.out.below hb)
  have HR := Lib.hid (HR.out.below hb)
  have HB := Lib.hid (HB.out.trans (hb.mono HB.out.size))
  have Hx := Lib.hid (Hx.out.below hb)
  have Hm := Lib.hid (Hm.out.below hb)
  have Hy := Lib.hid (Hy.out.below hb)
  have Ht := Lib.hid (Ht.out.below hb)
  clear hb
  obtain ⟨rz, r0, r1, r2, r3, r4, r5, r6, r7, r8⟩ := HR.out
  obtain ⟨⟨Pz, Pd0, Pd1, Pd2⟩, -⟩ := HP.out
  go_wp2_with fail
  clear rz r0 r1 r2 r3 r4 r5 r6 r7 r8
  clear Pz Pd0 Pd1 Pd2
  refine (FS.out.ls _ HP.out.2).mono ?_
  rintro e u ⟨rfl, hb⟩
  have HP := Lib.hid (HP.out.below hb)
  have HR := Lib.hid (HR.out.below hb)
  have HB := Lib.hid (HB.out.trans (hb.mono HB.out.size))
  have Hx := Lib.hid (Hx.out.below hb)
  have Hm := Lib.hid (Hm.out.below hb)
  have Hy := Lib.hid (Hy.out.below hb)
  have Ht := Lib.hid (Ht.out.below hb)
  clear hb
  obtain ⟨⟨xz, xd0, xd1, xd2⟩, -⟩ := Hx.out
  obtain ⟨⟨mz, md0, md1, md2⟩, -⟩ := Hm.out
  go_wp2_with fail
  clear xz xd0 xd1 xd2
  clear mz md0 md1 md2
  refine (HSg.out _ _ _ _ _ _ _ _ _ Hx.out.2 Hm.out.2).mono ?_
  rintro e u ⟨rfl, hb⟩
  have HP := Lib.hid (HP.out.below hb)
  have HR := Lib.hid (HR.out.below hb)
  have HB := Lib.hid (HB.out.trans (hb.mono HB.out.size))
  have Hx := Lib.hid (Hx.out.below hb)
  have Hm := Lib.hid (Hm.out.below hb)
  have Hy := Lib.hid (Hy.out.below hb)
  have Ht := Lib.hid (Ht.out.below hb)
  clear hb
  obtain ⟨⟨yz, yd0, yd1, yd2⟩, -⟩ := Hy.out
  obtain ⟨⟨tz, td0, td1, td2⟩, -⟩ := Ht.out
  go_wp2_with fail
  clear yz yd0 yd1 yd2
  clear tz td0 td1 td2
  refine (HSs.out _ _ _ _ _ _ _ _ _ Hy.out.2 Ht.out.2).mono ?_
  rintro e u ⟨rfl, hb⟩
  have HP := Lib.hid (HP.out.below hb)
  have HR := Lib.hid (HR.out.below hb)
  have HB := Lib.hid (HB.out.trans (hb.mono HB.out.size))
  have Hx := Lib.hid (Hx.out.below hb)
  have Hm := Lib.hid (Hm.out.below hb)
  have Hy := Lib.hid (Hy.out.below hb)
  have Ht := Lib.hid (Ht.out.below hb)
  clear hb
  have HYC := Lib.hid hyc
  clear hxc hmc hyc htc
  by_cases hsc : sc = 0
  rotate_left
  · have hgc := FS.out.no hsc
    have d1 : (sc == 0) = false := by simpa using hsc
    have d2 : (gc != 0) = true := by simpa using hgc
    go_wp2_with fail
    go_ret
    exact ⟨rfl, HB.out⟩
  subst hsc
  have HAg := Lib.hid (FS.out.ag2 rfl)
  have HSo := Lib.hid (FS.out.so rfl)
  have HLo := Lib.hid (FS.out.lo rfl)
  have HMo := Lib.hid (FS.out.mo rfl)
  have HW1 := Lib.hid (FS.out.w1 rfl)
  obtain ⟨rz, r0, r1, r2, r3, r4, r5, r6, r7, r8⟩ := HR.out
  obtain ⟨⟨yz, yd0, yd1, yd2⟩, -⟩ := Hy.out
  go_wp2_with fail
  clear rz r0 r1 r2 r3 r4 r5 r6 r7 r8
  clear yz yd0 yd1 yd2
  refine (HAg.out _ _ _ _ _ Hy.out.2 HYC.out).mono ?_
  rintro e u ⟨g1, gc1, gb1, g2, gc2, gb2, rfl, ho, -, -, hgc, -, hb⟩
  have HP := Lib.hid (HP.out.below hb)
  have HR := Lib.hid (HR.out.below hb)
  have HB := Lib.hid (HB.out.trans (hb.mono HB.out.size))
  have Hx := Lib.hid (Hx.out.below hb)
  have Hm := Lib.hid (Hm.out.below hb)
  have Hy := Lib.hid (Hy.out.below hb)
  have Ht := Lib.hid (Ht.out.below hb)
  have Hg := Lib.hid (pv9_new (xc1 := gc1) (xc2 := gc2) (xp := sp) ho.r 28)
  have HP := Lib.hid (HP.out.below (al1 _ (.cells #[.slice g1 sm1 gc1, .slice g2 sm2 gc2, .int .i64 sp] 28)))
  have HR := Lib.hid (HR.out.below (al1 _ (.cells #[.slice g1 sm1 gc1, .slice g2 sm2 gc2, .int .i64 sp] 28)))
  have HB := Lib.hid (HB.out.trans ((al1 _ (.cells #[.slice g1 sm1 gc1, .slice g2 sm2 gc2, .int .i64 sp] 28)).mono HB.out.size))
  have Hx := Lib.hid (Hx.out.below (al1 _ (.cells #[.slice g1 sm1 gc1, .slice g2 sm2 gc2, .int .i64 sp] 28)))
  have Hm := Lib.hid (Hm.out.below (al1 _ (.cells #[.slice g1 sm1 gc1, .slice g2 sm2 gc2, .int .i64 sp] 28)))
  have Hy := Lib.hid (Hy.out.below (al1 _ (.cells #[.slice g1 sm1 gc1, .slice g2 sm2 gc2, .int .i64 sp] 28)))
  have Ht := Lib.hid (Ht.out.below (al1 _ (.cells #[.slice g1 sm1 gc1, .slice g2 sm2 gc2, .int .i64 sp] 28)))
  clear hb ho
  go_upto_region 18 with fail
  generalize hZg : u.heap.size = Zg at *
  generalize hWg : u.alloc (.cells #[.slice g1 sm1 gc1, .slice g2 sm2 gc2, .int .i64 sp] 28) = wg at *
  clear hZg hWg
  obtain ⟨rz, r0, r1, r2, r3, r4, r5, r6, r7, r8⟩ := HR.out
  obtain ⟨⟨yz, yd0, yd1, yd2⟩, -⟩ := Hy.out
  go_wp2_with fail
  clear rz r0 r1 r2 r3 r4 r5 r6 r7 r8
  clear yz yd0 yd1 yd2
  refine (HSo.out _ _ _ _ _ Hy.out.2).mono ?_
  rintro e u ⟨rfl, hb⟩
  have HP := Lib.hid (HP.out.below hb)
  have HR := Lib.hid (HR.out.below hb)
  have HB := Lib.hid (HB.out.trans (hb.mono HB.out.size))
  have Hx := Lib.hid (Hx.out.below hb)
  have Hm := Lib.hid (Hm.out.below hb)
  have Hy := Lib.hid (Hy.out.below hb)
  have Ht := Lib.hid (Ht.out.below hb)
  have Hg := Lib.hid (Hg.out.below hb)
  clear hb
  obtain ⟨rz, r0, r1, r2, r3, r4, r5, r6, r7, r8⟩ := HR.out
  obtain ⟨⟨yz, yd0, yd1, yd2⟩, -⟩ := Hy.out
  go_wp2_with fail
  clear rz r0 r1 r2 r3 r4 r5 r6 r7 r8
  clear yz yd0 yd1 yd2
  refine (HLo.out _ _ _ _ _ Hy.out.2).mono ?_
  rintro e u ⟨rfl, hb⟩
  have HP := Lib.hid (HP.out.below hb)
  have HR := Lib.hid (HR.out.below hb)
  have HB := Lib.hid (HB.out.trans (hb.mono HB.out.size))
  have Hx := Lib.hid (Hx.out.below hb)
  have Hm := Lib.hid (Hm.out.below hb)
  have Hy := Lib.hid (Hy.out.below hb)
  have Ht := Lib.hid (Ht.out.below hb)
  have Hg := Lib.hid (Hg.out.below hb)
  clear hb
  obtain ⟨⟨gz, gd0, gd1, gd2⟩, -⟩ := Hg.out
  obtain ⟨⟨yz, yd0, yd1, yd2⟩, -⟩ := Hy.out
  go_wp2_with fail
  clear gz gd0 gd1 gd2
  clear yz yd0 yd1 yd2
  refine (HSs.out _ _ _ _ _ _ _ _ _ Hg.out.2 Hy.out.2).mono ?_
  rintro e u ⟨rfl, hb⟩
  have HP := Lib.hid (HP.out.below hb)
  have HR := Lib.hid (HR.out.below hb)
  have HB := Lib.hid (HB.out.trans (hb.mono HB.out.size))
  have Hx := Lib.hid (Hx.out.below hb)
  have Hm := Lib.hid (Hm.out.below hb)
  have Hy := Lib.hid (Hy.out.below hb)
  have Ht := Lib.hid (Ht.out.below hb)
  have Hg := Lib.hid (Hg.out.below hb)
  clear hb
  obtain ⟨rz, r0, r1, r2, r3, r4, r5, r6, r7, r8⟩ := HR.out
  obtain ⟨⟨yz, yd0, yd1, yd2⟩, -⟩ := Hy.out
  go_wp2_with fail
  clear rz r0 r1 r2 r3 r4 r5 r6 r7 r8
  clear yz yd0 yd1 yd2
  refine (HMo.out _ _ _ _ _ Hy.out.2).mono ?_
  rintro e u ⟨rfl, hb⟩
  have HP := Lib.hid (HP.out.below hb)
  have HR := Lib.hid (HR.out.below hb)
  have HB := Lib.hid (HB.out.trans (hb.mono HB.out.size))
  have Hx := Lib.hid (Hx.out.below hb)
  have Hm := Lib.hid (Hm.out.below hb)
  have Hy := Lib.hid (Hy.out.below hb)
  have Ht := Lib.hid (Ht.out.below hb)
  have Hg := Lib.hid (Hg.out.below hb)
  clear hb
  have hw1 := HW1.out
  have hE : (w0 == 0) = decide (0 < a) ∧ (w0 == 1) = decide (a < 0) := by
    rcases hw1 with ⟨rfl, h⟩ | ⟨rfl, h⟩ | ⟨rfl, h⟩
    · exact ⟨by rw [decide_eq_true h]; rfl, by rw [decide_eq_false (by omega)]; rfl⟩
    · exact ⟨by rw [decide_eq_false (by omega)]; rfl, by rw [decide_eq_true h]; rfl⟩
    · exact ⟨by rw [decide_eq_false (by omega)]; rfl, by rw [decide_eq_false (by omega)]; rfl⟩
  by_cases hgc : gc = 0
  rotate_left
  · have d2 : (gc != 0) = true := by simpa using hgc
    rcases hw1 with ⟨rfl, h⟩ | ⟨rfl, h⟩ | ⟨rfl, h⟩
    all_goals
      try (have h' : ¬ (0 < a) := by omega)
      try (have h'' : ¬ (a < 0) := by omega)
      go_wp2_with fail
      go_ret
      exact ⟨rfl, HB.out⟩
  subst hgc
  obtain ⟨rfl, rfl, hnm, a0, a1', y0, y1, rfl, rfl, hpl⟩ := FS.out.fin rfl
  have HNM := Lib.hid hnm
  obtain ⟨gX, oX, rfl, hgX, cX0, cX1⟩ := row_two Hx.out.2.r2
  obtain ⟨gP, oP, rfl, hgP, cP0, cP1⟩ := row_two HP.out.2.r2
  obtain ⟨⟨xz, xd0, xd1, xd2⟩, -⟩ := Hx.out
  obtain ⟨⟨Pz, Pd0, Pd1, Pd2⟩, -⟩ := HP.out
  have hneq : (n == 0) = (m == pl) := by
    rcases hnm with ⟨h1, h2⟩ | ⟨h1, h2⟩
    · rw [h1, h2]; simp
    · have e1 : (n == 0) = false := by simpa using h1
      have e2 : (m == pl) = false := by simpa using h2
      rw [e1, e2]
  clear hnm
  rcases hw1 with ⟨rfl, h⟩ | ⟨rfl, h⟩ | ⟨rfl, h⟩
  all_goals
    try (have h' : ¬ (0 < a) := by omega)
    try (have h'' : ¬ (a < 0) := by omega)
    rcases hpl with ⟨rfl, rfl, hle⟩ | ⟨rfl, rfl, hle⟩
    all_goals
      go_upto_region 27 with fail
      go_quiet (fail)
      go_wp2_with fail
      go_ret
      exact ⟨rfl, below_dn HB.out _⟩
end Go.Proofs.Ytgogjjkecbgbiaa
