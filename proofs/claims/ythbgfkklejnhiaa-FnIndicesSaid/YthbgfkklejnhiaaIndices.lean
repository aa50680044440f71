/- FnIndices: a position is restored from its index, up to stores and sides, and indices follow one another: for every input. No conditions. -/
import Derived.Test.YthbgfkklejnhiaaFew
import Derived.Test.YthbgfkklejnhiaaN18
import Derived.Test.YthbgfkklejnhiaaN19
import Derived.Test.YthbgfkklejnhiaaSame4
import Derived.Test.YthbgfkklejnhiaaSum4
namespace Go.Proofs.Ythbgfkklejnhiaa
open Go.Joins Go.ChangeShapes Go.WideShapes Go.ChangeAt Go.RowKit Go.Deep
set_option linter.unusedVariables false

theorem turn_turn {P : Nat} {xs : List Int} (h : xs.length = 2 * P) : turnL P (turnL P xs) = xs := by
  have h1 : (xs.drop P).length = P := by rw [List.length_drop]; omega
  unfold turnL
  rw [List.drop_left' h1, List.take_left' h1, List.take_append_drop]
theorem vw_turn {P : Nat} {pl : Int} {xs : List Int} (h : xs.length = 2 * P) (hp : pl = 0 ∨ pl = 1) : vwL (P : Int) (1 - pl) (turnL P xs) = vwL (P : Int) pl xs := by
  unfold vwL
  rw [Int.toNat_natCast]
  rcases hp with rfl | rfl
  · rw [if_pos (by omega), if_neg (by omega), turn_turn h]
  · rw [if_neg (by omega), if_pos rfl]
theorem vw_vals (P : Nat) (xs : List Int) : vwL (P : Int) 0 xs = xs := if_neg (by omega)
/-- A position in memory, with its rows. -/
def Pv (u : World) (z : Nat) (x1 x2 : Option Addr) (xn1 xc1 xn2 xc2 : Nat) (xp : Int) (xs ys : List Int) : Prop := PoAt u z x1 x2 xn1 xc1 xn2 xc2 xp ∧ PosR u x1 x2 xn1 xn2 xs ys
theorem Pv.below {u v : World} {z : Nat} {x1 x2 : Option Addr} {xn1 xc1 xn2 xc2 : Nat} {xp : Int} {xs ys : List Int} (h : Pv u z x1 x2 xn1 xc1 xn2 xc2 xp xs ys) (k : Below u.heap.size u v) : Pv v z x1 x2 xn1 xc1 xn2 xc2 xp xs ys := ⟨h.1.below k, h.2.below k⟩
theorem pv_new {u : World} {x1 x2 : Option Addr} {xn1 xc1 xn2 xc2 : Nat} {xp : Int} {xs ys : List Int} (h : PosR u x1 x2 xn1 xn2 xs ys) (T : TypeId) : Pv (u.alloc (.cells #[.slice x1 xn1 xc1, .slice x2 xn2 xc2, .int .i64 xp] T)) u.heap.size x1 x2 xn1 xc1 xn2 xc2 xp xs ys := ⟨po_new x1 x2 xn1 xc1 xn2 xc2 xp u T, h.below (al1 _ _)⟩
theorem implAt_yes (P S R : Nat) (s c l : Int) (st sk re fe ag : Bool) (i : Int) (w : World) (hi : I64 i) (hok : okR (P : Int) s c l st ag = true) (hP : 1 ≤ P) (hP2 : P ≤ 8) (hS : Rt P i S) (hR : i = (bf P S : Int) + (R : Int)) (hlt : R < cnt S (2 * P)) :
    Calls Try.prog 18 #[.agg #[.int .i64 P, .int .i64 s, .bool st, .bool sk, .bool re, .bool fe, .bool ag, .int .i64 c, .int .i64 l], .int .i64 i] w (PosZ (2 * P) 2 0 0 (vals (unr (2 * P - 1) S R)) [0, 0] w) :=
  implAt_gen P s c l st sk re fe ag i w hi hok _ _ _ _ _ (fun M u hM => by
    obtain rfl := hM.one hP hS
    exact implPa_yes P M R s c l st sk re fe ag _ u hok hM.c (by omega) hlt) (fun _ _ => rfl) (fun h => absurd hS (h S))
set_option maxHeartbeats 8000000 in
set_option maxRecDepth 100000 in
theorem walk_FnIndices {w : World} (a1 : Option Addr) (l1 k1 : Nat) (hA : Bytes w a1 l1) (a2 : Option Addr) (l2 k2 : Nat) (hB : Bytes w a2 l2) :
    Calls Try.prog 3 #[.slice a1 l1 k1, .slice a2 l2 k2] w fun e w' => e = .returned (.bool true) ∧ Below w.heap.size w w' := by
  have hl1 := hA.1
  have hl2 := hB.1
  have HA := Lib.hid hA
  clear hA hB
  rcases hlong : (decide (3000 < l1) || decide (3000 < l2)) with _ | _
  rotate_left
  · have Hl := Lib.hid hlong
    clear hlong
    go_enter Try.func3, Try.ntmps3
    go_wp2_with fail
    refine (long_any _ _ _ _ _ _ true Hl.out hl1 hl2 _).mono ?_
    rintro e w' ⟨rfl, rfl⟩
    go_wp2_with fail
    go_ret
    exact ⟨rfl, Below.refl _ _⟩
  have Hl := Lib.hid hlong
  clear hlong
  go_enter Try.func3, Try.ntmps3
  go_wp2_with fail
  refine (long_any _ _ _ _ _ _ false Hl.out hl1 hl2 _).mono ?_
  rintro e w0 ⟨rfl, rfl⟩
  go_wp2_with fail
  refine (a2few_any a1 l1 k1 _ HA.out).mono ?_
  rintro e w2 ⟨P, s, c, l, st, sk, re, fe, ag, g1, c1, g2, c2, pl, xs, y0, y1, ⟨hP, hP3, ht18⟩, hok, hk, rfl, ho, -, -, hc1, hc2, hb⟩
  -- the numbers
  obtain ⟨P', S, zs, y0', y1', hPP, -, -, -, -, -, hpp, -, hv'⟩ := pos_parts hk ho.l1 ho.l2
  obtain rfl : P = P' := by omega
  have hv := hv'
  have hS18 : S ≤ 18 := by have := hv.tot; omega
  have hb1 : bf P (S + 1) ≤ 1000000000 := Nat.le_trans (bf_few hP hP3 (by omega)) (by omega)
  have hb2 : bf P (S + 1 + 1) ≤ 1000000000 := Nat.le_trans (bf_few hP hP3 (by omega)) (by omega)
  have hcd := n13_yes (P := P) (S := S) (by omega) hb1
  have hcd2 := n13_yes (P := P) (S := S + 1) (by omega) hb2
  obtain ⟨e1, e2⟩ := nb_some hv hcd
  have hrk := vw_rk hv (by omega) hb1
  have hsu := bf_succ (P := P) (by omega) S
  have hlz : (vals zs).length = 2 * P := by rw [vals_len, hv.len]
  have hunr : unr (2 * P - 1) S (rk zs) = zs := by rw [← hv.sum]; exact unr_rk _ _ (by rw [hv.len]; omega)
  have hrc : rk zs < cnt S (2 * P) := by omega
  have hbs := bf_few (P := P) (S := S + 1) hP hP3 (by omega)
  have hRt : Rt P ((bf P S : Int) + (rk zs : Int)) S := ⟨by omega, hb1, by omega, by omega⟩
  have hI : I64 ((bf P S : Int) + (rk zs : Int)) := by unfold I64; omega
  have hseed : tot (vals zs) = (S : Int) := by rw [vals_tot, hv.sum]
  have hkq : okP (okR (P : Int) s c l st ag) (P : Int) (2 * P) 2 0 (vals zs) [0, 0] = true := by
    obtain ⟨h1, h2, -, -, h3⟩ := okP_parts hk
    rw [h1]
    unfold okP seedB
    rw [posB_vals, hseed]
    have h5 : tot ([0, 0] : List Int) = 0 := rfl
    rw [h5]
    simp [posB]
    omega
  have hkt : okP (okR (P : Int) s c l st ag) (P : Int) (2 * P) 2 (1 - pl) (turnL P xs) [y1, y0] = true := by
    obtain ⟨h1, h2, -, -, h3⟩ := okP_parts hk
    obtain ⟨h4, h5, h6⟩ := seedB_parts h3
    rw [h1]
    unfold okP seedB
    rw [posB_turn h4, tot_turn]
    have e5 : tot [y1, y0] = tot [y0, y1] := by simp [tot]; omega
    have e6 : posB [y1, y0] = true := by
      simp [posB] at h5 ⊢
      exact ⟨h5.2, h5.1⟩
    rw [e5, e6, decide_eq_true h6]
    simp
    omega
  have hs1 : snV true true (P : Int) pl (1 - pl) xs (turnL P xs) = true := by
    have ht : tot xs = (S : Int) := hv.tot
    rw [sn_3 (by rw [ht]; exact hcd) (by rw [tot_turn, ht]; exact hcd)]
    unfold ixV
    rw [tot_turn, vw_turn ho.l1 hpp]
    exact decide_eq_true rfl
  have hs2 : snV true true (P : Int) pl 0 xs (vals zs) = true := by
    have ht : tot xs = (S : Int) := hv.tot
    rw [sn_3 (by rw [ht]; exact hcd) (by rw [hseed]; exact hcd)]
    unfold ixV
    rw [hseed, ht, hv.eq, vw_vals]
    exact decide_eq_true rfl
  -- the contracts
  have HIx := Lib.hid (fun (u : World) (h : PosR u (some ⟨g1, 0, none⟩) (some ⟨g2, 0, none⟩) (2 * P) 2 xs [y0, y1]) => implIx_any (P : Int) s c l st sk re fe ag _ _ (2 * P) c1 2 c2 pl xs [y0, y1] u h hc1 true hk)
  have HNb := Lib.hid (fun (u : World) (h : PosR u (some ⟨g1, 0, none⟩) (some ⟨g2, 0, none⟩) (2 * P) 2 xs [y0, y1]) => implNb_any (P : Int) s c l st sk re fe ag _ _ (2 * P) c1 2 c2 pl xs [y0, y1] u h hc1 true hk)
  have HSo := Lib.hid (fun (u : World) (h : PosR u (some ⟨g1, 0, none⟩) (some ⟨g2, 0, none⟩) (2 * P) 2 xs [y0, y1]) => specOn_any (P : Int) s c l st sk re fe ag _ _ (2 * P) c1 2 c2 pl xs [y0, y1] u h true hk)
  rw [hv.tot] at HIx HNb HSo
  rw [e2, hcd] at HIx
  rw [show onV true (S : Int) = (S : Int) from rfl, show onC true = 0 from rfl] at HSo
  rw [e1, hcd] at HNb
  have HF := Lib.hid (fun u => implFI_any (P : Int) s c l st sk re fe ag (S : Int) u)
  have HC := Lib.hid (fun u => implCP_any (P : Int) s c l st sk re fe ag (S : Int) u)
  have HF1 : Hid (∀ (n : Int) (u : World), n = ((S + 1 : Nat) : Int) → Calls Try.prog 15 #[.agg #[.int .i64 P, .int .i64 s, .bool st, .bool sk, .bool re, .bool fe, .bool ag, .int .i64 c, .int .i64 l], .int .i64 n] u fun e w' => e = .returned (.tuple #[.int .i64 (bf P (S + 1) : Int), .int .i64 0]) ∧ Below u.heap.size u w') := Lib.hid (by
    rintro n u rfl
    have h := implFI_any (P : Int) s c l st sk re fe ag ((S + 1 : Nat) : Int) u
    rwa [hok, (n13_some hcd2).2, hcd2] at h)
  rw [hok, (n13_some hcd).2, hcd] at HF
  rw [hok, (n13_some hcd).1, hcd] at HC
  have HAt := Lib.hid (fun u => implAt_yes P S (rk zs) s c l st sk re fe ag _ u hI hok (by omega) (by omega) hRt rfl hrc)
  have HPa := Lib.hid (fun u => implPa_yes P S (rk zs) s c l st sk re fe ag _ u hok hcd rfl hrc)
  rw [hunr] at HAt HPa
  have HVw := Lib.hid (fun (u : World) (h : PosR u (some ⟨g1, 0, none⟩) (some ⟨g2, 0, none⟩) (2 * P) 2 xs [y0, y1]) => specVw_any P s c l st sk re fe ag _ _ c1 c2 pl xs y0 y1 u h hP (by omega) hc1 hpp hk)
  rw [hv.eq] at HVw
  have HTu := Lib.hid (fun (u : World) (h : PosR u (some ⟨g1, 0, none⟩) (some ⟨g2, 0, none⟩) (2 * P) 2 xs [y0, y1]) => specTurn_yes P s c l st sk re fe ag _ _ (2 * P) c1 2 c2 pl xs y0 y1 u h hP (by omega) rfl rfl hc1 (by omega) (by omega) hk)
  have HS1 := Lib.hid (fun (t1 t2 : Option Addr) (d1 d2 : Nat) (u : World) (h : PosR u (some ⟨g1, 0, none⟩) (some ⟨g2, 0, none⟩) (2 * P) 2 xs [y0, y1]) (h' : PosR u t1 t2 (2 * P) 2 (turnL P xs) [y1, y0]) (hd : 2 * P ≤ d1) => implSn_any (P : Int) s c l st sk re fe ag _ _ (2 * P) c1 2 c2 pl t1 t2 (2 * P) d1 2 d2 (1 - pl) xs [y0, y1] (turnL P xs) [y1, y0] u h h' hc1 hd true true hk hkt)
  rw [hs1] at HS1
  have HS2 := Lib.hid (fun (t1 t2 : Option Addr) (d1 d2 : Nat) (u : World) (h : PosR u (some ⟨g1, 0, none⟩) (some ⟨g2, 0, none⟩) (2 * P) 2 xs [y0, y1]) (h' : PosR u t1 t2 (2 * P) 2 (vals zs) [0, 0]) (hd : 2 * P ≤ d1) => implSn_any (P : Int) s c l st sk re fe ag _ _ (2 * P) c1 2 c2 pl t1 t2 (2 * P) d1 2 d2 0 xs [y0, y1] (vals zs) [0, 0] u h h' hc1 hd true true hk hkq)
  rw [hs2] at HS2
  have HNum := Lib.hid (fun (t1 t2 : Option Addr) (d1 d2 : Nat) (u : World) (h1 : RowN u t1 (vals zs)) (h2 : RowN u t2 (vals zs)) => a2Num_any t1 t2 d1 d2 (2 * P) (vals zs) u hlz h1 h2)
  have HSum := Lib.hid (fun (t : Option Addr) (d : Nat) (u : World) (h : RowN u t [0, 0]) => a2Sum_any t d 2 [0, 0] u rfl h (by decide))
  have HSame := Lib.hid (fun (t1 t2 r1 r2 : Option Addr) (d1 d2 f1 f2 : Nat) (u : World) (h : PosR u t1 t2 (2 * P) 2 (vals zs) [0, 0]) (h' : PosR u r1 r2 (2 * P) 2 (vals zs) [0, 0]) => specSame_any t1 t2 (2 * P) d1 2 d2 0 r1 r2 (2 * P) f1 2 f2 0 (vals zs) [0, 0] (vals zs) [0, 0] u h h')
  have hsb : sameB (vals zs) (vals zs) [0, 0] [0, 0] 0 0 = true := by unfold sameB; rw [decide_eq_true rfl, decide_eq_true rfl]; rfl
  rw [hsb] at HSame
  have HX := Lib.hid ho.r
  have HB := Lib.hid (show OnW w w2 from hb)
  have q1 : (rk zs : Int) < (cnt S (2 * P) : Int) := by omega
  have q2 : ¬ ((rk zs : Int) < 0) := by omega
  have HE : Hid ((bf P (S + 1) : Int) = (bf P S : Int) + (cnt S (2 * P) : Int)) := Lib.hid (by omega)
  have q3 : (bf P S : Int) + (rk zs : Int) ≤ 1000000000 := by omega
  have q4 : (bf P S : Int) ≤ 1000000000 := by omega
  have q5 : (cnt S (2 * P) : Int) ≤ 1000000000 := by omega
  have q6 : 0 ≤ (bf P S : Int) := by omega
  have q7 : ¬ ((cnt S (2 * P) : Int) ≤ (rk zs : Int)) := by omega
  clear hsb hs1 hs2 hkt hkq hseed hI hRt hbs hrc hunr hlz hsu hrk e1 e2 hcd hcd2 hb1 hb2 hv hv' ho hb hok hk hPP ht18 hpp hc2
  generalize (bf P (S + 1) : Int) = B1 at *
  generalize (bf P S : Int) = B at *
  generalize (rk zs : Int) = V at *
  generalize (cnt S (2 * P) : Int) = C at *
  generalize vals zs = L at *
  generalize hvs : (if pl = 1 then [y1, y0] else [y0, y1]) = vs at *
  clear hvs
  generalize turnL P xs = ts at *
  go_wp2_with fail
  have HP : Hid (Pv ((w2.alloc (.cells #[.int .i64 P, .int .i64 s, .bool st, .bool sk, .bool re, .bool fe, .bool ag, .int .i64 c, .int .i64 l] 25)).alloc (.cells #[.slice (some ⟨g1, 0, none⟩) (2 * P) c1, .slice (some ⟨g2, 0, none⟩) 2 c2, .int .i64 pl] 28)) (w2.heap.size + 1) (some ⟨g1, 0, none⟩) (some ⟨g2, 0, none⟩) (2 * P) c1 2 c2 pl xs [y0, y1]) := by
    have h := po_new (some ⟨g1, 0, none⟩) (some ⟨g2, 0, none⟩) (2 * P) c1 2 c2 pl (w2.alloc (.cells #[.int .i64 P, .int .i64 s, .bool st, .bool sk, .bool re, .bool fe, .bool ag, .int .i64 c, .int .i64 l] 25)) 28
    exact Lib.hid ⟨by simpa using h, HX.out.below (al2 _ _ _)⟩
  have HR := Lib.hid ((ru_new (P : Int) s c l st sk re fe ag w2 25).below (al1 _ (.cells #[.slice (some ⟨g1, 0, none⟩) (2 * P) c1, .slice (some ⟨g2, 0, none⟩) 2 c2, .int .i64 pl] 28)))
  have HB := Lib.hid (HB.out.below (al2 _ (.cells #[.int .i64 P, .int .i64 s, .bool st, .bool sk, .bool re, .bool fe, .bool ag, .int .i64 c, .int .i64 l] 25) (.cells #[.slice (some ⟨g1, 0, none⟩) (2 * P) c1, .slice (some ⟨g2, 0, none⟩) 2 c2, .int .i64 pl] 28)))
  clear HX
  generalize hQ : w2.heap.size + 1 = Q at *
  generalize hR0 : w2.heap.size = R0 at *
  generalize hW : (w2.alloc (.cells #[.int .i64 P, .int .i64 s, .bool st, .bool sk, .bool re, .bool fe, .bool ag, .int .i64 c, .int .i64 l] 25)).alloc (.cells #[.slice (some ⟨g1, 0, none⟩) (2 * P) c1, .slice (some ⟨g2, 0, none⟩) 2 c2, .int .i64 pl] 28) = w3 at *
  clear hW hQ hR0
  obtain ⟨rz, r0, r1, r2, r3, r4, r5, r6, r7, r8⟩ := HR.out
  obtain ⟨⟨pz, p0, p1, p2⟩, -⟩ := HP.out
  go_wp2_with fail
  clear rz r0 r1 r2 r3 r4 r5 r6 r7 r8
  clear pz p0 p1 p2
  refine (HIx.out _ HP.out.2).mono ?_
  rintro e u ⟨rfl, hb⟩
  have HP := Lib.hid (HP.out.below hb)
  have HR := Lib.hid (HR.out.below hb)
  have HB := Lib.hid (HB.out.below hb)
  clear hb
  obtain ⟨rz, r0, r1, r2, r3, r4, r5, r6, r7, r8⟩ := HR.out
  obtain ⟨⟨pz, p0, p1, p2⟩, -⟩ := HP.out
  go_wp2_with fail
  clear rz r0 r1 r2 r3 r4 r5 r6 r7 r8
  clear pz p0 p1 p2
  refine (HSo.out _ HP.out.2).mono ?_
  rintro e u ⟨rfl, hb⟩
  have HP := Lib.hid (HP.out.below hb)
  have HR := Lib.hid (HR.out.below hb)
  have HB := Lib.hid (HB.out.below hb)
  clear hb
  obtain ⟨rz, r0, r1, r2, r3, r4, r5, r6, r7, r8⟩ := HR.out
  go_wp2_with fail
  clear rz r0 r1 r2 r3 r4 r5 r6 r7 r8
  refine (HF.out _).mono ?_
  rintro e u ⟨rfl, hb⟩
  have HP := Lib.hid (HP.out.below hb)
  have HR := Lib.hid (HR.out.below hb)
  have HB := Lib.hid (HB.out.below hb)
  clear hb
  obtain ⟨rz, r0, r1, r2, r3, r4, r5, r6, r7, r8⟩ := HR.out
  go_wp2_with fail
  clear rz r0 r1 r2 r3 r4 r5 r6 r7 r8
  refine (HC.out _).mono ?_
  rintro e u ⟨rfl, hb⟩
  have HP := Lib.hid (HP.out.below hb)
  have HR := Lib.hid (HR.out.below hb)
  have HB := Lib.hid (HB.out.below hb)
  clear hb
  obtain ⟨rz, r0, r1, r2, r3, r4, r5, r6, r7, r8⟩ := HR.out
  obtain ⟨⟨pz, p0, p1, p2⟩, -⟩ := HP.out
  go_wp2_with fail
  clear rz r0 r1 r2 r3 r4 r5 r6 r7 r8
  clear pz p0 p1 p2
  refine (HNb.out _ HP.out.2).mono ?_
  rintro e u ⟨rfl, hb⟩
  have HP := Lib.hid (HP.out.below hb)
  have HR := Lib.hid (HR.out.below hb)
  have HB := Lib.hid (HB.out.below hb)
  clear hb
  obtain ⟨rz, r0, r1, r2, r3, r4, r5, r6, r7, r8⟩ := HR.out
  go_wp2_with fail
  clear rz r0 r1 r2 r3 r4 r5 r6 r7 r8
  refine (HAt.out _).mono ?_
  rintro e u ⟨m1, mc1, mb1, m2, mc2, mb2, rfl, ho, -, -, hmc, -, hb⟩
  have HP := Lib.hid (HP.out.below hb)
  have HR := Lib.hid (HR.out.below hb)
  have HB := Lib.hid (HB.out.below hb)
  have Hm := Lib.hid (pv_new (xc1 := mc1) (xc2 := mc2) (xp := 0) ho.r 28)
  have HP := Lib.hid (HP.out.below (al1 _ (.cells #[.slice m1 (2 * P) mc1, .slice m2 2 mc2, .int .i64 (0)] 28)))
  have HR := Lib.hid (HR.out.below (al1 _ (.cells #[.slice m1 (2 * P) mc1, .slice m2 2 mc2, .int .i64 (0)] 28)))
  have HB := Lib.hid (HB.out.below (al1 _ (.cells #[.slice m1 (2 * P) mc1, .slice m2 2 mc2, .int .i64 (0)] 28)))
  clear hb ho
  go_upto_region 12 with fail
  generalize hZm : u.heap.size = Zm at *
  generalize hWm : u.alloc (.cells #[.slice m1 (2 * P) mc1, .slice m2 2 mc2, .int .i64 (0)] 28) = wm at *
  clear hZm hWm
  obtain ⟨rz, r0, r1, r2, r3, r4, r5, r6, r7, r8⟩ := HR.out
  obtain ⟨⟨pz, p0, p1, p2⟩, -⟩ := HP.out
  go_wp2_with fail
  clear rz r0 r1 r2 r3 r4 r5 r6 r7 r8
  clear pz p0 p1 p2
  refine (HVw.out _ HP.out.2).mono ?_
  rintro e u ⟨v1, vc1, vb1, v2, vc2, vb2, rfl, ho, -, -, hvc, -, hb⟩
  have HP := Lib.hid (HP.out.below hb)
  have HR := Lib.hid (HR.out.below hb)
  have HB := Lib.hid (HB.out.below hb)
  have Hm := Lib.hid (Hm.out.below hb)
  have Hv := Lib.hid (pv_new (xc1 := vc1) (xc2 := vc2) (xp := 0) ho.r 28)
  have HP := Lib.hid (HP.out.below (al1 _ (.cells #[.slice v1 (2 * P) vc1, .slice v2 2 vc2, .int .i64 (0)] 28)))
  have HR := Lib.hid (HR.out.below (al1 _ (.cells #[.slice v1 (2 * P) vc1, .slice v2 2 vc2, .int .i64 (0)] 28)))
  have HB := Lib.hid (HB.out.below (al1 _ (.cells #[.slice v1 (2 * P) vc1, .slice v2 2 vc2, .int .i64 (0)] 28)))
  have Hm := Lib.hid (Hm.out.below (al1 _ (.cells #[.slice v1 (2 * P) vc1, .slice v2 2 vc2, .int .i64 (0)] 28)))
  clear hb ho
  go_upto_region 13 with fail
  generalize hZv : u.heap.size = Zv at *
  generalize hWv : u.alloc (.cells #[.slice v1 (2 * P) vc1, .slice v2 2 vc2, .int .i64 (0)] 28) = wv at *
  clear hZv hWv
  obtain ⟨rz, r0, r1, r2, r3, r4, r5, r6, r7, r8⟩ := HR.out
  go_wp2_with fail
  clear rz r0 r1 r2 r3 r4 r5 r6 r7 r8
  refine (HPa.out _).mono ?_
  rintro e u ⟨x1, xc1, xb1, x2, xc2, xb2, rfl, ho, -, -, hxc, -, hb⟩
  have HP := Lib.hid (HP.out.below hb)
  have HR := Lib.hid (HR.out.below hb)
  have HB := Lib.hid (HB.out.below hb)
  have Hm := Lib.hid (Hm.out.below hb)
  have Hv := Lib.hid (Hv.out.below hb)
  have Hx := Lib.hid (pv_new (xc1 := xc1) (xc2 := xc2) (xp := 0) ho.r 28)
  have HP := Lib.hid (HP.out.below (al1 _ (.cells #[.slice x1 (2 * P) xc1, .slice x2 2 xc2, .int .i64 (0)] 28)))
  have HR := Lib.hid (HR.out.below (al1 _ (.cells #[.slice x1 (2 * P) xc1, .slice x2 2 xc2, .int .i64 (0)] 28)))
  have HB := Lib.hid (HB.out.below (al1 _ (.cells #[.slice x1 (2 * P) xc1, .slice x2 2 xc2, .int .i64 (0)] 28)))
  have Hm := Lib.hid (Hm.out.below (al1 _ (.cells #[.slice x1 (2 * P) xc1, .slice x2 2 xc2, .int .i64 (0)] 28)))
  have Hv := Lib.hid (Hv.out.below (al1 _ (.cells #[.slice x1 (2 * P) xc1, .slice x2 2 xc2, .int .i64 (0)] 28)))
  clear hb ho
  go_upto_region 14 with fail
  generalize hZx : u.heap.size = Zx at *
  generalize hWx : u.alloc (.cells #[.slice x1 (2 * P) xc1, .slice x2 2 xc2, .int .i64 (0)] 28) = wx at *
  clear hZx hWx
  obtain ⟨⟨mz, md0, md1, md2⟩, -⟩ := Hm.out
  obtain ⟨⟨vz, vd0, vd1, vd2⟩, -⟩ := Hv.out
  obtain ⟨⟨xz, xd0, xd1, xd2⟩, -⟩ := Hx.out
  go_wp2_with fail
  clear mz md0 md1 md2
  clear vz vd0 vd1 vd2
  clear xz xd0 xd1 xd2
  refine (HNum.out _ _ _ _ _ Hm.out.2.r1 Hv.out.2.r1).mono ?_
  rintro e u ⟨rfl, hb⟩
  have HP := Lib.hid (HP.out.below hb)
  have HR := Lib.hid (HR.out.below hb)
  have HB := Lib.hid (HB.out.below hb)
  have Hm := Lib.hid (Hm.out.below hb)
  have Hv := Lib.hid (Hv.out.below hb)
  have Hx := Lib.hid (Hx.out.below hb)
  clear hb
  obtain ⟨⟨mz, md0, md1, md2⟩, -⟩ := Hm.out
  obtain ⟨⟨xz, xd0, xd1, xd2⟩, -⟩ := Hx.out
  go_wp2_with fail
  clear mz md0 md1 md2
  clear xz xd0 xd1 xd2
  refine (HSame.out _ _ _ _ _ _ _ _ _ Hm.out.2 Hx.out.2).mono ?_
  rintro e u ⟨rfl, hb⟩
  have HP := Lib.hid (HP.out.below hb)
  have HR := Lib.hid (HR.out.below hb)
  have HB := Lib.hid (HB.out.below hb)
  have Hm := Lib.hid (Hm.out.below hb)
  have Hv := Lib.hid (Hv.out.below hb)
  have Hx := Lib.hid (Hx.out.below hb)
  clear hb
  obtain ⟨⟨mz, md0, md1, md2⟩, -⟩ := Hm.out
  go_wp2_with fail
  clear mz md0 md1 md2
  refine (HSum.out _ _ _ Hm.out.2.r2).mono ?_
  rintro e u9 ⟨rfl, rfl⟩
  obtain ⟨rz, r0, r1, r2, r3, r4, r5, r6, r7, r8⟩ := HR.out
  obtain ⟨⟨pz, p0, p1, p2⟩, -⟩ := HP.out
  go_wp2_with fail
  clear rz r0 r1 r2 r3 r4 r5 r6 r7 r8
  clear pz p0 p1 p2
  refine (HTu.out _ HP.out.2).mono ?_
  rintro e u ⟨t1, tc1, tb1, t2, tc2, tb2, rfl, ho, -, -, htc, -, hb⟩
  have HP := Lib.hid (HP.out.below hb)
  have HR := Lib.hid (HR.out.below hb)
  have HB := Lib.hid (HB.out.below hb)
  have Hm := Lib.hid (Hm.out.below hb)
  have Hv := Lib.hid (Hv.out.below hb)
  have Hx := Lib.hid (Hx.out.below hb)
  have Ht := Lib.hid (pv_new (xc1 := tc1) (xc2 := tc2) (xp := 1 - pl) ho.r 28)
  have HP := Lib.hid (HP.out.below (al1 _ (.cells #[.slice t1 (2 * P) tc1, .slice t2 2 tc2, .int .i64 (1 - pl)] 28)))
  have HR := Lib.hid (HR.out.below (al1 _ (.cells #[.slice t1 (2 * P) tc1, .slice t2 2 tc2, .int .i64 (1 - pl)] 28)))
  have HB := Lib.hid (HB.out.below (al1 _ (.cells #[.slice t1 (2 * P) tc1, .slice t2 2 tc2, .int .i64 (1 - pl)] 28)))
  have Hm := Lib.hid (Hm.out.below (al1 _ (.cells #[.slice t1 (2 * P) tc1, .slice t2 2 tc2, .int .i64 (1 - pl)] 28)))
  have Hv := Lib.hid (Hv.out.below (al1 _ (.cells #[.slice t1 (2 * P) tc1, .slice t2 2 tc2, .int .i64 (1 - pl)] 28)))
  have Hx := Lib.hid (Hx.out.below (al1 _ (.cells #[.slice t1 (2 * P) tc1, .slice t2 2 tc2, .int .i64 (1 - pl)] 28)))
  clear hb ho
  go_upto_region 17 with fail
  generalize hZt : u.heap.size = Zt at *
  generalize hWt : u.alloc (.cells #[.slice t1 (2 * P) tc1, .slice t2 2 tc2, .int .i64 (1 - pl)] 28) = wt at *
  clear hZt hWt
  obtain ⟨rz, r0, r1, r2, r3, r4, r5, r6, r7, r8⟩ := HR.out
  go_wp2_with fail
  clear rz r0 r1 r2 r3 r4 r5 r6 r7 r8
  refine (HF1.out _ _ (by omega)).mono ?_
  rintro e u ⟨rfl, hb⟩
  have HP := Lib.hid (HP.out.below hb)
  have HR := Lib.hid (HR.out.below hb)
  have HB := Lib.hid (HB.out.below hb)
  have Hm := Lib.hid (Hm.out.below hb)
  have Hv := Lib.hid (Hv.out.below hb)
  have Hx := Lib.hid (Hx.out.below hb)
  have Ht := Lib.hid (Ht.out.below hb)
  clear hb
  obtain ⟨rz, r0, r1, r2, r3, r4, r5, r6, r7, r8⟩ := HR.out
  obtain ⟨⟨pz, p0, p1, p2⟩, -⟩ := HP.out
  obtain ⟨⟨tz, td0, td1, td2⟩, -⟩ := Ht.out
  go_wp2_with fail
  clear rz r0 r1 r2 r3 r4 r5 r6 r7 r8
  clear pz p0 p1 p2
  clear tz td0 td1 td2
  refine (HS1.out _ _ _ _ _ HP.out.2 Ht.out.2 htc).mono ?_
  rintro e u ⟨rfl, hb⟩
  have HP := Lib.hid (HP.out.below hb)
  have HR := Lib.hid (HR.out.below hb)
  have HB := Lib.hid (HB.out.below hb)
  have Hm := Lib.hid (Hm.out.below hb)
  have Hv := Lib.hid (Hv.out.below hb)
  have Hx := Lib.hid (Hx.out.below hb)
  have Ht := Lib.hid (Ht.out.below hb)
  clear hb
  obtain ⟨rz, r0, r1, r2, r3, r4, r5, r6, r7, r8⟩ := HR.out
  obtain ⟨⟨pz, p0, p1, p2⟩, -⟩ := HP.out
  obtain ⟨⟨mz, md0, md1, md2⟩, -⟩ := Hm.out
  go_wp2_with fail
  clear rz r0 r1 r2 r3 r4 r5 r6 r7 r8
  clear pz p0 p1 p2
  clear mz md0 md1 md2
  refine (HS2.out _ _ _ _ _ HP.out.2 Hm.out.2 hmc).mono ?_
  rintro e u ⟨rfl, hb⟩
  have HP := Lib.hid (HP.out.below hb)
  have HR := Lib.hid (HR.out.below hb)
  have HB := Lib.hid (HB.out.below hb)
  have Hm := Lib.hid (Hm.out.below hb)
  have Hv := Lib.hid (Hv.out.below hb)
  have Hx := Lib.hid (Hx.out.below hb)
  have Ht := Lib.hid (Ht.out.below hb)
  clear hb
  have HQ : Hid ((B1 == B + C) = true) := Lib.hid (by simpa using HE.out)
  go_wp2_with fail
  go_ret
  exact ⟨by rw [HQ.out]; rfl, HB.out⟩
namespace fnIndices
set_option maxHeartbeats 2000000 in
set_option maxRecDepth 100000 in
theorem lifted (os : Os) (started : os.Started) (H : Type) (enc : TypeId × Value → H) :
    ReturnsInHanded {} Try.checked os 3 .any (Rows.fnIndicesSpec.pre6 enc Try.prog Try.f3 Rows.fnIndicesRow.domain false) (Rows.fnIndicesSpec.post enc Try.prog Try.f3 false true false false) := by
  refine returnsInHanded_of_change (C := Try.checked) own started (by kernel_rfl) Try.func3
    (ChangeSpec.witness6 (enc := enc) (C := Try.checked) false ⟨#[], #[.slice none 0 0, .slice none 0 0], []⟩ 8 (by kernel_rfl) (by kernel_rfl) (by kernel_rfl) (by kernel_rfl)) ?_
  intro W base args ds gs before hval0 hW hcnd _
  have hval : ∀ (j : Nat) t v, Try.f3.params[j]? = some t → args[j]? = some v → Value.okWide Try.prog W .any base t v := hval0
  have hW' := hW
  obtain ⟨p, q, hA0, hV, rfl, hfz, hnd⟩ := hW
  have hA : DataW.TrodAll enc Try.prog W 0 (fun _ => true) true Try.f3.params.toList args.toList ds p := hA0
  rw [Try.params3] at hA hval
  obtain ⟨v0, vs0, d0, ds0, p0, q0, hargs, rfl, rfl, h0, r0⟩ := trodAll_cons hA
  obtain ⟨v1, vs1, d1, ds1, p1, q1, rfl, rfl, rfl, h1, r1⟩ := trodAll_cons r0
  obtain ⟨rfl, rfl, rfl⟩ := trodAll_nil r1
  obtain rfl : args = #[v0, v1] := by cases args; simp_all
  obtain ⟨rfl, rfl⟩ := trodVars_none hV
  have k0 := h0
  have lt0 : ∀ x ∈ p0, x.block < W.heap.size := by obtain ⟨m, hm⟩ := k0; exact DataW.trod_lt m _ _ _ hm
  obtain ⟨a0, len0, cap0, rfl, w0⟩ := open_bytes Try.underlying22 Try.underlying5 (by kernel_rfl) (hval 0 22 v0 rfl rfl) h0
  have k1 := h1
  have lt1 : ∀ x ∈ p1, x.block < W.heap.size := by obtain ⟨m, hm⟩ := k1; exact DataW.trod_lt m _ _ _ hm
  obtain ⟨a1, len1, cap1, rfl, w1⟩ := open_bytes Try.underlying22 Try.underlying5 (by kernel_rfl) (hval 1 22 v1 rfl rfl) h1
  clear hA0 hval0
  refine (walk_FnIndices a0 len0 cap0 w0 a1 len1 cap1 w1 (w := W)).mono fun e W' ⟨he, bel⟩ => ?_
  subst he
  exact ⟨_, rfl, _, _, _, [], _, [], hW', trodAll_mk1 (shut_bool Try.underlying4 _), (trodAll_cons_mk (Below.trod laidOut (by kernel_rfl) (of_decide_eq_true (by kernel_rfl)) k0 bel lt0) (trodAll_cons_mk (Below.trod laidOut (by kernel_rfl) (of_decide_eq_true (by kernel_rfl)) k1 bel lt1) trodAll_mk0)), rfl, bel.frame _, fun h => by cases h⟩

theorem proved : Rows.FnIndicesSaid :=
  OpenClaim.holds_of_wide 3 Try.f3 rfl rfl rfl rfl rfl rfl rfl ⟨rfl, rfl, rfl, rfl, rfl⟩ rfl rfl rfl rfl rfl (by kernel_rfl) Try.func3 (by kernel_rfl)
    (of_decide_eq_true (by kernel_rfl)) (by unfold Func.isWrapper; first | (rw [if_pos (by decide +kernel)]; kernel_rfl) | (rw [if_neg (by decide +kernel)]; exact ⟨rfl, rfl⟩))
    (fun os started H enc _ => lifted os started H enc)
end fnIndices

end Go.Proofs.Ythbgfkklejnhiaa
