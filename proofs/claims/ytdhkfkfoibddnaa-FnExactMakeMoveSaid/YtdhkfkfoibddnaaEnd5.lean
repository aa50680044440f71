/- IsEndless of the reference and of the program. No conditions. -/
import Derived.Test.YtdhkfkfoibddnaaSow5S
import Derived.Test.YtdhkfkfoibddnaaCode5
import Derived.Test.YtdhkfkfoibddnaaMov6
import Derived.StillTailTactics
namespace Go.Proofs.Ytdhkfkfoibddnaa
open Go.Joins Go.ChangeShapes Go.WideShapes Go.ChangeAt Go.RowKit Go.Deep
set_option linter.unusedVariables false

theorem RuAt.drew' {u : World} {b : Nat} {p s c l : Int} {st sk re fe ag : Bool} (h : RuAt u b p s c l st sk re fe ag) : RuAt u.drew b p s c l st sk re fe ag := h
/-- What the reference's move answers: seeds and a path, or a code. -/
def SwC (n1 : Nat) (cd : Int) (MV : Option Res) (w : World) (e : Ending) (w' : World) : Prop :=
  match MV with
  | none => e = .returned (.tuple #[.agg #[.slice none 0 0, .slice none 0 0, .int .i64 0, .int .i64 0], .slice none 0 0, .int .i64 cd]) ∧ Below w.heap.size w w'
  | some m => ∃ b1 c1 b2 c2 v, e = .returned (.tuple #[.agg #[.slice (some ⟨b1, 0, none⟩) n1 c1, .slice (some ⟨b2, 0, none⟩) 2 c2, .int .i64 m.last, .int .i64 m.laps], v, .int .i64 0]) ∧
      PosO w' w.heap.size (some ⟨b1, 0, none⟩) (some ⟨b2, 0, none⟩) b1 b2 n1 2 m.xs m.ys ∧ b1 < w'.heap.size ∧ b2 < w'.heap.size ∧ n1 ≤ c1 ∧ 2 ≤ c2 ∧ w'.ownsRow w.heap.size 2 1 v m.path.length (nvs m.path) ∧ Below w.heap.size w w'
/-- Seeds and a path in blocks of their own. -/
structure MvO (B n1 : Nat) (m : Res) (b1 c1 b2 c2 : Nat) (v : Value) (u : World) : Prop where
  ho : PosO u B (some ⟨b1, 0, none⟩) (some ⟨b2, 0, none⟩) b1 b2 n1 2 m.xs m.ys
  l1 : b1 < u.heap.size
  l2 : b2 < u.heap.size
  k1 : n1 ≤ c1
  k2 : 2 ≤ c2
  row : u.ownsRow B 2 1 v m.path.length (nvs m.path)
section
variable {B n1 b1 c1 b2 c2 : Nat} {m : Res} {v : Value} {u z : World}
theorem MvO.below (h : MvO B n1 m b1 c1 b2 c2 v u) (k : Below u.heap.size u z) : MvO B n1 m b1 c1 b2 c2 v z :=
  ⟨h.ho.below k, Nat.lt_of_lt_of_le h.l1 k.size, Nat.lt_of_lt_of_le h.l2 k.size, h.k1, h.k2, own_keep h.row k⟩
theorem MvO.drew (h : MvO B n1 m b1 c1 b2 c2 v u) : MvO B n1 m b1 c1 b2 c2 v u.drew := h.below (Below.refl _ _).drew
theorem MvO.set4 {q : Nat} (h : MvO B n1 m b1 c1 b2 c2 v u) (hq : q < B) (x0 x1 x2 x3 : Value) : MvO B n1 m b1 c1 b2 c2 v ((((u.setCell ⟨q, 0, none⟩ x0).setCell ⟨q, 1, none⟩ x1).setCell ⟨q, 2, none⟩ x2).setCell ⟨q, 3, none⟩ x3) := by
  have h1 := h.ho.o1.new
  have h2 := h.ho.o2.new
  exact ⟨h.ho.but (but4 q u x0 x1 x2 x3) (by omega) (by omega), by simpa using h.l1, by simpa using h.l2, h.k1, h.k2, own_but h.row (but4 q u x0 x1 x2 x3) hq⟩
theorem mvO_end {w : World} {cd : Int} (h : MvO B n1 m b1 c1 b2 c2 v u) (hB : w.heap.size ≤ B) (hb : OnW w u) :
    SwC n1 cd (some m) w (.returned (.tuple #[.agg #[.slice (some ⟨b1, 0, none⟩) n1 c1, .slice (some ⟨b2, 0, none⟩) 2 c2, .int .i64 m.last, .int .i64 m.laps], v, .int .i64 0])) u :=
  ⟨b1, c1, b2, c2, v, rfl, h.ho.lower hB, h.l1, h.l2, h.k1, h.k2, own_lower h.row hB, hb⟩
end
set_option maxHeartbeats 4000000 in
set_option maxRecDepth 100000 in
theorem l05Move_err (rb pb : Nat) (move cd : Int) (hcd : (cd == 0) = false) (w : World) (hc : ∀ u, Below w.heap.size w u → Calls Try.prog 84 #[.pointer (some ⟨rb, 0, none⟩), .pointer (some ⟨pb, 0, none⟩), .int .i64 move] u (Still (.int .i64 cd) u)) :
    Calls Try.prog 66 #[.pointer (some ⟨rb, 0, none⟩), .pointer (some ⟨pb, 0, none⟩), .int .i64 move] w (SwC 0 cd none w) := by
  have HC := Lib.hid hc
  have HZ := Lib.hid (z4_new w 50)
  have HB := Lib.hid (al1 w (.cells #[.slice none 0 0, .slice none 0 0, .int .i64 0, .int .i64 0] 50))
  have hcd2 : (cd != 0) = true := by simpa [bne] using hcd
  clear hc
  go_enter Try.func66, Try.ntmps66
  go_wp2_with fail
  generalize w.alloc (.cells #[.slice none 0 0, .slice none 0 0, .int .i64 0, .int .i64 0] 50) = u at *
  refine (HC.out _ HB.out).mono ?_
  rintro e u2 ⟨rfl, m, rfl⟩
  obtain ⟨zl, z0, z1, z2, z3, y0, y1, y2, y3⟩ := HZ.out
  go_wp2_with fail
  refine bodyPost_ret (v := .tuple #[.agg #[.slice none 0 0, .slice none 0 0, .int .i64 0, .int .i64 0], .slice none 0 0, .int .i64 cd]) (by simp [results, Try.results66, go_sem, z0, z1, z2, z3]) rfl ⟨rfl, OnW.set4 (show OnW w _ from below_dn HB.out _) (Nat.le_refl _) _ _ _ _⟩
set_option maxHeartbeats 4000000 in
set_option maxRecDepth 100000 in
theorem l05Move_yes0 (p s c l : Int) (st sk re fe ag : Bool) (p1 p2 : Option Addr) (pn1 pc1 pc2 : Nat) (xs ys : List Int) (F rb pb : Nat) (move : Int) (w : World) (hr : RuAt w rb p s c l st sk re fe ag) (hq : PoAt w pb p1 p2 pn1 pc1 2 pc2 0) (h : PosR w p1 p2 pn1 2 xs ys) (hk : okP (okR p s c l st ag) p pn1 2 0 xs ys = true) (hF : F < pn1) (hf : 0 * p + move = F) (hm0 : 0 ≤ move) (hm1 : move < p) (he : xs.getD F 0 ≠ 0) (MV : Option Res) (hMV : mvF ⟨p, 0, st, sk, re⟩ 100 xs ys F 0 [] = MV) :
    Calls Try.prog 66 #[.pointer (some ⟨rb, 0, none⟩), .pointer (some ⟨pb, 0, none⟩), .int .i64 move] w (SwC pn1 10 MV w) := by
  have hok := okP_parts hk
  have hbd := okR_bd hok.1
  have hp2 := hbd.1
  have hp8 := hbd.2.1
  have hlap := lap_of_ok (sk := sk) (re := re) hk h.l1 h.l2 hF he
  have HC : Hid (∀ u, Below w.heap.size w u → Calls Try.prog 84 #[.pointer (some ⟨rb, 0, none⟩), .pointer (some ⟨pb, 0, none⟩), .int .i64 move] u (Still (.int .i64 0) u)) := Lib.hid (fun u hu => code_yes p s c l st sk re fe ag _ _ _ _ _ _ _ xs ys rb pb move u (hr.below hu) (hq.below hu) (h.below hu) hk F hF hf hm0 hm1 he)
  have HSw : Hid (∀ u, Below w.heap.size w u → Calls Try.prog 85 #[.pointer (some ⟨rb, 0, none⟩), .pointer (some ⟨pb, 0, none⟩), .int .i64 F] u (SwQ pn1 MV u)) := Lib.hid (fun u hu => specSow0 p s c l st sk re fe ag p1 p2 pn1 pc1 pc2 xs ys F rb pb u _ (hr.below hu) (hq.below hu) (h.below hu) hp2 hp8 hlap MV hMV)
  have HZ := Lib.hid (z4_new w 50)
  have HB := Lib.hid (al1 w (.cells #[.slice none 0 0, .slice none 0 0, .int .i64 0, .int .i64 0] 50))
  have HR := Lib.hid hr
  have HQ := Lib.hid hq
  have hw1 : IntKind.i64.wrap (0 * p) = 0 * p := IntWalk.i64_in _ ⟨by omega, by omega⟩
  have hw2 : IntKind.i64.wrap (0 * p + move) = (F : Int) := by rw [hf]; exact IntWalk.i64_in _ ⟨by omega, by omega⟩
  have hw3 : IntKind.i64.wrap (p + move) = p + move := IntWalk.i64_in _ ⟨by omega, by omega⟩
  have hw4 : IntKind.i64.wrap move = move := IntWalk.i64_in _ ⟨by omega, by omega⟩
  obtain ⟨M, hM⟩ : ∃ M : Nat, move = (M : Int) := ⟨move.toNat, by omega⟩
  subst hM
  have HWA : Hid (IntKind.i64.wrap (IntKind.i64.wrap 0 + (M : Int)) = (F : Int)) := Lib.hid (by rw [show IntKind.i64.wrap 0 = 0 from IntWalk.i64_in _ ⟨by omega, by omega⟩, IntWalk.i64_in _ ⟨by omega, by omega⟩]; omega)
  clear hok hbd hlap hk h he hMV hr hq
  go_enter Try.func66, Try.ntmps66
  go_wp2_with fail
  refine (HC.out _ HB.out).mono ?_
  rintro e u2 ⟨rfl, m, rfl⟩
  have HB3 : Hid (Below w.heap.size w ((w.alloc (.cells #[.slice none 0 0, .slice none 0 0, .int .i64 0, .int .i64 0] 50)).drewN m)) := Lib.hid (below_dn HB.out m)
  have HZ3 : Hid (Z4 ((w.alloc (.cells #[.slice none 0 0, .slice none 0 0, .int .i64 0, .int .i64 0] 50)).drewN m) w.heap.size) := Lib.hid (HZ.out.below (below_dn (Below.refl _ _) m))
  have HR3 : Hid (RuAt ((w.alloc (.cells #[.slice none 0 0, .slice none 0 0, .int .i64 0, .int .i64 0] 50)).drewN m) rb p s c l st sk re fe ag) := Lib.hid (HR.out.below HB3.out)
  have HQ3 : Hid (PoAt ((w.alloc (.cells #[.slice none 0 0, .slice none 0 0, .int .i64 0, .int .i64 0] 50)).drewN m) pb p1 p2 pn1 pc1 2 pc2 0) := Lib.hid (HQ.out.below HB3.out)
  generalize (w.alloc (.cells #[.slice none 0 0, .slice none 0 0, .int .i64 0, .int .i64 0] 50)).drewN m = u4 at *
  have HT : Hid (∀ u, RuAt u rb p s c l st sk re fe ag → PoAt u pb p1 p2 pn1 pc1 2 pc2 0 → OnW w u → (rb < u.heap.size ∧ u.cell? ⟨rb, 0, none⟩ = some (.int .i64 p)) ∧ (pb < u.heap.size ∧ u.cell? ⟨pb, 2, none⟩ = some (.int .i64 0)) ∧ Below w.heap.size w u) := Lib.hid (fun u h1 h2 h3 => ⟨⟨h1.1, h1.2.1⟩, ⟨h2.1, h2.2.2.2⟩, h3⟩)
  have HB3 := Lib.hid (show OnW w u4 from HB3.out)
  have hrl := HR3.out.1
  have hql := HQ3.out.1
  have hwz : w.heap.size ≤ u4.heap.size := HB3.out.bel.size
  have hzl := HZ3.out.lt
  have hne1 : w.heap.size ≠ u4.heap.size := by omega
  have hne2 : u4.heap.size ≠ w.heap.size := by omega
  go_wp2_with fail
  cases MV with
  | none =>
    go_region_held3 (fun u => (rb < u.heap.size ∧ u.cell? ⟨rb, 0, none⟩ = some (.int .i64 p)) ∧ (pb < u.heap.size ∧ u.cell? ⟨pb, 2, none⟩ = some (.int .i64 0)) ∧ Below w.heap.size w u) (first | with_reducible exact HT.out _ HR3.out HQ3.out HB3.out | with_reducible exact HT.out _ HR3.out.drew HQ3.out.drew HB3.out.drew | with_reducible exact HT.out _ (HR3.out.below (al1 _ _)) (HQ3.out.below (al1 _ _)) (HB3.out.below (al1 _ _)) | with_reducible exact HT.out _ (HR3.out.below (al1 _ _)).drew (HQ3.out.below (al1 _ _)).drew (HB3.out.below (al1 _ _)).drew | with_reducible exact HT.out _ (HR3.out.drew.below (al1 _ _)) (HQ3.out.drew.below (al1 _ _)) (HB3.out.drew.below (al1 _ _)) | with_reducible exact HT.out _ (HR3.out.but (but4 _ _ _ _ _ _) (by omega)) (HQ3.out.but (but4 _ _ _ _ _ _) (by omega)) (OnW.set4 HB3.out (by omega) _ _ _ _))
      ((go_at_call 85; (rw [HWA.out]); (first | with_reducible refine (HSw.out _ HB3.out.bel).mono ?_ | with_reducible refine (HSw.out _ HB3.out.drew.bel).mono ?_ | with_reducible refine (HSw.out _ (HB3.out.below (al1 _ _)).bel).mono ?_ | with_reducible refine (HSw.out _ (HB3.out.below (al1 _ _)).drew.bel).mono ?_ | with_reducible refine (HSw.out _ (HB3.out.drew.below (al1 _ _)).bel).mono ?_); rintro e u5 ⟨rfl, hb3⟩; (first | have HR3 := Lib.hid (HR3.out.below hb3) | have HR3 := Lib.hid (HR3.out.drew.below hb3) | have HR3 := Lib.hid ((HR3.out.below (al1 _ _)).below hb3) | have HR3 := Lib.hid ((HR3.out.below (al1 _ _)).drew.below hb3)); (first | have HQ3 := Lib.hid (HQ3.out.below hb3) | have HQ3 := Lib.hid (HQ3.out.drew.below hb3) | have HQ3 := Lib.hid ((HQ3.out.below (al1 _ _)).below hb3) | have HQ3 := Lib.hid ((HQ3.out.below (al1 _ _)).drew.below hb3)); (first | have HB3 := Lib.hid (HB3.out.below hb3) | have HB3 := Lib.hid (HB3.out.drew.below hb3) | have HB3 := Lib.hid ((HB3.out.below (al1 _ _)).below hb3) | have HB3 := Lib.hid ((HB3.out.below (al1 _ _)).drew.below hb3)); (first | have HZ3 := Lib.hid (HZ3.out.below hb3) | have HZ3 := Lib.hid (HZ3.out.drew.below hb3) | have HZ3 := Lib.hid ((HZ3.out.below (al1 _ _)).below hb3) | have HZ3 := Lib.hid ((HZ3.out.below (al1 _ _)).drew.below hb3)); have nz3 := HR3.out.1; have nq3 := HQ3.out.1; (first | have HY := Lib.hid ((z4_new u4 50).drew.below hb3) | have HY := Lib.hid ((z4_new u4.drew 50).below hb3) | have HY := Lib.hid ((z4_new u4 50).below hb3) | skip); (try obtain ⟨yz, y0, y1, y2, y3, k0, k1, k2, k3⟩ := HY.out); clear hb3))
    all_goals (obtain ⟨zl, z0, z1, z2, z3, q0, q1, q2, q3⟩ := HZ3.out)
    all_goals have hne3 : w.heap.size ≠ u5.heap.size := by omega
    all_goals have hne4 : u5.heap.size ≠ w.heap.size := by omega
    all_goals go_wp2_with fail
    all_goals (refine bodyPost_ret (v := .tuple #[.agg #[.slice none 0 0, .slice none 0 0, .int .i64 0, .int .i64 0], .slice none 0 0, .int .i64 10]) (by simp [results, Try.results66, go_sem, z0, z1, z2, z3, zl]) rfl ⟨rfl, ?_⟩)
    all_goals first
      | with_reducible exact (OnW.below (OnW.set4 HB3.out (Nat.le_refl _) _ _ _ _) (al1 _ _)).bel
      | with_reducible exact (OnW.set4 (OnW.set4 HB3.out hwz _ _ _ _) (Nat.le_refl _) _ _ _ _).bel
      | with_reducible exact (OnW.set4 (OnW.below HB3.out (al1 _ _)) (Nat.le_refl _) _ _ _ _).bel
  | some mm =>
    go_region_held3 (fun u => (rb < u.heap.size ∧ u.cell? ⟨rb, 0, none⟩ = some (.int .i64 p)) ∧ (pb < u.heap.size ∧ u.cell? ⟨pb, 2, none⟩ = some (.int .i64 0)) ∧ Below w.heap.size w u) (first | with_reducible exact HT.out _ HR3.out HQ3.out HB3.out | with_reducible exact HT.out _ HR3.out.drew HQ3.out.drew HB3.out.drew | with_reducible exact HT.out _ (HR3.out.below (al1 _ _)) (HQ3.out.below (al1 _ _)) (HB3.out.below (al1 _ _)) | with_reducible exact HT.out _ (HR3.out.below (al1 _ _)).drew (HQ3.out.below (al1 _ _)).drew (HB3.out.below (al1 _ _)).drew | with_reducible exact HT.out _ (HR3.out.drew.below (al1 _ _)) (HQ3.out.drew.below (al1 _ _)) (HB3.out.drew.below (al1 _ _)) | with_reducible exact HT.out _ (HR3.out.but (but4 _ _ _ _ _ _) (by omega)) (HQ3.out.but (but4 _ _ _ _ _ _) (by omega)) (OnW.set4 HB3.out (by omega) _ _ _ _))
      ((go_at_call 85; (rw [HWA.out]); (first | with_reducible refine (HSw.out _ HB3.out.bel).mono ?_ | with_reducible refine (HSw.out _ HB3.out.drew.bel).mono ?_ | with_reducible refine (HSw.out _ (HB3.out.below (al1 _ _)).bel).mono ?_ | with_reducible refine (HSw.out _ (HB3.out.below (al1 _ _)).drew.bel).mono ?_ | with_reducible refine (HSw.out _ (HB3.out.drew.below (al1 _ _)).bel).mono ?_); rintro e u5 ⟨b1, c1, b2, c2, v, rfl, ho, hl1, hl2, hc1, hc2, hown, hb3⟩; have HM := Lib.hid (MvO.mk ho hl1 hl2 hc1 hc2 hown); (have hbz := hb3.size); clear ho hl1 hl2 hc1 hc2 hown; (try simp at hbz); (first | have HR3 := Lib.hid (HR3.out.below hb3) | have HR3 := Lib.hid (HR3.out.drew.below hb3) | have HR3 := Lib.hid ((HR3.out.below (al1 _ _)).below hb3) | have HR3 := Lib.hid ((HR3.out.below (al1 _ _)).drew.below hb3)); (first | have HQ3 := Lib.hid (HQ3.out.below hb3) | have HQ3 := Lib.hid (HQ3.out.drew.below hb3) | have HQ3 := Lib.hid ((HQ3.out.below (al1 _ _)).below hb3) | have HQ3 := Lib.hid ((HQ3.out.below (al1 _ _)).drew.below hb3)); (first | have HB3 := Lib.hid (HB3.out.below hb3) | have HB3 := Lib.hid (HB3.out.drew.below hb3) | have HB3 := Lib.hid ((HB3.out.below (al1 _ _)).below hb3) | have HB3 := Lib.hid ((HB3.out.below (al1 _ _)).drew.below hb3)); (first | have HZ3 := Lib.hid (HZ3.out.below hb3) | have HZ3 := Lib.hid (HZ3.out.drew.below hb3) | have HZ3 := Lib.hid ((HZ3.out.below (al1 _ _)).below hb3) | have HZ3 := Lib.hid ((HZ3.out.below (al1 _ _)).drew.below hb3)); have nz3 := HR3.out.1; have nq3 := HQ3.out.1; (first | have HY := Lib.hid ((z4_new u4 50).drew.below hb3) | have HY := Lib.hid ((z4_new u4.drew 50).below hb3) | have HY := Lib.hid ((z4_new u4 50).below hb3) | skip); (try obtain ⟨yz, y0, y1, y2, y3, k0, k1, k2, k3⟩ := HY.out); clear hb3))
    all_goals (obtain ⟨zl, z0, z1, z2, z3, q0, q1, q2, q3⟩ := HZ3.out)
    all_goals have hne3 : w.heap.size ≠ u5.heap.size := by omega
    all_goals have hne4 : u5.heap.size ≠ w.heap.size := by omega
    all_goals go_wp2_with fail
    all_goals (refine bodyPost_ret (v := .tuple #[.agg #[.slice (some ⟨b1, 0, none⟩) pn1 c1, .slice (some ⟨b2, 0, none⟩) 2 c2, .int .i64 mm.last, .int .i64 mm.laps], v, .int .i64 0]) (by simp [results, Try.results66, go_sem, z0, z1, z2, z3, zl]) rfl ?_)
    · have HM1 := Lib.hid (show MvO u4.heap.size pn1 mm b1 c1 b2 c2 v u5 from HM.out)
      clear HM HSw HZ3 HT HR3 HQ3
      refine mvO_end (B := u4.heap.size) ?_ hwz ?_
      · with_reducible exact (HM1.out.set4 hzl _ _ _ _).below (al1 _ _)
      · with_reducible exact OnW.below (OnW.set4 HB3.out (Nat.le_refl _) _ _ _ _) (al1 _ _)
    · have HM1 := Lib.hid (show MvO (u4.heap.size + 1) pn1 mm b1 c1 b2 c2 v u5 from by have h := HM.out; simpa using h)
      clear HM HSw HZ3 HT HR3 HQ3
      refine mvO_end (B := u4.heap.size + 1) ?_ (by omega) ?_
      · with_reducible exact (HM1.out.set4 (Nat.lt_succ_self _) _ _ _ _).set4 (Nat.lt_succ_of_lt hzl) _ _ _ _
      · with_reducible exact OnW.set4 (OnW.set4 HB3.out hwz _ _ _ _) (Nat.le_refl _) _ _ _ _
set_option maxHeartbeats 4000000 in
set_option maxRecDepth 100000 in
theorem l05Move_yes1 (p s c l : Int) (st sk re fe ag : Bool) (p1 p2 : Option Addr) (pn1 pc1 pc2 : Nat) (xs ys : List Int) (F rb pb : Nat) (move : Int) (w : World) (hr : RuAt w rb p s c l st sk re fe ag) (hq : PoAt w pb p1 p2 pn1 pc1 2 pc2 1) (h : PosR w p1 p2 pn1 2 xs ys) (hk : okP (okR p s c l st ag) p pn1 2 1 xs ys = true) (hF : F < pn1) (hf : 1 * p + move = F) (hm0 : 0 ≤ move) (hm1 : move < p) (he : xs.getD F 0 ≠ 0) (MV : Option Res) (hMV : mvF ⟨p, 1, st, sk, re⟩ 100 xs ys F 0 [] = MV) :
    Calls Try.prog 66 #[.pointer (some ⟨rb, 0, none⟩), .pointer (some ⟨pb, 0, none⟩), .int .i64 move] w (SwC pn1 10 MV w) := by
  have hok := okP_parts hk
  have hbd := okR_bd hok.1
  have hp2 := hbd.1
  have hp8 := hbd.2.1
  have hlap := lap_of_ok (sk := sk) (re := re) hk h.l1 h.l2 hF he
  have HC : Hid (∀ u, Below w.heap.size w u → Calls Try.prog 84 #[.pointer (some ⟨rb, 0, none⟩), .pointer (some ⟨pb, 0, none⟩), .int .i64 move] u (Still (.int .i64 0) u)) := Lib.hid (fun u hu => code_yes p s c l st sk re fe ag _ _ _ _ _ _ _ xs ys rb pb move u (hr.below hu) (hq.below hu) (h.below hu) hk F hF hf hm0 hm1 he)
  have HSw : Hid (∀ u, Below w.heap.size w u → Calls Try.prog 85 #[.pointer (some ⟨rb, 0, none⟩), .pointer (some ⟨pb, 0, none⟩), .int .i64 F] u (SwQ pn1 MV u)) := Lib.hid (fun u hu => specSow1 p s c l st sk re fe ag p1 p2 pn1 pc1 pc2 xs ys F rb pb u _ (hr.below hu) (hq.below hu) (h.below hu) hp2 hp8 hlap MV hMV)
  have HZ := Lib.hid (z4_new w 50)
  have HB := Lib.hid (al1 w (.cells #[.slice none 0 0, .slice none 0 0, .int .i64 0, .int .i64 0] 50))
  have HR := Lib.hid hr
  have HQ := Lib.hid hq
  have hw1 : IntKind.i64.wrap (1 * p) = 1 * p := IntWalk.i64_in _ ⟨by omega, by omega⟩
  have hw2 : IntKind.i64.wrap (1 * p + move) = (F : Int) := by rw [hf]; exact IntWalk.i64_in _ ⟨by omega, by omega⟩
  have hw3 : IntKind.i64.wrap (p + move) = p + move := IntWalk.i64_in _ ⟨by omega, by omega⟩
  have hw4 : IntKind.i64.wrap move = move := IntWalk.i64_in _ ⟨by omega, by omega⟩
  obtain ⟨M, hM⟩ : ∃ M : Nat, move = (M : Int) := ⟨move.toNat, by omega⟩
  subst hM
  have HWA : Hid (IntKind.i64.wrap (IntKind.i64.wrap p + (M : Int)) = (F : Int)) := Lib.hid (by rw [show IntKind.i64.wrap p = p from IntWalk.i64_in _ ⟨by omega, by omega⟩, IntWalk.i64_in _ ⟨by omega, by omega⟩]; omega)
  clear hok hbd hlap hk h he hMV hr hq
  go_enter Try.func66, Try.ntmps66
  go_wp2_with fail
  refine (HC.out _ HB.out).mono ?_
  rintro e u2 ⟨rfl, m, rfl⟩
  have HB3 : Hid (Below w.heap.size w ((w.alloc (.cells #[.slice none 0 0, .slice none 0 0, .int .i64 0, .int .i64 0] 50)).drewN m)) := Lib.hid (below_dn HB.out m)
  have HZ3 : Hid (Z4 ((w.alloc (.cells #[.slice none 0 0, .slice none 0 0, .int .i64 0, .int .i64 0] 50)).drewN m) w.heap.size) := Lib.hid (HZ.out.below (below_dn (Below.refl _ _) m))
  have HR3 : Hid (RuAt ((w.alloc (.cells #[.slice none 0 0, .slice none 0 0, .int .i64 0, .int .i64 0] 50)).drewN m) rb p s c l st sk re fe ag) := Lib.hid (HR.out.below HB3.out)
  have HQ3 : Hid (PoAt ((w.alloc (.cells #[.slice none 0 0, .slice none 0 0, .int .i64 0, .int .i64 0] 50)).drewN m) pb p1 p2 pn1 pc1 2 pc2 1) := Lib.hid (HQ.out.below HB3.out)
  generalize (w.alloc (.cells #[.slice none 0 0, .slice none 0 0, .int .i64 0, .int .i64 0] 50)).drewN m = u4 at *
  have HT : Hid (∀ u, RuAt u rb p s c l st sk re fe ag → PoAt u pb p1 p2 pn1 pc1 2 pc2 1 → OnW w u → (rb < u.heap.size ∧ u.cell? ⟨rb, 0, none⟩ = some (.int .i64 p)) ∧ (pb < u.heap.size ∧ u.cell? ⟨pb, 2, none⟩ = some (.int .i64 1)) ∧ Below w.heap.size w u) := Lib.hid (fun u h1 h2 h3 => ⟨⟨h1.1, h1.2.1⟩, ⟨h2.1, h2.2.2.2⟩, h3⟩)
  have HB3 := Lib.hid (show OnW w u4 from HB3.out)
  have hrl := HR3.out.1
  have hql := HQ3.out.1
  have hwz : w.heap.size ≤ u4.heap.size := HB3.out.bel.size
  have hzl := HZ3.out.lt
  have hne1 : w.heap.size ≠ u4.heap.size := by omega
  have hne2 : u4.heap.size ≠ w.heap.size := by omega
  go_wp2_with fail
  cases MV with
  | none =>
    go_region_held3 (fun u => (rb < u.heap.size ∧ u.cell? ⟨rb, 0, none⟩ = some (.int .i64 p)) ∧ (pb < u.heap.size ∧ u.cell? ⟨pb, 2, none⟩ = some (.int .i64 1)) ∧ Below w.heap.size w u) (first | with_reducible exact HT.out _ HR3.out HQ3.out HB3.out | with_reducible exact HT.out _ HR3.out.drew HQ3.out.drew HB3.out.drew | with_reducible exact HT.out _ (HR3.out.below (al1 _ _)) (HQ3.out.below (al1 _ _)) (HB3.out.below (al1 _ _)) | with_reducible exact HT.out _ (HR3.out.below (al1 _ _)).drew (HQ3.out.below (al1 _ _)).drew (HB3.out.below (al1 _ _)).drew | with_reducible exact HT.out _ (HR3.out.drew.below (al1 _ _)) (HQ3.out.drew.below (al1 _ _)) (HB3.out.drew.below (al1 _ _)) | with_reducible exact HT.out _ (HR3.out.but (but4 _ _ _ _ _ _) (by omega)) (HQ3.out.but (but4 _ _ _ _ _ _) (by omega)) (OnW.set4 HB3.out (by omega) _ _ _ _))
      ((go_at_call 85; (rw [HWA.out]); (first | with_reducible refine (HSw.out _ HB3.out.bel).mono ?_ | with_reducible refine (HSw.out _ HB3.out.drew.bel).mono ?_ | with_reducible refine (HSw.out _ (HB3.out.below (al1 _ _)).bel).mono ?_ | with_reducible refine (HSw.out _ (HB3.out.below (al1 _ _)).drew.bel).mono ?_ | with_reducible refine (HSw.out _ (HB3.out.drew.below (al1 _ _)).bel).mono ?_); rintro e u5 ⟨rfl, hb3⟩; (first | have HR3 := Lib.hid (HR3.out.below hb3) | have HR3 := Lib.hid (HR3.out.drew.below hb3) | have HR3 := Lib.hid ((HR3.out.below (al1 _ _)).below hb3) | have HR3 := Lib.hid ((HR3.out.below (al1 _ _)).drew.below hb3)); (first | have HQ3 := Lib.hid (HQ3.out.below hb3) | have HQ3 := Lib.hid (HQ3.out.drew.below hb3) | have HQ3 := Lib.hid ((HQ3.out.below (al1 _ _)).below hb3) | have HQ3 := Lib.hid ((HQ3.out.below (al1 _ _)).drew.below hb3)); (first | have HB3 := Lib.hid (HB3.out.below hb3) | have HB3 := Lib.hid (HB3.out.drew.below hb3) | have HB3 := Lib.hid ((HB3.out.below (al1 _ _)).below hb3) | have HB3 := Lib.hid ((HB3.out.below (al1 _ _)).drew.below hb3)); (first | have HZ3 := Lib.hid (HZ3.out.below hb3) | have HZ3 := Lib.hid (HZ3.out.drew.below hb3) | have HZ3 := Lib.hid ((HZ3.out.below (al1 _ _)).below hb3) | have HZ3 := Lib.hid ((HZ3.out.below (al1 _ _)).drew.below hb3)); have nz3 := HR3.out.1; have nq3 := HQ3.out.1; (first | have HY := Lib.hid ((z4_new u4 50).drew.below hb3) | have HY := Lib.hid ((z4_new u4.drew 50).below hb3) | have HY := Lib.hid ((z4_new u4 50).below hb3) | skip); (try obtain ⟨yz, y0, y1, y2, y3, k0, k1, k2, k3⟩ := HY.out); clear hb3))
    all_goals (obtain ⟨zl, z0, z1, z2, z3, q0, q1, q2, q3⟩ := HZ3.out)
    all_goals have hne3 : w.heap.size ≠ u5.heap.size := by omega
    all_goals have hne4 : u5.heap.size ≠ w.heap.size := by omega
    all_goals go_wp2_with fail
    all_goals (refine bodyPost_ret (v := .tuple #[.agg #[.slice none 0 0, .slice none 0 0, .int .i64 0, .int .i64 0], .slice none 0 0, .int .i64 10]) (by simp [results, Try.results66, go_sem, z0, z1, z2, z3, zl]) rfl ⟨rfl, ?_⟩)
    all_goals first
      | with_reducible exact (OnW.below (OnW.set4 HB3.out (Nat.le_refl _) _ _ _ _) (al1 _ _)).bel
      | with_reducible exact (OnW.set4 (OnW.set4 HB3.out hwz _ _ _ _) (Nat.le_refl _) _ _ _ _).bel
      | with_reducible exact (OnW.set4 (OnW.below HB3.out (al1 _ _)) (Nat.le_refl _) _ _ _ _).bel
  | some mm =>
    go_region_held3 (fun u => (rb < u.heap.size ∧ u.cell? ⟨rb, 0, none⟩ = some (.int .i64 p)) ∧ (pb < u.heap.size ∧ u.cell? ⟨pb, 2, none⟩ = some (.int .i64 1)) ∧ Below w.heap.size w u) (first | with_reducible exact HT.out _ HR3.out HQ3.out HB3.out | with_reducible exact HT.out _ HR3.out.drew HQ3.out.drew HB3.out.drew | with_reducible exact HT.out _ (HR3.out.below (al1 _ _)) (HQ3.out.below (al1 _ _)) (HB3.out.below (al1 _ _)) | with_reducible exact HT.out _ (HR3.out.below (al1 _ _)).drew (HQ3.out.below (al1 _ _)).drew (HB3.out.below (al1 _ _)).drew | with_reducible exact HT.out _ (HR3.out.drew.below (al1 _ _)) (HQ3.out.drew.below (al1 _ _)) (HB3.out.drew.below (al1 _ _)) | with_reducible exact HT.out _ (HR3.out.but (but4 _ _ _ _ _ _) (by omega)) (HQ3.out.but (but4 _ _ _ _ _ _) (by omega)) (OnW.set4 HB3.out (by omega) _ _ _ _))
      ((go_at_call 85; (rw [HWA.out]); (first | with_reducible refine (HSw.out _ HB3.out.bel).mono ?_ | with_reducible refine (HSw.out _ HB3.out.drew.bel).mono ?_ | with_reducible refine (HSw.out _ (HB3.out.below (al1 _ _)).bel).mono ?_ | with_reducible refine (HSw.out _ (HB3.out.below (al1 _ _)).drew.bel).mono ?_ | with_reducible refine (HSw.out _ (HB3.out.drew.below (al1 _ _)).bel).mono ?_); rintro e u5 ⟨b1, c1, b2, c2, v, rfl, ho, hl1, hl2, hc1, hc2, hown, hb3⟩; have HM := Lib.hid (MvO.mk ho hl1 hl2 hc1 hc2 hown); (have hbz := hb3.size); clear ho hl1 hl2 hc1 hc2 hown; (try simp at hbz); (first | have HR3 := Lib.hid (HR3.out.below hb3) | have HR3 := Lib.hid (HR3.out.drew.below hb3) | have HR3 := Lib.hid ((HR3.out.below (al1 _ _)).below hb3) | have HR3 := Lib.hid ((HR3.out.below (al1 _ _)).drew.below hb3)); (first | have HQ3 := Lib.hid (HQ3.out.below hb3) | have HQ3 := Lib.hid (HQ3.out.drew.below hb3) | have HQ3 := Lib.hid ((HQ3.out.below (al1 _ _)).below hb3) | have HQ3 := Lib.hid ((HQ3.out.below (al1 _ _)).drew.below hb3)); (first | have HB3 := Lib.hid (HB3.out.below hb3) | have HB3 := Lib.hid (HB3.out.drew.below hb3) | have HB3 := Lib.hid ((HB3.out.below (al1 _ _)).below hb3) | have HB3 := Lib.hid ((HB3.out.below (al1 _ _)).drew.below hb3)); (first | have HZ3 := Lib.hid (HZ3.out.below hb3) | have HZ3 := Lib.hid (HZ3.out.drew.below hb3) | have HZ3 := Lib.hid ((HZ3.out.below (al1 _ _)).below hb3) | have HZ3 := Lib.hid ((HZ3.out.below (al1 _ _)).drew.below hb3)); have nz3 := HR3.out.1; have nq3 := HQ3.out.1; (first | have HY := Lib.hid ((z4_new u4 50).drew.below hb3) | have HY := Lib.hid ((z4_new u4.drew 50).below hb3) | have HY := Lib.hid ((z4_new u4 50).below hb3) | skip); (try obtain ⟨yz, y0, y1, y2, y3, k0, k1, k2, k3⟩ := HY.out); clear hb3))
    all_goals (obtain ⟨zl, z0, z1, z2, z3, q0, q1, q2, q3⟩ := HZ3.out)
    all_goals have hne3 : w.heap.size ≠ u5.heap.size := by omega
    all_goals have hne4 : u5.heap.size ≠ w.heap.size := by omega
    all_goals go_wp2_with fail
    all_goals (refine bodyPost_ret (v := .tuple #[.agg #[.slice (some ⟨b1, 0, none⟩) pn1 c1, .slice (some ⟨b2, 0, none⟩) 2 c2, .int .i64 mm.last, .int .i64 mm.laps], v, .int .i64 0]) (by simp [results, Try.results66, go_sem, z0, z1, z2, z3, zl]) rfl ?_)
    · have HM1 := Lib.hid (show MvO u4.heap.size pn1 mm b1 c1 b2 c2 v u5 from HM.out)
      clear HM HSw HZ3 HT HR3 HQ3
      refine mvO_end (B := u4.heap.size) ?_ hwz ?_
      · with_reducible exact (HM1.out.set4 hzl _ _ _ _).below (al1 _ _)
      · with_reducible exact OnW.below (OnW.set4 HB3.out (Nat.le_refl _) _ _ _ _) (al1 _ _)
    · have HM1 := Lib.hid (show MvO (u4.heap.size + 1) pn1 mm b1 c1 b2 c2 v u5 from by have h := HM.out; simpa using h)
      clear HM HSw HZ3 HT HR3 HQ3
      refine mvO_end (B := u4.heap.size + 1) ?_ (by omega) ?_
      · with_reducible exact (HM1.out.set4 (Nat.lt_succ_self _) _ _ _ _).set4 (Nat.lt_succ_of_lt hzl) _ _ _ _
      · with_reducible exact OnW.set4 (OnW.set4 HB3.out hwz _ _ _ _) (Nat.le_refl _) _ _ _ _
end Go.Proofs.Ytdhkfkfoibddnaa
