/- The position that is given, as the reference makes it. No conditions. -/
import Derived.Test.YtgogjjkecbgbiaaEnd9R
namespace Go.Proofs.Ytgogjjkecbgbiaa
open Go.Joins Go.ChangeShapes Go.WideShapes Go.ChangeAt Go.RowKit Go.Deep
set_option linter.unusedVariables false

set_option maxHeartbeats 8000000 in
set_option maxRecDepth 100000 in
theorem give_any0 (P : Nat) (s c l : Int) (st sk re fe ag : Bool) (p1 p2 : Option Addr) (pn1 pc1 pc2 : Nat) (pp : Int) (xs : List Int) (y0 y1 h0 : Int) (rb pb : Nat) (w : World) (hr : RuAt w rb (P : Int) s c l st sk re fe ag) (hq : PoAt w pb p1 p2 pn1 pc1 2 pc2 pp) (h : PosR w p1 p2 pn1 2 xs [y0, y1]) (hs : seedB xs [y0, y1] = true) (hP : 2 ≤ P) (hP2 : P ≤ 8) (hn : pn1 = 2 * P) (e0 : tot xs = h0) :
    Calls Try.prog 24 #[.pointer (some ⟨pb, 0, none⟩), .int .i64 0] w (PosQ pn1 2 pp (List.replicate pn1 0) [y0 + h0, y1] w) := by
  obtain ⟨q1, q2, q3⟩ := seedB_parts hs
  have q4 := posB_tot q1
  simp only [posB, List.all_cons, List.all_nil, Bool.and_true, Bool.and_eq_true, decide_eq_true_eq] at q2
  obtain ⟨r0, r1⟩ := q2
  rw [tot2] at q3
  have hlen : xs.length = 2 * P := h.l1.trans hn
  rw [e0] at q3 q4
  have g0 : 0 ≤ h0 ∧ h0 ≤ 96 := by omega
  have g1 : y0 + h0 ≤ 96 := by omega
  have g2 : y1 + h0 ≤ 96 := by omega
  have hn16 : 0 < pn1 ∧ pn1 ≤ 16 := by omega
  have es : sumC xs = h0 := by rw [sumC_yes (inB_of_pos q1 (by omega)) (by omega)]; exact e0
  have HSm : Hid (∀ u, Below w.heap.size w u → Calls Try.prog 43 #[.slice p1 pn1 pc1] u fun e w' => e = .returned (.int .i64 h0) ∧ u = w') := Lib.hid (fun u hu => by rw [← es]; exact l04Sum_any p1 pc1 pn1 xs u h.l1 (h.r1.below hu))
  have hmk : ∀ v : World, (Instr.makeSlice 26 (.int .i64 pn1) (.int .i64 pn1)).run Try.prog v = .ok (.slice (some ⟨v.heap.size, 0, none⟩) pn1 pn1) (v.alloc (.cells (madeCells #[.int .i64 0] pn1) 2)) := fun v => run_make_row' (P := Try.prog) 26 2 (.int .i64 0) 8 Try.underlying26 infoN rfl .i64 .i64 pn1 (by omega) (by omega) v
  have HP := Lib.hid (hq.below (al1 w (.cells #[.slice none 0 0, .slice none 0 0, .int .i64 0] 28)))
  have HR := Lib.hid (hr.below (al1 w (.cells #[.slice none 0 0, .slice none 0 0, .int .i64 0] 28)))
  have HZ := Lib.hid (zero_new w 28)
  have HB := Lib.hid (show OnW w _ from al1 w (.cells #[.slice none 0 0, .slice none 0 0, .int .i64 0] 28))
  have hrb := hr.1
  have hpb := hq.1
  have H := Lib.hid h
  have Hn := Lib.hid hn
  clear h hs q1 e0 es hn hlen q4 hr hq
  go_enter Try.func24, Try.ntmps24
  go_upto_region 1 with fail
  generalize w.alloc (.cells #[.slice none 0 0, .slice none 0 0, .int .i64 0] 28) = w1 at *
  have hw1 : w.heap.size + 1 ≤ w1.heap.size := HZ.out.lt
  go_cut [5] (fun s5 wx => ∃ s0 b5 b6 c6 : Nat, s5 = .pointer (some ⟨s0, 0, none⟩) ∧ EsJ w rb pb (P : Int) s c l st sk re fe ag p1 p2 pn1 pc1 2 pc2 pp s0 b5 pn1 b6 c6 (List.replicate pn1 0) y0 y1 wx)
  case first =>
    have HT : Hid (∀ u : World, PoAt u pb p1 p2 pn1 pc1 2 pc2 pp → OnW w u → (pb < u.heap.size ∧ u.cell? ⟨pb, 0, none⟩ = some (.slice p1 pn1 pc1) ∧ u.cell? ⟨pb, 1, none⟩ = some (.slice p2 2 pc2) ∧ u.cell? ⟨pb, 2, none⟩ = some (.int .i64 pp)) ∧ Below w.heap.size w u) := Lib.hid (fun u h k => ⟨h, k⟩)
    go_region_held3 (fun u => (pb < u.heap.size ∧ u.cell? ⟨pb, 0, none⟩ = some (.slice p1 pn1 pc1) ∧ u.cell? ⟨pb, 1, none⟩ = some (.slice p2 2 pc2) ∧ u.cell? ⟨pb, 2, none⟩ = some (.int .i64 pp)) ∧ Below w.heap.size w u) (first | with_reducible exact HT.out _ HP.out HB.out | with_reducible exact HT.out _ HP.out.drew HB.out.drew | with_reducible exact HT.out _ (HP.out.below (al1 _ _)) (HB.out.below (al1 _ _)) | with_reducible exact HT.out _ (HP.out.drew.below (al1 _ _)) (HB.out.drew.below (al1 _ _)) | with_reducible exact HT.out _ (HP.out.below (al1 _ _)).drew (HB.out.below (al1 _ _)).drew | with_reducible exact HT.out _ (HP.out.below (al2 _ _ _)) (HB.out.below (al2 _ _ _)) | with_reducible exact HT.out _ (HP.out.drew.below (al2 _ _ _)) (HB.out.drew.below (al2 _ _ _)) | with_reducible exact HT.out _ (HP.out.below (al2 _ _ _)).drew (HB.out.below (al2 _ _ _)).drew | with_reducible exact HT.out _ (HP.out.set3 (by omega) _ _ _) (HB.out.set3 (by omega) _ _ _) | with_reducible exact HT.out _ ((HP.out.below (al1 _ _)).set3 (by omega) _ _ _) ((HB.out.below (al1 _ _)).set3 (by omega) _ _ _) | with_reducible exact HT.out _ ((HP.out.set3 (by omega) _ _ _).below (al1 _ _)) ((HB.out.set3 (by omega) _ _ _).below (al1 _ _)))
      ((go_at_call 44; (with_reducible refine (l00Own_any p2 pc2 2 [y0, y1] _ H.out.l2 ?_ (by simp)).mono ?_); (first | with_reducible exact H.out.r2.below (HB.out).bel9 | with_reducible exact H.out.r2.below (HB.out.drew).bel9 | with_reducible exact H.out.r2.below (HB.out.below (al1 _ _)).bel9 | with_reducible exact H.out.r2.below (HB.out.drew.below (al1 _ _)).bel9 | with_reducible exact H.out.r2.below ((HB.out.below (al1 _ _)).drew).bel9 | with_reducible exact H.out.r2.below (HB.out.below (al2 _ _ _)).bel9 | with_reducible exact H.out.r2.below (HB.out.drew.below (al2 _ _ _)).bel9 | with_reducible exact H.out.r2.below ((HB.out.below (al2 _ _ _)).drew).bel9); rintro e w6 ⟨v2, rfl, hown, hb6⟩; (obtain ⟨c6, b6, rfl, o6, hlt6, hc6⟩ := outN_own hown rfl (by omega) (by simp)); have O6 := Lib.hid o6; have nb6 := o6.new; (first | with_reducible have HM := Lib.hid ((out_mk9 _ pn1 2 hn16.1 hn16.2).below hb6) | with_reducible have HM := Lib.hid ((out_mk9 _ pn1 2 hn16.1 hn16.2).drew.below hb6) | with_reducible have HM := Lib.hid (((out_mk9 _ pn1 2 hn16.1 hn16.2).alloc _).below hb6) | with_reducible have HM := Lib.hid (((out_mk9 _ pn1 2 hn16.1 hn16.2).alloc _).drew.below hb6) | skip); (first | with_reducible have HY := Lib.hid ((zero_new _ 28).below hb6) | with_reducible have HY := Lib.hid ((zero_new _ 28).drew.below hb6) | with_reducible have HY := Lib.hid (((zero_new _ 28).alloc _).below hb6) | with_reducible have HY := Lib.hid (((zero_new _ 28).alloc _).drew.below hb6) | skip); (first | with_reducible have HP := Lib.hid (HP.out.below hb6) | with_reducible have HP := Lib.hid (HP.out.drew.below hb6) | with_reducible have HP := Lib.hid ((HP.out.below (al1 _ _)).below hb6) | with_reducible have HP := Lib.hid ((HP.out.drew.below (al1 _ _)).below hb6) | with_reducible have HP := Lib.hid ((HP.out.below (al1 _ _)).drew.below hb6) | with_reducible have HP := Lib.hid ((HP.out.below (al2 _ _ _)).below hb6) | with_reducible have HP := Lib.hid ((HP.out.drew.below (al2 _ _ _)).below hb6) | with_reducible have HP := Lib.hid ((HP.out.below (al2 _ _ _)).drew.below hb6)); (first | with_reducible have HR := Lib.hid (HR.out.below hb6) | with_reducible have HR := Lib.hid (HR.out.drew9.below hb6) | with_reducible have HR := Lib.hid ((HR.out.below (al1 _ _)).below hb6) | with_reducible have HR := Lib.hid ((HR.out.drew9.below (al1 _ _)).below hb6) | with_reducible have HR := Lib.hid ((HR.out.below (al1 _ _)).drew9.below hb6) | with_reducible have HR := Lib.hid ((HR.out.below (al2 _ _ _)).below hb6) | with_reducible have HR := Lib.hid ((HR.out.drew9.below (al2 _ _ _)).below hb6) | with_reducible have HR := Lib.hid ((HR.out.below (al2 _ _ _)).drew9.below hb6)); (first | with_reducible have HZ := Lib.hid (HZ.out.below hb6) | with_reducible have HZ := Lib.hid (HZ.out.drew.below hb6) | with_reducible have HZ := Lib.hid ((HZ.out.below (al1 _ _)).below hb6) | with_reducible have HZ := Lib.hid ((HZ.out.drew.below (al1 _ _)).below hb6) | with_reducible have HZ := Lib.hid ((HZ.out.below (al1 _ _)).drew.below hb6) | with_reducible have HZ := Lib.hid ((HZ.out.below (al2 _ _ _)).below hb6) | with_reducible have HZ := Lib.hid ((HZ.out.drew.below (al2 _ _ _)).below hb6) | with_reducible have HZ := Lib.hid ((HZ.out.below (al2 _ _ _)).drew.below hb6)); (first | with_reducible have HB := Lib.hid (HB.out.below hb6) | with_reducible have HB := Lib.hid (HB.out.drew.below hb6) | with_reducible have HB := Lib.hid ((HB.out.below (al1 _ _)).below hb6) | with_reducible have HB := Lib.hid ((HB.out.drew.below (al1 _ _)).below hb6) | with_reducible have HB := Lib.hid ((HB.out.below (al1 _ _)).drew.below hb6) | with_reducible have HB := Lib.hid ((HB.out.below (al2 _ _ _)).below hb6) | with_reducible have HB := Lib.hid ((HB.out.drew.below (al2 _ _ _)).below hb6) | with_reducible have HB := Lib.hid ((HB.out.below (al2 _ _ _)).drew.below hb6)); have sz6 := hb6.size; (try (have hm9 := HM.out; (try simp only [World.size_alloc] at hm9); have HM := Lib.hid hm9; clear hm9)); (try (have hy9 := HY.out; (try simp only [World.size_alloc] at hy9); have HY := Lib.hid hy9; obtain ⟨yz, ya, yb, yc, yf⟩ := hy9; have ff0 := yf 0; have ff1 := yf 1; have ff2 := yf 2; clear yf)); clear hown hb6 o6))
    all_goals (try simp at nb6)
    all_goals (try simp at sz6)
    all_goals go_wp2_with fail
    all_goals go_meet
    all_goals first
      | exact ⟨_, _, _, _, rfl, es_fin2 28 HR.out HP.out hrb hpb HZ.out HM.out O6.out (by omega) (by omega) hlt6 (by omega) (by first | omega | (simp; omega)) hc6 HB.out⟩
      | exact ⟨_, _, _, _, rfl, es_fin1 HR.out HP.out hrb hpb HZ.out HY.out HM.out O6.out (by omega) (by omega) (by omega) (by omega) hlt6 (by omega) (by omega) (by first | omega | (simp; omega)) hc6 HB.out⟩
      | (have hh9 := es_fin2 (w := w) (c6 := c6) (p1 := p1) (pn1 := pn1) (y0 := y0) 28 (HR.out.below (al1 _ _)) (HP.out.below (al1 _ _)) hrb hpb (HZ.out.below (al1 _ _)) (out_mk9 w6 pn1 2 hn16.1 hn16.2) (O6.out.below (al1 _ _)) (by omega) (by simp) (by simp; omega) (by omega) (by first | omega | (simp; omega)) hc6 (HB.out.below (al1 _ _)); rw [World.size_alloc] at hh9; exact ⟨_, _, _, _, rfl, hh9⟩)
      | exact ⟨_, _, _, _, rfl, es_fin4 28 2 hn16.1 hn16.2 HR.out HP.out hrb hpb HZ.out O6.out hlt6 (by first | omega | (simp; omega)) hc6 HB.out⟩
      | exact ⟨_, _, _, _, rfl, es_fin6 2 hn16.1 hn16.2 HR.out HP.out hrb hpb HZ.out HY.out O6.out (by omega) hlt6 (by omega) (by first | omega | (simp; omega)) hc6 HB.out⟩
  case rest =>
    obtain ⟨s0, b5, b6, c6, rfl, hJ⟩ := hcut
    have HJ := Lib.hid hJ
    clear hJ HP HR HZ HB hmk
    have hw : IntKind.i64.wrap (y0 + h0) = y0 + h0 := IntWalk.i64_in _ ⟨by omega, by omega⟩
    have HW := Lib.hid hw
    go_upto_region 2 with fail
    obtain ⟨_, t0, t1, t2⟩ := HJ.out.s
    obtain ⟨_, x0, x1, x2⟩ := HJ.out.po
    obtain ⟨z0, zf⟩ := HJ.out.at0
    have HD := Lib.hid (HJ.out.below (Below.refl _ _).drew)
    go_region_law ((go_simp; go_at_call 43; (with_reducible refine (HSm.out _ HD.out.be).mono ?_); rintro e w9 ⟨rfl, rfl⟩))
    all_goals
      have HN := Lib.hid ((HJ.out.set0 (y0 + h0)).below (Below.refl _ _).drew)
      clear HD HJ x0 x1 x2 z0 zf t0 t1 t2
      generalize (wc.setCell ⟨b6, 0, none⟩ (.int .i64 (y0 + h0))).drew = W8 at *
      obtain ⟨_, t0, t1, t2⟩ := HN.out.s
      obtain ⟨zl, z0, z1, z2, zf⟩ := HN.out.z
      have f0 := zf 0
      have f1 := zf 1
      have f2 := zf 2
      clear zf
      go_wp2_with fail
      have hn5 := HN.out.o.o1.new
      have hn6 := HN.out.o.o2.new
      refine bodyPost_ret (v := .agg #[.slice (some ⟨b5, 0, none⟩) pn1 pn1, .slice (some ⟨b6, 0, none⟩) 2 c6, .int .i64 pp]) (by simp [results, Try.results24, go_sem, z0, z1, z2]) rfl ⟨b5, pn1, b6, c6, rfl, (HN.out.o.set3 _ _ _ (by omega) (by omega)).lower (by omega), by simpa using HN.out.l5, by simpa using HN.out.l6, HN.out.k5, HN.out.k6, OnW.set3 (show OnW w W8 from HN.out.be) (by omega) _ _ _⟩
set_option maxHeartbeats 8000000 in
set_option maxRecDepth 100000 in
theorem give_any1 (P : Nat) (s c l : Int) (st sk re fe ag : Bool) (p1 p2 : Option Addr) (pn1 pc1 pc2 : Nat) (pp : Int) (xs : List Int) (y0 y1 h0 : Int) (rb pb : Nat) (w : World) (hr : RuAt w rb (P : Int) s c l st sk re fe ag) (hq : PoAt w pb p1 p2 pn1 pc1 2 pc2 pp) (h : PosR w p1 p2 pn1 2 xs [y0, y1]) (hs : seedB xs [y0, y1] = true) (hP : 2 ≤ P) (hP2 : P ≤ 8) (hn : pn1 = 2 * P) (e0 : tot xs = h0) :
    Calls Try.prog 24 #[.pointer (some ⟨pb, 0, none⟩), .int .i64 1] w (PosQ pn1 2 pp (List.replicate pn1 0) [y0, y1 + h0] w) := by
  obtain ⟨q1, q2, q3⟩ := seedB_parts hs
  have q4 := posB_tot q1
  simp only [posB, List.all_cons, List.all_nil, Bool.and_true, Bool.and_eq_true, decide_eq_true_eq] at q2
  obtain ⟨r0, r1⟩ := q2
  rw [tot2] at q3
  have hlen : xs.length = 2 * P := h.l1.trans hn
  rw [e0] at q3 q4
  have g0 : 0 ≤ h0 ∧ h0 ≤ 96 := by omega
  have g1 : y0 + h0 ≤ 96 := by omega
  have g2 : y1 + h0 ≤ 96 := by omega
  have hn16 : 0 < pn1 ∧ pn1 ≤ 16 := by omega
  have es : sumC xs = h0 := by rw [sumC_yes (inB_of_pos q1 (by omega)) (by omega)]; exact e0
  have HSm : Hid (∀ u, Below w.heap.size w u → Calls Try.prog 43 #[.slice p1 pn1 pc1] u fun e w' => e = .returned (.int .i64 h0) ∧ u = w') := Lib.hid (fun u hu => by rw [← es]; exact l04Sum_any p1 pc1 pn1 xs u h.l1 (h.r1.below hu))
  have hmk : ∀ v : World, (Instr.makeSlice 26 (.int .i64 pn1) (.int .i64 pn1)).run Try.prog v = .ok (.slice (some ⟨v.heap.size, 0, none⟩) pn1 pn1) (v.alloc (.cells (madeCells #[.int .i64 0] pn1) 2)) := fun v => run_make_row' (P := Try.prog) 26 2 (.int .i64 0) 8 Try.underlying26 infoN rfl .i64 .i64 pn1 (by omega) (by omega) v
  have HP := Lib.hid (hq.below (al1 w (.cells #[.slice none 0 0, .slice none 0 0, .int .i64 0] 28)))
  have HR := Lib.hid (hr.below (al1 w (.cells #[.slice none 0 0, .slice none 0 0, .int .i64 0] 28)))
  have HZ := Lib.hid (zero_new w 28)
  have HB := Lib.hid (show OnW w _ from al1 w (.cells #[.slice none 0 0, .slice none 0 0, .int .i64 0] 28))
  have hrb := hr.1
  have hpb := hq.1
  have H := Lib.hid h
  have Hn := Lib.hid hn
  clear h hs q1 e0 es hn hlen q4 hr hq
  go_enter Try.func24, Try.ntmps24
  go_upto_region 1 with fail
  generalize w.alloc (.cells #[.slice none 0 0, .slice none 0 0, .int .i64 0] 28) = w1 at *
  have hw1 : w.heap.size + 1 ≤ w1.heap.size := HZ.out.lt
  go_cut [5] (fun s5 wx => ∃ s0 b5 b6 c6 : Nat, s5 = .pointer (some ⟨s0, 0, none⟩) ∧ EsJ w rb pb (P : Int) s c l st sk re fe ag p1 p2 pn1 pc1 2 pc2 pp s0 b5 pn1 b6 c6 (List.replicate pn1 0) y0 y1 wx)
  case first =>
    have HT : Hid (∀ u : World, PoAt u pb p1 p2 pn1 pc1 2 pc2 pp → OnW w u → (pb < u.heap.size ∧ u.cell? ⟨pb, 0, none⟩ = some (.slice p1 pn1 pc1) ∧ u.cell? ⟨pb, 1, none⟩ = some (.slice p2 2 pc2) ∧ u.cell? ⟨pb, 2, none⟩ = some (.int .i64 pp)) ∧ Below w.heap.size w u) := Lib.hid (fun u h k => ⟨h, k⟩)
    go_region_held3 (fun u => (pb < u.heap.size ∧ u.cell? ⟨pb, 0, none⟩ = some (.slice p1 pn1 pc1) ∧ u.cell? ⟨pb, 1, none⟩ = some (.slice p2 2 pc2) ∧ u.cell? ⟨pb, 2, none⟩ = some (.int .i64 pp)) ∧ Below w.heap.size w u) (first | with_reducible exact HT.out _ HP.out HB.out | with_reducible exact HT.out _ HP.out.drew HB.out.drew | with_reducible exact HT.out _ (HP.out.below (al1 _ _)) (HB.out.below (al1 _ _)) | with_reducible exact HT.out _ (HP.out.drew.below (al1 _ _)) (HB.out.drew.below (al1 _ _)) | with_reducible exact HT.out _ (HP.out.below (al1 _ _)).drew (HB.out.below (al1 _ _)).drew | with_reducible exact HT.out _ (HP.out.below (al2 _ _ _)) (HB.out.below (al2 _ _ _)) | with_reducible exact HT.out _ (HP.out.drew.below (al2 _ _ _)) (HB.out.drew.below (al2 _ _ _)) | with_reducible exact HT.out _ (HP.out.below (al2 _ _ _)).drew (HB.out.below (al2 _ _ _)).drew | with_reducible exact HT.out _ (HP.out.set3 (by omega) _ _ _) (HB.out.set3 (by omega) _ _ _) | with_reducible exact HT.out _ ((HP.out.below (al1 _ _)).set3 (by omega) _ _ _) ((HB.out.below (al1 _ _)).set3 (by omega) _ _ _) | with_reducible exact HT.out _ ((HP.out.set3 (by omega) _ _ _).below (al1 _ _)) ((HB.out.set3 (by omega) _ _ _).below (al1 _ _)))
      ((go_at_call 44; (with_reducible refine (l00Own_any p2 pc2 2 [y0, y1] _ H.out.l2 ?_ (by simp)).mono ?_); (first | with_reducible exact H.out.r2.below (HB.out).bel9 | with_reducible exact H.out.r2.below (HB.out.drew).bel9 | with_reducible exact H.out.r2.below (HB.out.below (al1 _ _)).bel9 | with_reducible exact H.out.r2.below (HB.out.drew.below (al1 _ _)).bel9 | with_reducible exact H.out.r2.below ((HB.out.below (al1 _ _)).drew).bel9 | with_reducible exact H.out.r2.below (HB.out.below (al2 _ _ _)).bel9 | with_reducible exact H.out.r2.below (HB.out.drew.below (al2 _ _ _)).bel9 | with_reducible exact H.out.r2.below ((HB.out.below (al2 _ _ _)).drew).bel9); rintro e w6 ⟨v2, rfl, hown, hb6⟩; (obtain ⟨c6, b6, rfl, o6, hlt6, hc6⟩ := outN_own hown rfl (by omega) (by simp)); have O6 := Lib.hid o6; have nb6 := o6.new; (first | with_reducible have HM := Lib.hid ((out_mk9 _ pn1 2 hn16.1 hn16.2).below hb6) | with_reducible have HM := Lib.hid ((out_mk9 _ pn1 2 hn16.1 hn16.2).drew.below hb6) | with_reducible have HM := Lib.hid (((out_mk9 _ pn1 2 hn16.1 hn16.2).alloc _).below hb6) | with_reducible have HM := Lib.hid (((out_mk9 _ pn1 2 hn16.1 hn16.2).alloc _).drew.below hb6) | skip); (first | with_reducible have HY := Lib.hid ((zero_new _ 28).below hb6) | with_reducible have HY := Lib.hid ((zero_new _ 28).drew.below hb6) | with_reducible have HY := Lib.hid (((zero_new _ 28).alloc _).below hb6) | with_reducible have HY := Lib.hid (((zero_new _ 28).alloc _).drew.below hb6) | skip); (first | with_reducible have HP := Lib.hid (HP.out.below hb6) | with_reducible have HP := Lib.hid (HP.out.drew.below hb6) | with_reducible have HP := Lib.hid ((HP.out.below (al1 _ _)).below hb6) | with_reducible have HP := Lib.hid ((HP.out.drew.below (al1 _ _)).below hb6) | with_reducible have HP := Lib.hid ((HP.out.below (al1 _ _)).drew.below hb6) | with_reducible have HP := Lib.hid ((HP.out.below (al2 _ _ _)).below hb6) | with_reducible have HP := Lib.hid ((HP.out.drew.below (al2 _ _ _)).below hb6) | with_reducible have HP := Lib.hid ((HP.out.below (al2 _ _ _)).drew.below hb6)); (first | with_reducible have HR := Lib.hid (HR.out.below hb6) | with_reducible have HR := Lib.hid (HR.out.drew9.below hb6) | with_reducible have HR := Lib.hid ((HR.out.below (al1 _ _)).below hb6) | with_reducible have HR := Lib.hid ((HR.out.drew9.below (al1 _ _)).below hb6) | with_reducible have HR := Lib.hid ((HR.out.below (al1 _ _)).drew9.below hb6) | with_reducible have HR := Lib.hid ((HR.out.below (al2 _ _ _)).below hb6) | with_reducible have HR := Lib.hid ((HR.out.drew9.below (al2 _ _ _)).below hb6) | with_reducible have HR := Lib.hid ((HR.out.below (al2 _ _ _)).drew9.below hb6)); (first | with_reducible have HZ := Lib.hid (HZ.out.below hb6) | with_reducible have HZ := Lib.hid (HZ.out.drew.below hb6) | with_reducible have HZ := Lib.hid ((HZ.out.below (al1 _ _)).below hb6) | with_reducible have HZ := Lib.hid ((HZ.out.drew.below (al1 _ _)).below hb6) | with_reducible have HZ := Lib.hid ((HZ.out.below (al1 _ _)).drew.below hb6) | with_reducible have HZ := Lib.hid ((HZ.out.below (al2 _ _ _)).below hb6) | with_reducible have HZ := Lib.hid ((HZ.out.drew.below (al2 _ _ _)).below hb6) | with_reducible have HZ := Lib.hid ((HZ.out.below (al2 _ _ _)).drew.below hb6)); (first | with_reducible have HB := Lib.hid (HB.out.below hb6) | with_reducible have HB := Lib.hid (HB.out.drew.below hb6) | with_reducible have HB := Lib.hid ((HB.out.below (al1 _ _)).below hb6) | with_reducible have HB := Lib.hid ((HB.out.drew.below (al1 _ _)).below hb6) | with_reducible have HB := Lib.hid ((HB.out.below (al1 _ _)).drew.below hb6) | with_reducible have HB := Lib.hid ((HB.out.below (al2 _ _ _)).below hb6) | with_reducible have HB := Lib.hid ((HB.out.drew.below (al2 _ _ _)).below hb6) | with_reducible have HB := Lib.hid ((HB.out.below (al2 _ _ _)).drew.below hb6)); have sz6 := hb6.size; (try (have hm9 := HM.out; (try simp only [World.size_alloc] at hm9); have HM := Lib.hid hm9; clear hm9)); (try (have hy9 := HY.out; (try simp only [World.size_alloc] at hy9); have HY := Lib.hid hy9; obtain ⟨yz, ya, yb, yc, yf⟩ := hy9; have ff0 := yf 0; have ff1 := yf 1; have ff2 := yf 2; clear yf)); clear hown hb6 o6))
    all_goals (try simp at nb6)
    all_goals (try simp at sz6)
    all_goals go_wp2_with fail
    all_goals go_meet
    all_goals first
      | exact ⟨_, _, _, _, rfl, es_fin2 28 HR.out HP.out hrb hpb HZ.out HM.out O6.out (by omega) (by omega) hlt6 (by omega) (by first | omega | (simp; omega)) hc6 HB.out⟩
      | exact ⟨_, _, _, _, rfl, es_fin1 HR.out HP.out hrb hpb HZ.out HY.out HM.out O6.out (by omega) (by omega) (by omega) (by omega) hlt6 (by omega) (by omega) (by first | omega | (simp; omega)) hc6 HB.out⟩
      | (have hh9 := es_fin2 (w := w) (c6 := c6) (p1 := p1) (pn1 := pn1) (y0 := y0) 28 (HR.out.below (al1 _ _)) (HP.out.below (al1 _ _)) hrb hpb (HZ.out.below (al1 _ _)) (out_mk9 w6 pn1 2 hn16.1 hn16.2) (O6.out.below (al1 _ _)) (by omega) (by simp) (by simp; omega) (by omega) (by first | omega | (simp; omega)) hc6 (HB.out.below (al1 _ _)); rw [World.size_alloc] at hh9; exact ⟨_, _, _, _, rfl, hh9⟩)
      | exact ⟨_, _, _, _, rfl, es_fin4 28 2 hn16.1 hn16.2 HR.out HP.out hrb hpb HZ.out O6.out hlt6 (by first | omega | (simp; omega)) hc6 HB.out⟩
      | exact ⟨_, _, _, _, rfl, es_fin6 2 hn16.1 hn16.2 HR.out HP.out hrb hpb HZ.out HY.out O6.out (by omega) hlt6 (by omega) (by first | omega | (simp; omega)) hc6 HB.out⟩
  case rest =>
    obtain ⟨s0, b5, b6, c6, rfl, hJ⟩ := hcut
    have HJ := Lib.hid hJ
    clear hJ HP HR HZ HB hmk
    have hw : IntKind.i64.wrap (y1 + h0) = y1 + h0 := IntWalk.i64_in _ ⟨by omega, by omega⟩
    have HW := Lib.hid hw
    go_upto_region 2 with fail
    obtain ⟨_, t0, t1, t2⟩ := HJ.out.s
    obtain ⟨_, x0, x1, x2⟩ := HJ.out.po
    obtain ⟨z0, zf⟩ := HJ.out.at1
    have HD := Lib.hid (HJ.out.below (Below.refl _ _).drew)
    go_region_law ((go_simp; go_at_call 43; (with_reducible refine (HSm.out _ HD.out.be).mono ?_); rintro e w9 ⟨rfl, rfl⟩))
    all_goals
      have HN := Lib.hid ((HJ.out.set1 (y1 + h0)).below (Below.refl _ _).drew)
      clear HD HJ x0 x1 x2 z0 zf t0 t1 t2
      generalize (wc.setCell ⟨b6, 1, none⟩ (.int .i64 (y1 + h0))).drew = W8 at *
      obtain ⟨_, t0, t1, t2⟩ := HN.out.s
      obtain ⟨zl, z0, z1, z2, zf⟩ := HN.out.z
      have f0 := zf 0
      have f1 := zf 1
      have f2 := zf 2
      clear zf
      go_wp2_with fail
      have hn5 := HN.out.o.o1.new
      have hn6 := HN.out.o.o2.new
      refine bodyPost_ret (v := .agg #[.slice (some ⟨b5, 0, none⟩) pn1 pn1, .slice (some ⟨b6, 0, none⟩) 2 c6, .int .i64 pp]) (by simp [results, Try.results24, go_sem, z0, z1, z2]) rfl ⟨b5, pn1, b6, c6, rfl, (HN.out.o.set3 _ _ _ (by omega) (by omega)).lower (by omega), by simpa using HN.out.l5, by simpa using HN.out.l6, HN.out.k5, HN.out.k6, OnW.set3 (show OnW w W8 from HN.out.be) (by omega) _ _ _⟩
end Go.Proofs.Ytgogjjkecbgbiaa
