/- AtIndex of the reference; what the laws on PositionAt and AtIndex ask. No conditions. -/
import Derived.Test.YthbgfkklejnhiaaN17
namespace Go.Proofs.Ythbgfkklejnhiaa
open Go.Joins Go.ChangeShapes Go.WideShapes Go.ChangeAt Go.RowKit Go.Deep
set_option linter.unusedVariables false

set_option maxHeartbeats 2000000 in
theorem specAt_inv (p s c l : Int) (st sk re fe ag : Bool) (i : Int) (w : World) (hk : okR p s c l st ag = false) :
    Calls Try.prog 37 #[.agg #[.int .i64 p, .int .i64 s, .bool st, .bool sk, .bool re, .bool fe, .bool ag, .int .i64 c, .int .i64 l], .int .i64 i] w (PosZ 0 0 0 1 [] [] w) := by
  have HS := Lib.hid (show RbAt w w.heap.size p s c l st sk re fe ag _ from ⟨(ru_new p s c l st sk re fe ag w 25).below (al1 _ (.cells #[.slice none 0 0, .slice none 0 0, .int .i64 0] 28)), al2 _ _ _⟩)
  have HZ := Lib.hid (zero_at1b p s c l st sk re fe ag w 25 28)
  have HK := Lib.hid (fun (u : World) (hu : RuAt u w.heap.size p s c l st sk re fe ag) => show Calls Try.prog 71 #[.pointer (some ⟨w.heap.size, 0, none⟩)] u fun e w' => e = .returned (.bool false) ∧ u = w' from (by obtain ⟨hz, r0, r1, r2, r3, r4, r5, r6, r7, r8⟩ := hu; exact l02Ok_b p s c l st sk re fe ag _ hk _ u r0 r1 r2 r3 r4 r5 r6 r7 r8))
  clear hk
  go_enter Try.func37, Try.ntmps37
  go_wp2_with fail
  refine (HK.out _ HS.out.1).mono ?_
  rintro e u ⟨rfl, hu⟩
  rw [hu] at HS HZ
  clear hu
  obtain ⟨zl, z0, z1, z2, zf⟩ := HZ.out
  have f0 := zf 0
  have f1 := zf 1
  have f2 := zf 2
  clear zf
  go_wp2_with fail
  refine bodyPost_ret (v := .tuple #[.agg #[.slice none 0 0, .slice none 0 0, .int .i64 0], .int .i64 1]) (by simp [results, Try.results37, go_sem, z0, z1, z2]) rfl ?_
  exact posZ_zero 1 (HS.out.set3 (z := w.heap.size + 1) (by omega) (by omega) _ _ _).2 (by simp; omega)
set_option maxHeartbeats 8000000 in
set_option maxRecDepth 100000 in
theorem specAt_gen (P : Nat) (s c l : Int) (st sk re fe ag : Bool) (i : Int) (w : World) (hok : okR (P : Int) s c l st ag = true) (m1 m2 : Nat) (cd : Int) (us vs : List Int)
    (hYes : ∀ (M : Nat) (u : World), RuAt u w.heap.size (P : Int) s c l st sk re fe ag → Rt P i M → Calls Try.prog 66 #[.pointer (some ⟨w.heap.size, 0, none⟩), .int .i64 M, .int .i64 (i - (bf P M : Int))] u (PosQ m1 m2 0 us vs u)) (hcd : ∀ M, Rt P i M → cd = 0)
    (hNo : (∀ M, ¬ Rt P i M) → m1 = 0 ∧ m2 = 0 ∧ cd = 2 ∧ us = [] ∧ vs = []) :
    Calls Try.prog 37 #[.agg #[.int .i64 P, .int .i64 s, .bool st, .bool sk, .bool re, .bool fe, .bool ag, .int .i64 c, .int .i64 l], .int .i64 i] w (PosZ m1 m2 0 cd us vs w) := by
  have HS := Lib.hid (show RbAt w w.heap.size (P : Int) s c l st sk re fe ag _ from ⟨(ru_new (P : Int) s c l st sk re fe ag w 25).below (al1 _ (.cells #[.slice none 0 0, .slice none 0 0, .int .i64 0] 28)), al2 _ _ _⟩)
  have HZ := Lib.hid (zero_at1b (P : Int) s c l st sk re fe ag w 25 28)
  have HK := Lib.hid (fun (u : World) (hu : RuAt u w.heap.size (P : Int) s c l st sk re fe ag) => show Calls Try.prog 71 #[.pointer (some ⟨w.heap.size, 0, none⟩)] u fun e w' => e = .returned (.bool true) ∧ u = w' from (by obtain ⟨hz, r0, r1, r2, r3, r4, r5, r6, r7, r8⟩ := hu; exact l02Ok_b (P : Int) s c l st sk re fe ag _ hok _ u r0 r1 r2 r3 r4 r5 r6 r7 r8))
  have HYes := Lib.hid hYes
  have HCd := Lib.hid hcd
  have HNo := Lib.hid hNo
  have Hok := Lib.hid hok
  obtain ⟨hp1, hp2, -⟩ := okR_bd hok
  clear hYes hcd hNo hok
  rcases hin : (decide (0 ≤ i) && decide (i ≤ 999999999)) with _ | _
  · have hno := HNo.out (fun M hM => by
      have h1 := hM.lo
      have h2 := hM.hi
      have h3 := hM.fit
      have h4 : (decide (0 ≤ i) && decide (i ≤ 999999999)) = true := by rw [decide_eq_true (by omega : 0 ≤ i), decide_eq_true (by omega : i ≤ 999999999)]; rfl
      rw [hin] at h4
      cases h4)
    obtain ⟨rfl, rfl, rfl, rfl, rfl⟩ := hno
    have HI := Lib.hid hin
    clear hin
    go_enter Try.func37, Try.ntmps37
    go_wp2_with fail
    refine (HK.out _ HS.out.1).mono ?_
    rintro e u ⟨rfl, hu⟩
    rw [hu] at HS HZ
    clear hu
    obtain ⟨zl, z0, z1, z2, zf⟩ := HZ.out
    have f0 := zf 0
    have f1 := zf 1
    have f2 := zf 2
    clear zf
    go_wp2_with (go_at_call 65; with_reducible refine (in_b _ 0 999999999 false HI.out _).mono ?_; rintro e w' ⟨rfl, rfl⟩)
    refine bodyPost_ret (v := .tuple #[.agg #[.slice none 0 0, .slice none 0 0, .int .i64 0], .int .i64 2]) (by simp [results, Try.results37, go_sem, z0, z1, z2]) rfl ?_
    exact posZ_zero 2 (HS.out.set3 (z := w.heap.size + 1) (by omega) (by omega) _ _ _).2 (by simp; omega)
  · have hin2 := hin
    simp only [Bool.and_eq_true, decide_eq_true_eq] at hin2
    obtain ⟨i1, i2⟩ := hin2
    have HI := Lib.hid hin
    clear hin
    go_enter Try.func37, Try.ntmps37
    go_wp2_with fail
    refine (HK.out _ HS.out.1).mono ?_
    rintro e u ⟨rfl, hu⟩
    rw [hu] at HS HZ
    clear hu
    go_wp2_with (go_at_call 65; with_reducible refine (in_b _ 0 999999999 true HI.out _).mono ?_; rintro e w' ⟨rfl, rfl⟩)
    go_loopw [6] (fun sv wr => ∃ S : Nat, sv = .int .i64 (S : Int) ∧ S ≤ 97 ∧ (bf P S : Int) ≤ i ∧ RbAt w w.heap.size (P : Int) s c l st sk re fe ag wr ∧ ZeroP wr (w.heap.size + 1)) (fun sv _ => 98 - (intOf sv).toNat)
    case atStart => exact ⟨0, rfl, by omega, by rw [bf_zero (by omega)]; exact i1, HS.out, HZ.out⟩
    case round =>
      obtain ⟨S, rfl, hS97, hbi, hs, hz⟩ := hrel
      have HS := Lib.hid hs
      have HZ := Lib.hid hz
      clear hs hz
      have HC := Lib.hid (fun (u : World) (hu : RuAt u w.heap.size (P : Int) s c l st sk re fe ag) => code13_any (P : Int) s c l st sk re fe ag (S : Int) w.heap.size u hu)
      rw [Hok.out] at HC
      by_cases hc : n13C true (P : Int) (S : Int) = 0
      · obtain ⟨-, S', hS', hS96, hb9⟩ := n13_parts hc
        obtain rfl : S = S' := by omega
        rw [Int.toNat_natCast] at hb9
        rw [hc] at HC
        have HB1 := Lib.hid (fun (u : World) (hu : RuAt u w.heap.size (P : Int) s c l st sk re fe ag) (n : Int) (hn : n = ((S + 1 : Nat) : Int)) => before_any P (S + 1) (P : Int) s c l st sk re fe ag n w.heap.size u hu hn rfl (by omega) (by omega) (by omega))
        rw [cut9_lo hb9] at HB1
        by_cases hlt : i < (bf P (S + 1) : Int)
        · have hrt : Rt P i S := ⟨hS96, hb9, hbi, hlt⟩
          have HB0 := Lib.hid (fun (u : World) (hu : RuAt u w.heap.size (P : Int) s c l st sk re fe ag) => before_any P S (P : Int) s c l st sk re fe ag (S : Int) w.heap.size u hu rfl rfl (by omega) (by omega) (by omega))
          rw [cut9_lo (cnt_fit (P := P) (S := S) (by omega) hb9).2] at HB0
          have HP := Lib.hid (fun (u : World) (hu : RuAt u w.heap.size (P : Int) s c l st sk re fe ag) => HYes.out S u hu hrt)
          have HCd := Lib.hid (HCd.out S hrt)
          have hwr : IntKind.i64.wrap (i - (bf P S : Int)) = i - (bf P S : Int) := IntWalk.i64_in _ ⟨by omega, by omega⟩
          generalize bf P (S + 1) = B1 at *
          generalize bf P S = B at *
          clear hc hrt hS'
          go_wp2_with fail
          refine (HC.out _ HS.out.1).mono ?_
          rintro e u ⟨rfl, hb⟩
          have HS := Lib.hid (HS.out.below hb)
          have HZ := Lib.hid (HZ.out.below hb)
          have hz0 := HZ.out.lt
          clear hb
          go_wp2_with fail
          refine (HB1.out _ HS.out.1 _ (by omega)).mono ?_
          rintro e u ⟨rfl, hb⟩
          have HS := Lib.hid (HS.out.below hb)
          have HZ := Lib.hid (HZ.out.below hb)
          have hz0 := HZ.out.lt
          clear hb
          go_wp2_with fail
          refine (HB0.out _ HS.out.1).mono ?_
          rintro e u ⟨rfl, hb⟩
          have HS := Lib.hid (HS.out.below hb)
          have HZ := Lib.hid (HZ.out.below hb)
          have hz0 := HZ.out.lt
          clear hb
          go_wp2_with fail
          refine (HP.out _ HS.out.1).mono ?_
          rintro e v ⟨g1, c1, g2, c2, rfl, ho, l1, l2, q1, q2, hb⟩
          have hus := HS.out.2.size
          have HS := Lib.hid (HS.out.below hb)
          have HZ := Lib.hid (HZ.out.below hb)
          have HO := Lib.hid ho
          have n1 := ho.o1.new
          have n2 := ho.o2.new
          clear hb ho
          obtain ⟨zl, z0, z1, z2, zf⟩ := HZ.out
          have f0 := zf 0
          have f1 := zf 1
          have f2 := zf 2
          clear zf
          go_wp2_with fail
          refine bodyPost_ret (v := .tuple #[.agg #[.slice (some ⟨g1, 0, none⟩) m1 c1, .slice (some ⟨g2, 0, none⟩) m2 c2, .int .i64 0], .int .i64 0]) (by simp [results, Try.results37, go_sem, z0, z1, z2]) rfl ?_
          rw [HCd.out]
          exact posZ_of 0 (HO.out.set3 _ _ _ (by omega) (by omega)) (by omega) (by simpa using l1) (by simpa using l2) q1 q2 (HS.out.set3 (z := w.heap.size + 1) (by omega) (by omega) _ _ _).2
        · have HL : Hid ((bf P (S + 1) : Int) ≤ i) := Lib.hid (by omega)
          generalize hB1 : bf P (S + 1) = B1 at *
          have HE := Lib.hid hB1
          clear hc hS' hB1
          go_wp2_with fail
          refine (HC.out _ HS.out.1).mono ?_
          rintro e u ⟨rfl, hb⟩
          have HS := Lib.hid (HS.out.below hb)
          have HZ := Lib.hid (HZ.out.below hb)
          have hz0 := HZ.out.lt
          clear hb
          go_wp2_with fail
          refine (HB1.out _ HS.out.1 _ (by omega)).mono ?_
          rintro e u ⟨rfl, hb⟩
          have HS := Lib.hid (HS.out.below hb)
          have HZ := Lib.hid (HZ.out.below hb)
          have hz0 := HZ.out.lt
          clear hb
          go_wp2_with fail
          go_roundw
          case rel => exact ⟨S + 1, by go_num, by omega, by rw [HE.out]; exact HL.out, HS.out, HZ.out⟩
          case measure => simp [intOf]; omega
      · have hno := HNo.out (fun M hM => by
          have h1 := hM.hi
          rcases Nat.lt_or_ge M S with h2 | h2
          · have := bf_le (P := P) (by omega) (show M + 1 ≤ S by omega); omega
          · have h3 := hM.s96
            exact hc (n13_yes (by omega) (Nat.le_trans (bf_le (by omega) (by omega)) hM.fit)))
        obtain ⟨rfl, rfl, rfl, rfl, rfl⟩ := hno
        generalize n13C true (P : Int) (S : Int) = C at *
        have d1 : (C == 0) = false := by simpa using hc
        clear hc
        go_wp2_with fail
        refine (HC.out _ HS.out.1).mono ?_
        rintro e u ⟨rfl, hb⟩
        have HS := Lib.hid (HS.out.below hb)
        have HZ := Lib.hid (HZ.out.below hb)
        have hz0 := HZ.out.lt
        clear hb
        obtain ⟨zl, z0, z1, z2, zf⟩ := HZ.out
        have f0 := zf 0
        have f1 := zf 1
        have f2 := zf 2
        clear zf
        go_wp2_with fail
        refine bodyPost_ret (v := .tuple #[.agg #[.slice none 0 0, .slice none 0 0, .int .i64 0], .int .i64 2]) (by simp [results, Try.results37, go_sem, z0, z1, z2]) rfl ?_
        exact posZ_zero 2 (HS.out.set3 (z := w.heap.size + 1) (by omega) (by omega) _ _ _).2 (by simp; omega)
theorem pa_ex (p s c l : Int) (st sk re fe ag : Bool) (n m : Int) :
    ∃ (m1 m2 : Nat) (pl cd : Int) (us vs : List Int), m1 ≤ 10000000 ∧ m2 ≤ 10000000 ∧
      (∀ w : World, Calls Try.prog 32 #[.agg #[.int .i64 p, .int .i64 s, .bool st, .bool sk, .bool re, .bool fe, .bool ag, .int .i64 c, .int .i64 l], .int .i64 n, .int .i64 m] w (PosZ m1 m2 pl cd us vs w)) ∧
      (∀ w : World, Calls Try.prog 20 #[.agg #[.int .i64 p, .int .i64 s, .bool st, .bool sk, .bool re, .bool fe, .bool ag, .int .i64 c, .int .i64 l], .int .i64 n, .int .i64 m] w (PosZ m1 m2 pl cd us vs w)) := by
  by_cases hc : n13C (okR p s c l st ag) p n = 0
  · obtain ⟨hok, S, rfl, hS, hb⟩ := n13_parts hc
    obtain ⟨hp1, hp2, -⟩ := okR_bd hok
    obtain ⟨P, rfl⟩ : ∃ P : Nat, p = (P : Int) := ⟨p.toNat, by omega⟩
    rw [hok] at hc
    by_cases hm : paK P S m
    · have h1 := hm.1
      have h2 := hm.2
      obtain ⟨R, rfl⟩ : ∃ R : Nat, m = (R : Int) := ⟨m.toNat, by omega⟩
      exact ⟨2 * P, 2, 0, 0, _, _, by omega, by omega, fun w => specPa_yes P S R s c l st sk re fe ag _ w hok hc rfl (by omega), fun w => implPa_yes P S R s c l st sk re fe ag _ w hok hc rfl (by omega)⟩
    · exact ⟨0, 0, 0, 2, [], [], by omega, by omega, fun w => specPa_rg P S s c l st sk re fe ag m w hok hc hm, fun w => implPa_rg P S s c l st sk re fe ag m w hok hc hm⟩
  · exact ⟨0, 0, 0, _, [], [], by omega, by omega, fun w => specPa_no p s c l st sk re fe ag n m _ w rfl hc, fun w => implPa_no p s c l st sk re fe ag n m _ w rfl hc⟩
theorem at_ex (p s c l : Int) (st sk re fe ag : Bool) (i : Int) (hi : I64 i) :
    ∃ (m1 m2 : Nat) (pl cd : Int) (us vs : List Int), m1 ≤ 10000000 ∧ m2 ≤ 10000000 ∧
      (∀ w : World, Calls Try.prog 37 #[.agg #[.int .i64 p, .int .i64 s, .bool st, .bool sk, .bool re, .bool fe, .bool ag, .int .i64 c, .int .i64 l], .int .i64 i] w (PosZ m1 m2 pl cd us vs w)) ∧
      (∀ w : World, Calls Try.prog 18 #[.agg #[.int .i64 p, .int .i64 s, .bool st, .bool sk, .bool re, .bool fe, .bool ag, .int .i64 c, .int .i64 l], .int .i64 i] w (PosZ m1 m2 pl cd us vs w)) := by
  rcases hok : okR p s c l st ag with _ | _
  · exact ⟨0, 0, 0, 1, [], [], by omega, by omega, fun w => specAt_inv p s c l st sk re fe ag i w hok, fun w => implAt_inv p s c l st sk re fe ag i w hok⟩
  · obtain ⟨hp1, hp2, -⟩ := okR_bd hok
    obtain ⟨P, rfl⟩ : ∃ P : Nat, p = (P : Int) := ⟨p.toNat, by omega⟩
    by_cases hex : ∃ S, Rt P i S
    · obtain ⟨S, hS⟩ := hex
      obtain ⟨R, hR, hlt⟩ := hS.rest (by omega)
      have hone : ∀ M, Rt P i M → M = S := fun M hM => hM.one (by omega) hS
      exact ⟨2 * P, 2, 0, 0, vals (unr (2 * P - 1) S R), [0, 0], by omega, by omega,
        fun w => specAt_gen P s c l st sk re fe ag i w hok _ _ _ _ _ (fun M u hu hM => by
          obtain rfl := hone M hM
          exact at13_any P M R s c l st sk re fe ag _ w.heap.size u hu (by omega) (by omega) hM.s96 (cnt_fit (by omega) hM.fit).1 (by omega) hlt) (fun _ _ => rfl) (fun h => absurd hS (h S)),
        fun w => implAt_gen P s c l st sk re fe ag i w hi hok _ _ _ _ _ (fun M u hM => by
          obtain rfl := hone M hM
          exact implPa_yes P M R s c l st sk re fe ag _ u hok hM.c (by omega) hlt) (fun _ _ => rfl) (fun h => absurd hS (h S))⟩
    · exact ⟨0, 0, 0, 2, [], [], by omega, by omega,
        fun w => specAt_gen P s c l st sk re fe ag i w hok _ _ _ _ _ (fun M u hu hM => absurd ⟨M, hM⟩ hex) (fun M hM => absurd ⟨M, hM⟩ hex) (fun _ => ⟨rfl, rfl, rfl, rfl, rfl⟩),
        fun w => implAt_gen P s c l st sk re fe ag i w hi hok _ _ _ _ _ (fun M u hM => absurd ⟨M, hM⟩ hex) (fun M hM => absurd ⟨M, hM⟩ hex) (fun _ => ⟨rfl, rfl, rfl, rfl, rfl⟩)⟩
end Go.Proofs.Ythbgfkklejnhiaa
