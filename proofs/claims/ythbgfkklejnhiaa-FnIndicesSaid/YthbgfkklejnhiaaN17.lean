/- AtIndex of both sides. No conditions. -/
import Derived.Test.YthbgfkklejnhiaaN16
import Derived.Deep.DeepCutAuto
import Derived.Deep.Cut
namespace Go.Proofs.Ythbgfkklejnhiaa
open Go.Joins Go.ChangeShapes Go.WideShapes Go.ChangeAt Go.RowKit Go.Deep
set_option linter.unusedVariables false

/-- The seeds of the positions with an index. -/
structure Rt (P : Nat) (i : Int) (S : Nat) : Prop where
  s96 : S ≤ 96
  fit : bf P (S + 1) ≤ 1000000000
  lo : (bf P S : Int) ≤ i
  hi : i < (bf P (S + 1) : Int)
theorem Rt.one {P : Nat} {i : Int} {S T : Nat} (hP : 1 ≤ P) (h : Rt P i S) (k : Rt P i T) : S = T := by
  rcases Nat.lt_trichotomy S T with h1 | h1 | h1
  · have := bf_le hP (show S + 1 ≤ T by omega); have := h.hi; have := k.lo; omega
  · exact h1
  · have := bf_le hP (show T + 1 ≤ S by omega); have := k.hi; have := h.lo; omega
theorem Rt.c {P : Nat} {i : Int} {S : Nat} (h : Rt P i S) : n13C true (P : Int) (S : Int) = 0 := n13_yes h.s96 h.fit
theorem Rt.rest {P : Nat} {i : Int} {S : Nat} (hP : 1 ≤ P) (h : Rt P i S) : ∃ R : Nat, i = (bf P S : Int) + (R : Int) ∧ R < cnt S (2 * P) := by
  have := bf_succ hP S
  have := h.lo
  have := h.hi
  exact ⟨(i - (bf P S : Int)).toNat, by omega, by omega⟩
theorem posZ_copy {w : World} {m1 m2 : Nat} {pl cd : Int} {us vs : List Int} {u : World} {e : Ending} {e' : Ending} {w' : World} (h : PosZ m1 m2 pl cd us vs w e w') (he : e' = e) : PosZ m1 m2 pl cd us vs w e' w' := by rw [he]; exact h
set_option maxHeartbeats 2000000 in
theorem implAt_inv (p s c l : Int) (st sk re fe ag : Bool) (i : Int) (w : World) (hk : okR p s c l st ag = false) :
    Calls Try.prog 18 #[.agg #[.int .i64 p, .int .i64 s, .bool st, .bool sk, .bool re, .bool fe, .bool ag, .int .i64 c, .int .i64 l], .int .i64 i] w (PosZ 0 0 0 1 [] [] w) := by
  have HS := Lib.hid (show RbAt w w.heap.size p s c l st sk re fe ag _ from ⟨(ru_new p s c l st sk re fe ag w 25).below (al1 _ (.cells #[.slice none 0 0, .slice none 0 0, .int .i64 0] 28)), al2 _ _ _⟩)
  have HZ := Lib.hid (zero_at1b p s c l st sk re fe ag w 25 28)
  have HK := Lib.hid (valid_b p s c l st sk re fe ag _ hk)
  clear hk
  go_enter Try.func18, Try.ntmps18
  go_wp2_with fail
  go_step3
  go_wp2_with fail
  refine (HK.out _).mono ?_
  rintro e u ⟨rfl, hb⟩
  have HS := Lib.hid (HS.out.below hb)
  have HZ := Lib.hid (HZ.out.below hb)
  have hz0 := HZ.out.lt
  clear hb
  obtain ⟨zl, z0, z1, z2, zf⟩ := HZ.out
  have f0 := zf 0
  have f1 := zf 1
  have f2 := zf 2
  clear zf
  go_wp2_with fail
  rw [Exit.noGoto_ret]
  refine bodyPost_ret (v := .tuple #[.agg #[.slice none 0 0, .slice none 0 0, .int .i64 0], .int .i64 1]) (by simp [results, Try.results18, go_sem, z0, z1, z2]) rfl ?_
  exact posZ_zero 1 (HS.out.set3 (z := w.heap.size + 1) (by omega) (by omega) _ _ _).2 (by simp; omega)
set_option maxHeartbeats 8000000 in
set_option maxRecDepth 100000 in
theorem implAt_gen (P : Nat) (s c l : Int) (st sk re fe ag : Bool) (i : Int) (w : World) (hi : I64 i) (hok : okR (P : Int) s c l st ag = true) (m1 m2 : Nat) (cd : Int) (us vs : List Int)
    (hYes : ∀ (M : Nat) (u : World), Rt P i M → Calls Try.prog 20 #[.agg #[.int .i64 P, .int .i64 s, .bool st, .bool sk, .bool re, .bool fe, .bool ag, .int .i64 c, .int .i64 l], .int .i64 M, .int .i64 (i - (bf P M : Int))] u (PosZ m1 m2 0 0 us vs u)) (hcd : ∀ M, Rt P i M → cd = 0)
    (hNo : (∀ M, ¬ Rt P i M) → m1 = 0 ∧ m2 = 0 ∧ cd = 2 ∧ us = [] ∧ vs = []) :
    Calls Try.prog 18 #[.agg #[.int .i64 P, .int .i64 s, .bool st, .bool sk, .bool re, .bool fe, .bool ag, .int .i64 c, .int .i64 l], .int .i64 i] w (PosZ m1 m2 0 cd us vs w) := by
  have HS := Lib.hid (show RbAt w w.heap.size (P : Int) s c l st sk re fe ag _ from ⟨(ru_new (P : Int) s c l st sk re fe ag w 25).below (al1 _ (.cells #[.slice none 0 0, .slice none 0 0, .int .i64 0] 28)), al2 _ _ _⟩)
  have HZ := Lib.hid (zero_at1b (P : Int) s c l st sk re fe ag w 25 28)
  have HK := Lib.hid (valid_b (P : Int) s c l st sk re fe ag _ hok)
  have HYes := Lib.hid hYes
  have HCd := Lib.hid hcd
  have HNo := Lib.hid hNo
  have Hok := Lib.hid hok
  obtain ⟨hp1, hp2, -⟩ := okR_bd hok
  obtain ⟨i1, i2⟩ := hi
  clear hYes hcd hNo hok
  go_enter Try.func18, Try.ntmps18
  go_wp2_with fail
  refine wp_scope_jumps 0 (fun a' w' => ∃ (lo : Nat) (hi : Int) (u8 u9 u10 u11 u12 u13 u14 u15 u16 u17 u18 u19 u20 u21 u22 u23 u24 u25 u26 u27 u28 u29 u30 u31 u32 u33 u34 u35 u36 u37 u38 u39 u40 u41 u42 u43 u44 u45 u46 u47 u48 u49 u50 u51 u52 : Value), a' = { tmps := #[.agg #[.int .i64 P, .int .i64 s, .bool st, .bool sk, .bool re, .bool fe, .bool ag, .int .i64 c, .int .i64 l], .int .i64 i, .pointer (some ⟨w.heap.size, 0, none⟩), undef, .pointer (some ⟨w.heap.size + 1, 0, none⟩), .int .i64 0, .int .i64 (lo : Int), .int .i64 hi, u8, u9, u10, u11, u12, u13, u14, u15, u16, u17, u18, u19, u20, u21, u22, u23, u24, u25, u26, u27, u28, u29, u30, u31, u32, u33, u34, u35, u36, u37, u38, u39, u40, u41, u42, u43, u44, u45, u46, u47, u48, u49, u50, u51, u52], defers := [] } ∧ lo ≤ 97 ∧ -1 ≤ hi ∧ hi ≤ 96 ∧ (∀ T, Rt P i T → lo ≤ T ∧ (T : Int) ≤ hi) ∧ RbAt w w.heap.size (P : Int) s c l st sk re fe ag w' ∧ ZeroP w' (w.heap.size + 1)) (fun a' _ => (intOf (a'.tmps.getD 7 undef) + 1 - intOf (a'.tmps.getD 6 undef)).toNat) rfl ?_ ?_
  · go_wp2_with fail
    refine (HK.out _).mono ?_
    rintro e u ⟨rfl, hb⟩
    have HS := Lib.hid (HS.out.below hb)
    have HZ := Lib.hid (HZ.out.below hb)
    have hz0 := HZ.out.lt
    clear hb
    obtain ⟨hz, r0, r1, r2, r3, r4, r5, r6, r7, r8⟩ := HS.out.1
    clear r0 r1 r2 r3 r4 r5 r6 r7 r8
    obtain ⟨M, hM⟩ : ∃ M : Nat, M = 48 := ⟨48, rfl⟩
    have hM96 : M ≤ 96 := by omega
    have HT : Hid (∀ T, Rt P i T → 0 ≤ T ∧ (T : Int) ≤ 96) := Lib.hid (fun T hT => ⟨Nat.zero_le _, by have := hT.s96; omega⟩)
    go_upto_region 7 with fail
    go_step3
    go_upto_region 7 with fail
    rw [show (48 : Int) = (M : Int) by omega]
    clear hM
    have hMc : n13C true (P : Int) (M : Int) ≠ 0 ∨ (n13C true (P : Int) (M : Int) = 0 ∧ bf P (M + 1) ≤ 1000000000) := by
      by_cases hc : n13C true (P : Int) (M : Int) = 0
      · obtain ⟨-, S', hS', -, hb⟩ := n13_parts hc
        obtain rfl : M = S' := by omega
        exact .inr ⟨hc, by rw [Int.toNat_natCast] at hb; exact hb⟩
      · exact .inl hc
    have HF := Lib.hid (fun u => implFI_any (P : Int) s c l st sk re fe ag (M : Int) u)
    rw [Hok.out] at HF
    rcases hMc with hc | ⟨hc, hb9⟩
    · have HT2 : Hid (∀ T, Rt P i T → 0 ≤ T ∧ (T : Int) ≤ (M : Int) - 1) := Lib.hid (fun T hT => by
        refine ⟨(HT.out T hT).1, ?_⟩
        rcases Nat.lt_or_ge T M with h1 | h1
        · omega
        · exact absurd (n13_yes (P := P) hM96 (Nat.le_trans (bf_le (by omega) (by omega)) hT.fit)) hc)
      rw [(n13_none hc).2] at HF
      generalize n13C true (P : Int) (M : Int) = C at *
      have d1 : (C != 0) = true := by simpa using hc
      clear hc
      obtain ⟨hz, r0, r1, r2, r3, r4, r5, r6, r7, r8⟩ := HS.out.1
      go_wp2_with fail
      clear hz r0 r1 r2 r3 r4 r5 r6 r7 r8
      refine (HF.out _).mono ?_
      rintro e u1 ⟨rfl, hb⟩
      have HS := Lib.hid (HS.out.below hb)
      have HZ := Lib.hid (HZ.out.below hb)
      have hz1 := HZ.out.lt
      clear hb
      go_wp2_with fail
      go_step3
      refine ⟨rfl, 0, (M : Int) - 1, _, _, _, _, _, _, _, _, _, _, _, _, _, _, _, _, _, _, _, _, _, _, _, _, _, _, _, _, _, _, _, _, _, _, _, _, _, _, _, _, _, _, _, _, _, rfl, by omega, by omega, by omega, HT2.out, HS.out, HZ.out⟩
    · have hfi := (n13_some hc).2
      rw [hfi, hc] at HF
      have hf0 := (cnt_fit (P := P) (S := M) (by omega) hb9).2
      have hsu := bf_succ (P := P) (by omega) M
      by_cases hlt : i < (bf P M : Int)
      · have HT2 : Hid (∀ T, Rt P i T → 0 ≤ T ∧ (T : Int) ≤ (M : Int) - 1) := Lib.hid (fun T hT => by
          refine ⟨(HT.out T hT).1, ?_⟩
          rcases Nat.lt_or_ge T M with h1 | h1
          · omega
          · have := bf_le (P := P) (by omega) h1; have := hT.lo; omega)
        generalize bf P M = B at *
        clear hc hb9 hsu hfi
        obtain ⟨hz, r0, r1, r2, r3, r4, r5, r6, r7, r8⟩ := HS.out.1
        go_wp2_with fail
        clear hz r0 r1 r2 r3 r4 r5 r6 r7 r8
        refine (HF.out _).mono ?_
        rintro e u1 ⟨rfl, hb⟩
        have HS := Lib.hid (HS.out.below hb)
        have HZ := Lib.hid (HZ.out.below hb)
        have hz1 := HZ.out.lt
        clear hb
        go_wp2_with fail
        go_step3
        refine ⟨rfl, 0, (M : Int) - 1, _, _, _, _, _, _, _, _, _, _, _, _, _, _, _, _, _, _, _, _, _, _, _, _, _, _, _, _, _, _, _, _, _, _, _, _, _, _, _, _, _, _, _, _, _, rfl, by omega, by omega, by omega, HT2.out, HS.out, HZ.out⟩
      · have hwr : IntKind.i64.wrap (i - (bf P M : Int)) = i - (bf P M : Int) := IntWalk.i64_in _ ⟨by omega, by omega⟩
        by_cases hin : i < (bf P (M + 1) : Int)
        · have hrt : Rt P i M := ⟨hM96, hb9, by omega, hin⟩
          have HP := Lib.hid (fun u => HYes.out M u hrt)
          have HC := Lib.hid (HCd.out M hrt)
          generalize bf P M = B at *
          clear hc hb9 hsu hfi hin hrt
          obtain ⟨hz, r0, r1, r2, r3, r4, r5, r6, r7, r8⟩ := HS.out.1
          go_wp2_with fail
          clear hz r0 r1 r2 r3 r4 r5 r6 r7 r8
          refine (HF.out _).mono ?_
          rintro e u1 ⟨rfl, hb⟩
          have HS := Lib.hid (HS.out.below hb)
          have HZ := Lib.hid (HZ.out.below hb)
          have hz1 := HZ.out.lt
          clear hb
          obtain ⟨hz, r0, r1, r2, r3, r4, r5, r6, r7, r8⟩ := HS.out.1
          go_wp2_with fail
          clear hz r0 r1 r2 r3 r4 r5 r6 r7 r8
          refine (HP.out _).mono ?_
          rintro e v ⟨a1, c1, b1, a2, c2, b2, rfl, ho, l1, l2, q1, q2, hb⟩
          have hus := HS.out.2.size
          have HS := Lib.hid ((HS.out.below hb).below (al1 _ (.cells #[.slice a1 m1 c1, .slice a2 m2 c2, .int .i64 0] 28)))
          have HZ := Lib.hid ((HZ.out.below hb).below (al1 _ (.cells #[.slice a1 m1 c1, .slice a2 m2 c2, .int .i64 0] 28)))
          have HO := Lib.hid (ho.below (al1 _ (.cells #[.slice a1 m1 c1, .slice a2 m2 c2, .int .i64 0] 28)))
          have n1 := ho.o1.new
          have n2 := ho.o2.new
          have hvs := hb.size
          clear hb ho
          obtain ⟨zl, z0, z1, z2, zf⟩ := HZ.out
          have f0 := zf 0
          have f1 := zf 1
          have f2 := zf 2
          clear zf
          go_wp2_with fail
          simp only [Exit.jump]
          refine bodyPost_ret (v := .tuple #[.agg #[.slice a1 m1 c1, .slice a2 m2 c2, .int .i64 0], .int .i64 0]) (by simp [results, Try.results18, go_sem, z0, z1, z2]) rfl ?_
          rw [HC.out]
          exact posZ_of 0 (HO.out.set3 _ _ _ (by omega) (by omega)) (by omega) (by simp; omega) (by simp; omega) q1 q2 (HS.out.set3 (z := w.heap.size + 1) (by omega) (by omega) _ _ _).2
        · have HT2 : Hid (∀ T, Rt P i T → M + 1 ≤ T ∧ (T : Int) ≤ 96) := Lib.hid (fun T hT => by
            refine ⟨?_, (HT.out T hT).2⟩
            rcases Nat.lt_or_ge M T with h1 | h1
            · omega
            · have := bf_le (P := P) (by omega) (show T + 1 ≤ M + 1 by omega); have := hT.hi; omega)
          have HP := Lib.hid (fun u => implPa_rg P M s c l st sk re fe ag (i - (bf P M : Int)) u Hok.out hc (by unfold paK; omega))
          generalize bf P M = B at *
          clear hc hb9 hsu hfi hin
          obtain ⟨hz, r0, r1, r2, r3, r4, r5, r6, r7, r8⟩ := HS.out.1
          go_wp2_with fail
          clear hz r0 r1 r2 r3 r4 r5 r6 r7 r8
          refine (HF.out _).mono ?_
          rintro e u1 ⟨rfl, hb⟩
          have HS := Lib.hid (HS.out.below hb)
          have HZ := Lib.hid (HZ.out.below hb)
          have hz1 := HZ.out.lt
          clear hb
          obtain ⟨hz, r0, r1, r2, r3, r4, r5, r6, r7, r8⟩ := HS.out.1
          go_wp2_with fail
          clear hz r0 r1 r2 r3 r4 r5 r6 r7 r8
          refine (HP.out _).mono ?_
          rintro e v ⟨a1, c1, b1, a2, c2, b2, rfl, -, -, -, -, -, hb⟩
          have HS := Lib.hid ((HS.out.below hb).below (al1 _ (.cells #[.slice a1 0 c1, .slice a2 0 c2, .int .i64 0] 28)))
          have HZ := Lib.hid ((HZ.out.below hb).below (al1 _ (.cells #[.slice a1 0 c1, .slice a2 0 c2, .int .i64 0] 28)))
          clear hb
          go_wp2_with fail
          go_step3
          refine ⟨rfl, M + 1, 96, _, _, _, _, _, _, _, _, _, _, _, _, _, _, _, _, _, _, _, _, _, _, _, _, _, _, _, _, _, _, _, _, _, _, _, _, _, _, _, _, _, _, _, _, _, rfl, by omega, by omega, by omega, HT2.out, HS.out, HZ.out⟩
  · rintro a' w' ⟨lo, hi, u8, u9, u10, u11, u12, u13, u14, u15, u16, u17, u18, u19, u20, u21, u22, u23, u24, u25, u26, u27, u28, u29, u30, u31, u32, u33, u34, u35, u36, u37, u38, u39, u40, u41, u42, u43, u44, u45, u46, u47, u48, u49, u50, u51, u52, rfl, hlo, hh1, hh2, hT, hs, hz⟩
    have HS := Lib.hid hs
    have HZ := Lib.hid hz
    have HT := Lib.hid hT
    have hz0 := hz.lt
    clear hs hz hT
    by_cases hle : (lo : Int) ≤ hi
    · obtain ⟨M, hM⟩ : ∃ M : Nat, (M : Int) = ((lo : Int) + hi) / 2 := ⟨(((lo : Int) + hi) / 2).toNat, by omega⟩
      have hM96 : M ≤ 96 := by omega
      have hm1 : ((lo : Int) + hi) / 2 = (M : Int) := hM.symm
      have hm2 : ((lo : Int) + hi).tdiv 2 = (M : Int) := by rw [Int.tdiv_eq_ediv_of_nonneg (by omega)]; exact hm1
      have hm3 : lo ≤ M := by omega
      have hm4 : (M : Int) ≤ hi := by omega
      clear hM
      have hMc : n13C true (P : Int) (M : Int) ≠ 0 ∨ (n13C true (P : Int) (M : Int) = 0 ∧ bf P (M + 1) ≤ 1000000000) := by
        by_cases hc : n13C true (P : Int) (M : Int) = 0
        · obtain ⟨-, S', hS', -, hb⟩ := n13_parts hc
          obtain rfl : M = S' := by omega
          exact .inr ⟨hc, by rw [Int.toNat_natCast] at hb; exact hb⟩
        · exact .inl hc
      have HF := Lib.hid (fun u => implFI_any (P : Int) s c l st sk re fe ag (M : Int) u)
      rw [Hok.out] at HF
      rcases hMc with hc | ⟨hc, hb9⟩
      · have HT2 : Hid (∀ T, Rt P i T → lo ≤ T ∧ (T : Int) ≤ (M : Int) - 1) := Lib.hid (fun T hT => by
          refine ⟨(HT.out T hT).1, ?_⟩
          rcases Nat.lt_or_ge T M with h1 | h1
          · omega
          · exact absurd (n13_yes (P := P) hM96 (Nat.le_trans (bf_le (by omega) (by omega)) hT.fit)) hc)
        rw [(n13_none hc).2] at HF
        generalize n13C true (P : Int) (M : Int) = C at *
        have d1 : (C != 0) = true := by simpa using hc
        clear hc
        obtain ⟨hz, r0, r1, r2, r3, r4, r5, r6, r7, r8⟩ := HS.out.1
        go_wp2_with fail
        clear hz r0 r1 r2 r3 r4 r5 r6 r7 r8
        refine (HF.out _).mono ?_
        rintro e u1 ⟨rfl, hb⟩
        have HS := Lib.hid (HS.out.below hb)
        have HZ := Lib.hid (HZ.out.below hb)
        have hz1 := HZ.out.lt
        clear hb
        go_wp2_with fail
        go_step3
        refine ⟨rfl, ⟨lo, (M : Int) - 1, _, _, _, _, _, _, _, _, _, _, _, _, _, _, _, _, _, _, _, _, _, _, _, _, _, _, _, _, _, _, _, _, _, _, _, _, _, _, _, _, _, _, _, _, _, rfl, by omega, by omega, by omega, HT2.out, HS.out, HZ.out⟩, ?_⟩
        · simp [intOf]; omega
      · have hfi := (n13_some hc).2
        rw [hfi, hc] at HF
        have hf0 := (cnt_fit (P := P) (S := M) (by omega) hb9).2
        have hsu := bf_succ (P := P) (by omega) M
        by_cases hlt : i < (bf P M : Int)
        · have HT2 : Hid (∀ T, Rt P i T → lo ≤ T ∧ (T : Int) ≤ (M : Int) - 1) := Lib.hid (fun T hT => by
            refine ⟨(HT.out T hT).1, ?_⟩
            rcases Nat.lt_or_ge T M with h1 | h1
            · omega
            · have := bf_le (P := P) (by omega) h1; have := hT.lo; omega)
          generalize bf P M = B at *
          clear hc hb9 hsu hfi
          obtain ⟨hz, r0, r1, r2, r3, r4, r5, r6, r7, r8⟩ := HS.out.1
          go_wp2_with fail
          clear hz r0 r1 r2 r3 r4 r5 r6 r7 r8
          refine (HF.out _).mono ?_
          rintro e u1 ⟨rfl, hb⟩
          have HS := Lib.hid (HS.out.below hb)
          have HZ := Lib.hid (HZ.out.below hb)
          have hz1 := HZ.out.lt
          clear hb
          go_wp2_with fail
          go_step3
          refine ⟨rfl, ⟨lo, (M : Int) - 1, _, _, _, _, _, _, _, _, _, _, _, _, _, _, _, _, _, _, _, _, _, _, _, _, _, _, _, _, _, _, _, _, _, _, _, _, _, _, _, _, _, _, _, _, _, rfl, by omega, by omega, by omega, HT2.out, HS.out, HZ.out⟩, ?_⟩
          · simp [intOf]; omega
        · have hwr : IntKind.i64.wrap (i - (bf P M : Int)) = i - (bf P M : Int) := IntWalk.i64_in _ ⟨by omega, by omega⟩
          by_cases hin : i < (bf P (M + 1) : Int)
          · have hrt : Rt P i M := ⟨hM96, hb9, by omega, hin⟩
            have HP := Lib.hid (fun u => HYes.out M u hrt)
            have HC := Lib.hid (HCd.out M hrt)
            generalize bf P M = B at *
            clear hc hb9 hsu hfi hin hrt
            obtain ⟨hz, r0, r1, r2, r3, r4, r5, r6, r7, r8⟩ := HS.out.1
            go_wp2_with fail
            clear hz r0 r1 r2 r3 r4 r5 r6 r7 r8
            refine (HF.out _).mono ?_
            rintro e u1 ⟨rfl, hb⟩
            have HS := Lib.hid (HS.out.below hb)
            have HZ := Lib.hid (HZ.out.below hb)
            have hz1 := HZ.out.lt
            clear hb
            obtain ⟨hz, r0, r1, r2, r3, r4, r5, r6, r7, r8⟩ := HS.out.1
            go_wp2_with fail
            clear hz r0 r1 r2 r3 r4 r5 r6 r7 r8
            refine (HP.out _).mono ?_
            rintro e v ⟨a1, c1, b1, a2, c2, b2, rfl, ho, l1, l2, q1, q2, hb⟩
            have hus := HS.out.2.size
            have HS := Lib.hid ((HS.out.below hb).below (al1 _ (.cells #[.slice a1 m1 c1, .slice a2 m2 c2, .int .i64 0] 28)))
            have HZ := Lib.hid ((HZ.out.below hb).below (al1 _ (.cells #[.slice a1 m1 c1, .slice a2 m2 c2, .int .i64 0] 28)))
            have HO := Lib.hid (ho.below (al1 _ (.cells #[.slice a1 m1 c1, .slice a2 m2 c2, .int .i64 0] 28)))
            have n1 := ho.o1.new
            have n2 := ho.o2.new
            have hvs := hb.size
            clear hb ho
            obtain ⟨zl, z0, z1, z2, zf⟩ := HZ.out
            have f0 := zf 0
            have f1 := zf 1
            have f2 := zf 2
            clear zf
            go_wp2_with fail
            simp only [Exit.jump]
            refine bodyPost_ret (v := .tuple #[.agg #[.slice a1 m1 c1, .slice a2 m2 c2, .int .i64 0], .int .i64 0]) (by simp [results, Try.results18, go_sem, z0, z1, z2]) rfl ?_
            rw [HC.out]
            exact posZ_of 0 (HO.out.set3 _ _ _ (by omega) (by omega)) (by omega) (by simp; omega) (by simp; omega) q1 q2 (HS.out.set3 (z := w.heap.size + 1) (by omega) (by omega) _ _ _).2
          · have HT2 : Hid (∀ T, Rt P i T → M + 1 ≤ T ∧ (T : Int) ≤ hi) := Lib.hid (fun T hT => by
              refine ⟨?_, (HT.out T hT).2⟩
              rcases Nat.lt_or_ge M T with h1 | h1
              · omega
              · have := bf_le (P := P) (by omega) (show T + 1 ≤ M + 1 by omega); have := hT.hi; omega)
            have HP := Lib.hid (fun u => implPa_rg P M s c l st sk re fe ag (i - (bf P M : Int)) u Hok.out hc (by unfold paK; omega))
            generalize bf P M = B at *
            clear hc hb9 hsu hfi hin
            obtain ⟨hz, r0, r1, r2, r3, r4, r5, r6, r7, r8⟩ := HS.out.1
            go_wp2_with fail
            clear hz r0 r1 r2 r3 r4 r5 r6 r7 r8
            refine (HF.out _).mono ?_
            rintro e u1 ⟨rfl, hb⟩
            have HS := Lib.hid (HS.out.below hb)
            have HZ := Lib.hid (HZ.out.below hb)
            have hz1 := HZ.out.lt
            clear hb
            obtain ⟨hz, r0, r1, r2, r3, r4, r5, r6, r7, r8⟩ := HS.out.1
            go_wp2_with fail
            clear hz r0 r1 r2 r3 r4 r5 r6 r7 r8
            refine (HP.out _).mono ?_
            rintro e v ⟨a1, c1, b1, a2, c2, b2, rfl, -, -, -, -, -, hb⟩
            have HS := Lib.hid ((HS.out.below hb).below (al1 _ (.cells #[.slice a1 0 c1, .slice a2 0 c2, .int .i64 0] 28)))
            have HZ := Lib.hid ((HZ.out.below hb).below (al1 _ (.cells #[.slice a1 0 c1, .slice a2 0 c2, .int .i64 0] 28)))
            clear hb
            go_wp2_with fail
            go_step3
            refine ⟨rfl, ⟨M + 1, hi, _, _, _, _, _, _, _, _, _, _, _, _, _, _, _, _, _, _, _, _, _, _, _, _, _, _, _, _, _, _, _, _, _, _, _, _, _, _, _, _, _, _, _, _, _, rfl, by omega, by omega, by omega, HT2.out, HS.out, HZ.out⟩, ?_⟩
            · simp [intOf]; omega
    · have hno := HNo.out (fun M hM => by have := HT.out M hM; omega)
      obtain ⟨rfl, rfl, rfl, rfl, rfl⟩ := hno
      obtain ⟨zl, z0, z1, z2, zf⟩ := HZ.out
      have f0 := zf 0
      have f1 := zf 1
      have f2 := zf 2
      clear zf
      go_wp2_with fail
      simp only [Exit.jump]
      refine bodyPost_ret (v := .tuple #[.agg #[.slice none 0 0, .slice none 0 0, .int .i64 0], .int .i64 2]) (by simp [results, Try.results18, go_sem, z0, z1, z2]) rfl ?_
      exact posZ_zero 2 (HS.out.set3 (z := w.heap.size + 1) (by omega) (by omega) _ _ _).2 (by simp; omega)
end Go.Proofs.Ythbgfkklejnhiaa
