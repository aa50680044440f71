/- SetField of the program returns rules with another field, or an error. No conditions. -/
import Derived.Test.YtihbaehfgjkajaaDoorSetBase
namespace Go.Proofs.YtihbaehfgjkajaaDoor
open Go.Joins Go.ChangeShapes Go.WideShapes Go.ChangeAt Go.RowKit Go.Deep
set_option linter.unusedVariables false

set_option maxHeartbeats 8000000 in
theorem impl_setField (r : RV) (s' : ByteArray) (v : Int) (w : World) : Calls Tryd.prog 12 #[r.val, .string s', .int .i64 v] w fun e w' => e = .returned (.tuple #[(setV r (idxL flds s' 0) v).1.val, .int .i64 (setV r (idxL flds s' 0) v).2]) ∧ Below w.heap.size w w' := by
  unfold RV.val
  have TW := Lib.hid (two_new r w 25)
  have HB0 := Lib.hid (((Below.refl w.heap.size w).alloc (Nat.le_refl _) (.cells #[.int .i64 r.p, .int .i64 r.s, .bool r.st, .bool r.sk, .bool r.re, .bool r.fe, .bool r.ag, .int .i64 r.c, .int .i64 r.l] 25)).alloc (by simp) (.cells #[.int .i64 0, .int .i64 0, .bool false, .bool false, .bool false, .bool false, .bool false, .int .i64 0, .int .i64 0] 25))
  rcases hok : r.ok with _ | _
  · have Hok := Lib.hid hok
    rw [setV_bad _ _ hok]
    clear hok
    go_enter Tryd.func12, Tryd.ntmps12
    go_wp2_with fail
    refine (valid_rv r _).mono ?_
    rintro e w1 ⟨rfl, hb1⟩
    rw [Hok.out]
    have T1 := TW.out.below hb1
    have HB1 := HB0.out.trans (hb1.mono (by simp; omega))
    obtain ⟨-, ⟨hzb, z0, z1, z2, z3, z4, z5, z6, z7, z8⟩, -, fz⟩ := T1
    unfold Free at fz
    go_wp2_with fail
    exact bodyPost_ret (v := .tuple #[.agg #[.int .i64 0, .int .i64 0, .bool false, .bool false, .bool false, .bool false, .bool false, .int .i64 0, .int .i64 0], .int .i64 1]) (by simp [results, Tryd.results12, go_sem, z0, z1, z2, z3, z4, z5, z6, z7, z8]) rfl ⟨rfl, below_set9 HB1 (by omega) _ _ _ _ _ _ _ _ _⟩
  · have Hok := Lib.hid hok
    clear hok
    go_enter Tryd.func12, Tryd.ntmps12
    go_wp2_with fail
    refine (valid_rv r _).mono ?_
    rintro e w1 ⟨rfl, hb1⟩
    rw [Hok.out]
    have T1 := Lib.hid (TW.out.below hb1)
    have HB1 := Lib.hid (HB0.out.trans (hb1.mono (by simp; omega)))
    go_wp2_with fail
    refine (fields_any _).mono ?_
    rintro e w2 ⟨g, cap, r0, r1, r7, r8, rfl, hb2, hlt, ht⟩
    have T2 := Lib.hid (T1.out.below hb2)
    have HB2 := Lib.hid (HB1.out.trans (hb2.mono HB1.out.size))
    have HT := Lib.hid ht
    clear ht hb2 hb1 TW T1
    go_wp2_with fail
    go_loopw [16] (fun k wr => ∃ n : Nat, n ≤ 9 ∧ k = .int .i64 n ∧ Below w2.heap.size w2 wr ∧ idxL (flds.drop n) s' n = idxL flds s' 0) (fun k _ => 9 - (intOf k).toNat)
    case atStart => exact ⟨0, by omega, rfl, Below.refl _ _, rfl⟩
    case round =>
      obtain ⟨n, hn, rfl, hbl, hix⟩ := hrel
      have HX := Lib.hid hix
      have HB := Lib.hid hbl
      have hsz := hbl.size
      have TR := Lib.hid (T2.out.below hbl)
      clear hix
      by_cases hl9 : n < 9
      · obtain ⟨T, u, x, c0, hx, ⟨hnm, -⟩, ⟨fs, hfs, hm, hset⟩⟩ := table_full (HT.out.below hbl) n hl9
        have q1 : (n : Int) < 9 := by omega
        have HXS := Lib.hid hx
        have HS := Lib.hid hset
        clear hx hset hbl
        by_cases he : (x.toList == s'.toList) = true
        · have hi := idx_found HXS.out he
          rw [HX.out] at hi
          have HI := Lib.hid hi
          clear hi
          obtain ⟨hab, -⟩ := TR.out.a
          rcases hso : setOk n v with _ | _
          · have hv : setV r (idxL flds s' 0) v = (zeroR, 2) := setV_out n Hok.out HI.out (by rw [hso]; rfl)
            have HVV := Lib.hid hv
            have HSO := Lib.hid hso
            clear hv hso
            rcases hfs with rfl | rfl
            · go_wp2_with (first
                | (go_at_call 59; refine (name_any _ _).mono ?_; rintro e w3 ⟨rfl, rfl⟩)
                | (go_at_call 138; refine (HS.out r w.heap.size v _ TR.out.a TR.out.fa).mono ?_; rintro e w4 ⟨rfl, hbut, hat, hfr⟩; rw [HSO.out]; have hz4 := At.but TR.out.z hbut (by omega); have ff4 := Free.but TR.out.fz hbut TR.out.z.1 (by omega); obtain ⟨hzb, z0, z1, z2, z3, z4, z5, z6, z7, z8⟩ := hz4; unfold Free at ff4))
              have HB4 : Below w.heap.size w w4 := But.below (HB2.out.trans (HB.out.mono HB2.out.size)) hbut (Nat.le_refl _) (by omega)
              exact bodyPost_ret (v := .tuple #[.agg #[.int .i64 0, .int .i64 0, .bool false, .bool false, .bool false, .bool false, .bool false, .int .i64 0, .int .i64 0], .int .i64 2]) (by simp [results, Tryd.results12, go_sem, z0, z1, z2, z3, z4, z5, z6, z7, z8]) rfl ⟨by rw [HVV.out] <;> rfl, below_set9 HB4 (by omega) _ _ _ _ _ _ _ _ _⟩
            · go_wp2_with (first
                | (go_at_call 59; refine (name_any _ _).mono ?_; rintro e w3 ⟨rfl, rfl⟩)
                | (go_at_call 136; refine (HS.out r w.heap.size v _ TR.out.a TR.out.fa).mono ?_; rintro e w4 ⟨rfl, hbut, hat, hfr⟩; rw [HSO.out]; have hz4 := At.but TR.out.z hbut (by omega); have ff4 := Free.but TR.out.fz hbut TR.out.z.1 (by omega); obtain ⟨hzb, z0, z1, z2, z3, z4, z5, z6, z7, z8⟩ := hz4; unfold Free at ff4))
              have HB4 : Below w.heap.size w w4 := But.below (HB2.out.trans (HB.out.mono HB2.out.size)) hbut (Nat.le_refl _) (by omega)
              exact bodyPost_ret (v := .tuple #[.agg #[.int .i64 0, .int .i64 0, .bool false, .bool false, .bool false, .bool false, .bool false, .int .i64 0, .int .i64 0], .int .i64 2]) (by simp [results, Tryd.results12, go_sem, z0, z1, z2, z3, z4, z5, z6, z7, z8]) rfl ⟨by rw [HVV.out] <;> rfl, below_set9 HB4 (by omega) _ _ _ _ _ _ _ _ _⟩
          · obtain ⟨r', hr'⟩ : ∃ r', r.upd n v = r' := ⟨_, rfl⟩
            have HR := Lib.hid hr'
            have HSO := Lib.hid hso
            rcases hok2 : r'.ok with _ | _
            · have hv : setV r (idxL flds s' 0) v = (zeroR, 2) := setV_out n Hok.out HI.out (by rw [hso, hr', hok2]; rfl)
              have HVV := Lib.hid hv
              have HO2 := Lib.hid hok2
              clear hv hso hr' hok2
              rcases hfs with rfl | rfl
              · go_wp2_with (first
                  | (go_at_call 59; refine (name_any _ _).mono ?_; rintro e w3 ⟨rfl, rfl⟩)
                  | (go_at_call 138; refine (HS.out r w.heap.size v _ TR.out.a TR.out.fa).mono ?_; rintro e w4 ⟨rfl, hbut, hat, hfr⟩; rw [HSO.out]; rw [HR.out] at hat; have hz4 := Lib.hid (At.but TR.out.z hbut (by omega)); have ff4 := Lib.hid (Free.but TR.out.fz hbut TR.out.z.1 (by omega)); obtain ⟨hab4, d0, d1, d2, d3, d4, d5, d6, d7, d8⟩ := hat)
                  | (go_at_call 41; refine (valid_rv r' _).mono ?_; rintro e w5 ⟨rfl, hb5⟩; rw [HO2.out]; clear d0 d1 d2 d3 d4 d5 d6 d7 d8; have hf5 := ff4.out.below hz4.out.1 hb5; obtain ⟨hzb, z0, z1, z2, z3, z4, z5, z6, z7, z8⟩ := RulesAt.below hz4.out hb5; unfold Free at hf5))
                have HB4 : Below w.heap.size w w4 := But.below (HB2.out.trans (HB.out.mono HB2.out.size)) hbut (Nat.le_refl _) (by omega)
                have HB5 : Below w.heap.size w w5 := HB4.trans (hb5.mono HB4.size)
                exact bodyPost_ret (v := .tuple #[.agg #[.int .i64 0, .int .i64 0, .bool false, .bool false, .bool false, .bool false, .bool false, .int .i64 0, .int .i64 0], .int .i64 2]) (by simp [results, Tryd.results12, go_sem, z0, z1, z2, z3, z4, z5, z6, z7, z8]) rfl ⟨by rw [HVV.out] <;> rfl, below_set9 HB5 (by omega) _ _ _ _ _ _ _ _ _⟩
              · go_wp2_with (first
                  | (go_at_call 59; refine (name_any _ _).mono ?_; rintro e w3 ⟨rfl, rfl⟩)
                  | (go_at_call 136; refine (HS.out r w.heap.size v _ TR.out.a TR.out.fa).mono ?_; rintro e w4 ⟨rfl, hbut, hat, hfr⟩; rw [HSO.out]; rw [HR.out] at hat; have hz4 := Lib.hid (At.but TR.out.z hbut (by omega)); have ff4 := Lib.hid (Free.but TR.out.fz hbut TR.out.z.1 (by omega)); obtain ⟨hab4, d0, d1, d2, d3, d4, d5, d6, d7, d8⟩ := hat)
                  | (go_at_call 41; refine (valid_rv r' _).mono ?_; rintro e w5 ⟨rfl, hb5⟩; rw [HO2.out]; clear d0 d1 d2 d3 d4 d5 d6 d7 d8; have hf5 := ff4.out.below hz4.out.1 hb5; obtain ⟨hzb, z0, z1, z2, z3, z4, z5, z6, z7, z8⟩ := RulesAt.below hz4.out hb5; unfold Free at hf5))
                have HB4 : Below w.heap.size w w4 := But.below (HB2.out.trans (HB.out.mono HB2.out.size)) hbut (Nat.le_refl _) (by omega)
                have HB5 : Below w.heap.size w w5 := HB4.trans (hb5.mono HB4.size)
                exact bodyPost_ret (v := .tuple #[.agg #[.int .i64 0, .int .i64 0, .bool false, .bool false, .bool false, .bool false, .bool false, .int .i64 0, .int .i64 0], .int .i64 2]) (by simp [results, Tryd.results12, go_sem, z0, z1, z2, z3, z4, z5, z6, z7, z8]) rfl ⟨by rw [HVV.out] <;> rfl, below_set9 HB5 (by omega) _ _ _ _ _ _ _ _ _⟩
            · have hv : setV r (idxL flds s' 0) v = (r', 0) := by rw [setV_in n Hok.out HI.out (by rw [hso, hr', hok2]; rfl), hr']
              have HVV := Lib.hid hv
              have HO2 := Lib.hid hok2
              clear hv hso hr' hok2
              rcases hfs with rfl | rfl
              · go_wp2_with (first
                  | (go_at_call 59; refine (name_any _ _).mono ?_; rintro e w3 ⟨rfl, rfl⟩)
                  | (go_at_call 138; refine (HS.out r w.heap.size v _ TR.out.a TR.out.fa).mono ?_; rintro e w4 ⟨rfl, hbut, hat, hfr⟩; rw [HSO.out]; rw [HR.out] at hat; have hz4 := Lib.hid (At.but TR.out.z hbut (by omega)); have ff4 := Lib.hid (Free.but TR.out.fz hbut TR.out.z.1 (by omega)); have HA4 := Lib.hid hat; obtain ⟨hab4, d0, d1, d2, d3, d4, d5, d6, d7, d8⟩ := hat)
                  | (go_at_call 41; refine (valid_rv r' _).mono ?_; rintro e w5 ⟨rfl, hb5⟩; rw [HO2.out]; clear d0 d1 d2 d3 d4 d5 d6 d7 d8; have hf5 := ff4.out.below hz4.out.1 hb5; obtain ⟨hzb, z0, z1, z2, z3, z4, z5, z6, z7, z8⟩ := RulesAt.below hz4.out hb5; obtain ⟨hab5, d0, d1, d2, d3, d4, d5, d6, d7, d8⟩ := RulesAt.below HA4.out hb5; unfold Free at hf5))
                have HB4 : Below w.heap.size w w4 := But.below (HB2.out.trans (HB.out.mono HB2.out.size)) hbut (Nat.le_refl _) (by omega)
                have HB5 : Below w.heap.size w w5 := HB4.trans (hb5.mono HB4.size)
                exact bodyPost_ret (v := .tuple #[.agg #[.int .i64 r'.p, .int .i64 r'.s, .bool r'.st, .bool r'.sk, .bool r'.re, .bool r'.fe, .bool r'.ag, .int .i64 r'.c, .int .i64 r'.l], .int .i64 0]) (by simp [results, Tryd.results12, go_sem, z0, z1, z2, z3, z4, z5, z6, z7, z8]) rfl ⟨by rw [HVV.out] <;> rfl, below_set9 HB5 (by omega) _ _ _ _ _ _ _ _ _⟩
              · go_wp2_with (first
                  | (go_at_call 59; refine (name_any _ _).mono ?_; rintro e w3 ⟨rfl, rfl⟩)
                  | (go_at_call 136; refine (HS.out r w.heap.size v _ TR.out.a TR.out.fa).mono ?_; rintro e w4 ⟨rfl, hbut, hat, hfr⟩; rw [HSO.out]; rw [HR.out] at hat; have hz4 := Lib.hid (At.but TR.out.z hbut (by omega)); have ff4 := Lib.hid (Free.but TR.out.fz hbut TR.out.z.1 (by omega)); have HA4 := Lib.hid hat; obtain ⟨hab4, d0, d1, d2, d3, d4, d5, d6, d7, d8⟩ := hat)
                  | (go_at_call 41; refine (valid_rv r' _).mono ?_; rintro e w5 ⟨rfl, hb5⟩; rw [HO2.out]; clear d0 d1 d2 d3 d4 d5 d6 d7 d8; have hf5 := ff4.out.below hz4.out.1 hb5; obtain ⟨hzb, z0, z1, z2, z3, z4, z5, z6, z7, z8⟩ := RulesAt.below hz4.out hb5; obtain ⟨hab5, d0, d1, d2, d3, d4, d5, d6, d7, d8⟩ := RulesAt.below HA4.out hb5; unfold Free at hf5))
                have HB4 : Below w.heap.size w w4 := But.below (HB2.out.trans (HB.out.mono HB2.out.size)) hbut (Nat.le_refl _) (by omega)
                have HB5 : Below w.heap.size w w5 := HB4.trans (hb5.mono HB4.size)
                exact bodyPost_ret (v := .tuple #[.agg #[.int .i64 r'.p, .int .i64 r'.s, .bool r'.st, .bool r'.sk, .bool r'.re, .bool r'.fe, .bool r'.ag, .int .i64 r'.c, .int .i64 r'.l], .int .i64 0]) (by simp [results, Tryd.results12, go_sem, z0, z1, z2, z3, z4, z5, z6, z7, z8]) rfl ⟨by rw [HVV.out] <;> rfl, below_set9 HB5 (by omega) _ _ _ _ _ _ _ _ _⟩
        · have he2 : (x.toList == s'.toList) = false := by simpa using he
          clear he
          go_wp2_with (go_at_call 59; refine (name_any _ _).mono ?_; rintro e w3 ⟨rfl, rfl⟩)
          go_roundw
          case rel => exact ⟨n + 1, by omega, by go_num, HB.out, by rw [← HX.out, idx_step HXS.out he2]⟩
          case measure => simp [intOf]; omega
      · obtain rfl : n = 9 := by omega
        have hv : setV r (idxL flds s' 0) v = (zeroR, 3) := setV_no v Hok.out (by rw [← HX.out, idx_none (by decide)]; decide)
        have HVV := Lib.hid hv
        obtain ⟨-, ⟨hzb, z0, z1, z2, z3, z4, z5, z6, z7, z8⟩, -, fz⟩ := TR.out
        unfold Free at fz
        clear hv hbl
        have HB5 := HB2.out.trans (HB.out.mono HB2.out.size)
        go_wp2_with fail
        exact bodyPost_ret (v := .tuple #[.agg #[.int .i64 0, .int .i64 0, .bool false, .bool false, .bool false, .bool false, .bool false, .int .i64 0, .int .i64 0], .int .i64 3]) (by simp [results, Tryd.results12, go_sem, z0, z1, z2, z3, z4, z5, z6, z7, z8]) rfl ⟨by rw [HVV.out] <;> rfl, below_set9 HB5 (by omega) _ _ _ _ _ _ _ _ _⟩
end Go.Proofs.YtihbaehfgjkajaaDoor
