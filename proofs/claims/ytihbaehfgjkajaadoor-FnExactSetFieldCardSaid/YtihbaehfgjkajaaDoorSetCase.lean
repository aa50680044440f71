/- SetField of the reference at a field that there is, case by case. No conditions. -/
import Derived.Test.YtihbaehfgjkajaaDoorSetBase
import Derived.Test.YtihbaehfgjkajaaDoorDiffS
namespace Go.Proofs.YtihbaehfgjkajaaDoor
open Go.Joins Go.ChangeShapes Go.WideShapes Go.ChangeAt Go.RowKit Go.Deep
set_option linter.unusedVariables false

theorem bit_is (b : Bool) : (bit b == 1) = b := by cases b <;> rfl
/-- Rules out of a list of numbers. -/
def ofVals (v0 v1 v2 v3 v4 v5 v6 v7 v8 : Int) : RV := ⟨v0, v1, v2 == 1, v3 == 1, v4 == 1, v5 == 1, v6 == 1, v7, v8⟩
theorem upd_vals (r : RV) (n : Nat) (v : Int) (hn : n < 9) : ∃ v0 v1 v2 v3 v4 v5 v6 v7 v8 : Int, r.vals.set n v = [v0, v1, v2, v3, v4, v5, v6, v7, v8] ∧ ofVals v0 v1 v2 v3 v4 v5 v6 v7 v8 = r.upd n v := by
  rcases (by omega : n = 0 ∨ n = 1 ∨ n = 2 ∨ n = 3 ∨ n = 4 ∨ n = 5 ∨ n = 6 ∨ n = 7 ∨ n = 8) with rfl | rfl | rfl | rfl | rfl | rfl | rfl | rfl | rfl
  all_goals exact ⟨_, _, _, _, _, _, _, _, _, rfl, by simp [ofVals, RV.upd, bit_is]⟩
theorem rowI_set {w : World} {g n : Nat} {xs : List Int} {v : Int} (h : RowI w g xs) (hn : n < xs.length) : RowI (w.setCell ⟨g, n, none⟩ (.int .i64 v)) g (xs.set n v) := by
  obtain ⟨hg, hx, hf⟩ := h
  refine ⟨by simpa using hg, fun i x hi => ?_, fun o => by have := hf o; go_simp⟩
  by_cases e : n = i
  · subst e
    rw [List.getElem?_set_self hn] at hi
    cases hi
    have h0 := hx n _ (List.getElem?_eq_getElem hn)
    exact World.cell?_setCell_same' _ _ _ (by rw [h0]; rfl)
  · rw [List.getElem?_set_ne e] at hi
    rw [World.cell?_setCell_other (w := w) (a := ⟨g, n, none⟩) (b := ⟨g, i, none⟩) (h := by intro e'; simp only [Addr.mk.injEq] at e'; exact e e'.2.1)]
    exact hx i x hi
theorem setOk_iff (n : Nat) (v : Int) : ((decide ((2 : Int) ≤ (n : Int)) && decide ((n : Int) ≤ 6)) && !(decide ((0 : Int) ≤ v) && decide (v ≤ 1))) = !setOk n v := by
  unfold setOk
  by_cases h : 2 ≤ n ∧ n ≤ 6
  · rw [if_pos h]
    have h1 : (2 : Int) ≤ (n : Int) := by omega
    have h2 : (n : Int) ≤ 6 := by omega
    rw [decide_eq_true h1, decide_eq_true h2]
    by_cases h0 : v = 0
    · subst h0; rfl
    · by_cases h1 : v = 1
      · subst h1; rfl
      · have : ¬ (0 ≤ v ∧ v ≤ 1) := by omega
        have e : (decide ((0 : Int) ≤ v) && decide (v ≤ 1)) = false := by
          rw [← Bool.not_eq_true, Bool.and_eq_true, decide_eq_true_eq, decide_eq_true_eq]; exact this
        rw [e]
        simp [h0, h1]
  · rw [if_neg h]
    have e : (decide ((2 : Int) ≤ (n : Int)) && decide ((n : Int) ≤ 6)) = false := by
      rw [← Bool.not_eq_true, Bool.and_eq_true, decide_eq_true_eq, decide_eq_true_eq]; omega
    rw [e]
    rfl

set_option maxHeartbeats 2000000 in
theorem spec_set_tf (r r' : RV) (s' : ByteArray) (v : Int) (n : Nat) (v0 v1 v2 v3 v4 v5 v6 v7 v8 x : Int) (hn9 : n < 9) (hok : r.ok = true) (hi : idxL flds s' 0 = (n : Int)) (hset : r.vals.set n v = [v0, v1, v2, v3, v4, v5, v6, v7, v8]) (hupd : ofVals v0 v1 v2 v3 v4 v5 v6 v7 v8 = r')
    (hx : r.vals[n]? = some x) (hk1 : (decide ((2 : Int) ≤ (n : Int)) && decide ((n : Int) ≤ 6)) = true) (hk2 : (decide ((0 : Int) ≤ v) && decide (v ≤ 1)) = false) (w : World) :
    Calls Tryd.prog 13 #[.agg #[.int .i64 r.p, .int .i64 r.s, .bool r.st, .bool r.sk, .bool r.re, .bool r.fe, .bool r.ag, .int .i64 r.c, .int .i64 r.l], .string s', .int .i64 v] w fun e w' => e = .returned (.tuple #[zeroR.val, .int .i64 2]) ∧ Below w.heap.size w w' := by
  have TW := Lib.hid (two_new r w 25)
  have HB0 := Lib.hid (((Below.refl w.heap.size w).alloc (Nat.le_refl _) (.cells #[.int .i64 r.p, .int .i64 r.s, .bool r.st, .bool r.sk, .bool r.re, .bool r.fe, .bool r.ag, .int .i64 r.c, .int .i64 r.l] 25)).alloc (by simp) (.cells #[.int .i64 0, .int .i64 0, .bool false, .bool false, .bool false, .bool false, .bool false, .int .i64 0, .int .i64 0] 25))
  have q1 : (n : Int) < 9 := by omega
  have HSET := Lib.hid hset
  have HXX := Lib.hid hx
  have HU := Lib.hid hupd
  have Hok := Lib.hid hok
  have HI := Lib.hid hi
  have hl9 : flds.length = 9 := rfl
  have HIN1 := Lib.hid (fun w => in_b (n : Int) 2 6 true hk1 w)
  have HIN2 := Lib.hid (fun w => in_b v 0 1 false hk2 w)
  clear hset hx hupd hok hi hk1 hk2
  go_enter Tryd.func13, Tryd.ntmps13
  go_wp2_with fail
  refine (ok_rv r _ _ TW.out.a).mono ?_
  rintro e w1 ⟨rfl, rfl⟩
  rw [Hok.out]
  go_wp2_with fail
  refine (flds_any _).mono ?_
  rintro e w2 ⟨rfl, hb2, hs2, hr2⟩
  have T2 := Lib.hid (TW.out.below hb2)
  have HB2 := Lib.hid (HB0.out.trans (hb2.mono (by simp; omega)))
  simp only [World.size_alloc] at hr2
  go_wp2_with fail
  refine (index_any flds _ 9 9 s' _ hl9 (by omega) hr2).mono ?_
  rintro e w3 ⟨rfl, hb3⟩
  rw [HI.out]
  have HB3 := Lib.hid (HB2.out.trans (hb3.mono HB2.out.size))
  have T3 := Lib.hid (T2.out.below hb3)
  clear hr2 hl9
  go_wp2_with fail
  refine (vals_rv r _ _ T3.out.a).mono ?_
  rintro e w4 ⟨g, rfl, hb4, hg4, hr4⟩
  have y := hr4.2.1 n x HXX.out
  have yf := hr4.2.2 n
  have RS := Lib.hid (show RowI (w4.setCell ⟨g, n, none⟩ (.int .i64 v)) g [v0, v1, v2, v3, v4, v5, v6, v7, v8] by rw [← HSET.out]; exact rowI_set hr4 (by rw [vals_len]; exact hn9))
  have hz3 := HB3.out.size
  have HBS := Lib.hid (hb4.setCell (p := ⟨g, n, none⟩) hg4 (.int .i64 v))
  clear hr4 hb2 hb3 hb4
  go_wp2_with fail
  refine (rules_any v0 v1 v2 v3 v4 v5 v6 v7 v8 g _ _ RS.out).mono ?_
  rintro e w5 ⟨rfl, hb5⟩
  have HB5 := Lib.hid (HBS.out.trans (hb5.mono HBS.out.size))
  have T5 := Lib.hid (T3.out.below HB5.out)
  have HW5 := Lib.hid (HB3.out.trans (HB5.out.mono hz3))
  have RO := Lib.hid (show (ofVals v0 v1 v2 v3 v4 v5 v6 v7 v8).At (w5.alloc (.cells #[.int .i64 v0, .int .i64 v1, .bool (v2 == 1), .bool (v3 == 1), .bool (v4 == 1), .bool (v5 == 1), .bool (v6 == 1), .int .i64 v7, .int .i64 v8] 25)) w5.heap.size from rv_new (ofVals v0 v1 v2 v3 v4 v5 v6 v7 v8) w5 25)
  have T6 := Lib.hid (T5.out.below ((Below.refl _ _).alloc (Nat.le_refl _) (.cells #[.int .i64 v0, .int .i64 v1, .bool (v2 == 1), .bool (v3 == 1), .bool (v4 == 1), .bool (v5 == 1), .bool (v6 == 1), .int .i64 v7, .int .i64 v8] 25)))
  have HW6 := Lib.hid (HW5.out.alloc HW5.out.size (.cells #[.int .i64 v0, .int .i64 v1, .bool (v2 == 1), .bool (v3 == 1), .bool (v4 == 1), .bool (v5 == 1), .bool (v6 == 1), .int .i64 v7, .int .i64 v8] 25))
  clear hb5 y yf
  go_wp2_with fail
  refine (HIN1.out _).mono ?_
  rintro e w6 ⟨rfl, rfl⟩
  go_wp2_with fail
  refine (HIN2.out _).mono ?_
  rintro e w7 ⟨rfl, rfl⟩
  obtain ⟨-, ⟨hzb, z0, z1, z2, z3, z4, z5, z6, z7, z8⟩, -, fz⟩ := T6.out
  unfold Free at fz
  obtain ⟨hob, d0, d1, d2, d3, d4, d5, d6, d7, d8⟩ := RO.out
  unfold ofVals at d0 d1 d2 d3 d4 d5 d6 d7 d8
  go_wp2_with fail
  exact bodyPost_ret (v := .tuple #[.agg #[.int .i64 0, .int .i64 0, .bool false, .bool false, .bool false, .bool false, .bool false, .int .i64 0, .int .i64 0], .int .i64 2]) (by simp [results, Tryd.results13, go_sem, z0, z1, z2, z3, z4, z5, z6, z7, z8]) rfl ⟨rfl, below_set9 HW6.out (by omega) _ _ _ _ _ _ _ _ _⟩
set_option maxHeartbeats 2000000 in
theorem spec_set_ff0 (r r' : RV) (s' : ByteArray) (v : Int) (n : Nat) (v0 v1 v2 v3 v4 v5 v6 v7 v8 x : Int) (hn9 : n < 9) (hok : r.ok = true) (hi : idxL flds s' 0 = (n : Int)) (hset : r.vals.set n v = [v0, v1, v2, v3, v4, v5, v6, v7, v8]) (hupd : ofVals v0 v1 v2 v3 v4 v5 v6 v7 v8 = r')
    (hx : r.vals[n]? = some x) (hk1 : (decide ((2 : Int) ≤ (n : Int)) && decide ((n : Int) ≤ 6)) = false) (hk2 : (decide ((0 : Int) ≤ v) && decide (v ≤ 1)) = false) (ho2 : r'.ok = false) (w : World) :
    Calls Tryd.prog 13 #[.agg #[.int .i64 r.p, .int .i64 r.s, .bool r.st, .bool r.sk, .bool r.re, .bool r.fe, .bool r.ag, .int .i64 r.c, .int .i64 r.l], .string s', .int .i64 v] w fun e w' => e = .returned (.tuple #[zeroR.val, .int .i64 2]) ∧ Below w.heap.size w w' := by
  have TW := Lib.hid (two_new r w 25)
  have HB0 := Lib.hid (((Below.refl w.heap.size w).alloc (Nat.le_refl _) (.cells #[.int .i64 r.p, .int .i64 r.s, .bool r.st, .bool r.sk, .bool r.re, .bool r.fe, .bool r.ag, .int .i64 r.c, .int .i64 r.l] 25)).alloc (by simp) (.cells #[.int .i64 0, .int .i64 0, .bool false, .bool false, .bool false, .bool false, .bool false, .int .i64 0, .int .i64 0] 25))
  have q1 : (n : Int) < 9 := by omega
  have HSET := Lib.hid hset
  have HXX := Lib.hid hx
  have HU := Lib.hid hupd
  have Hok := Lib.hid hok
  have HI := Lib.hid hi
  have hl9 : flds.length = 9 := rfl
  have HIN1 := Lib.hid (fun w => in_b (n : Int) 2 6 false hk1 w)
  have HIN2 := Lib.hid (fun w => in_b v 0 1 false hk2 w)
  have HO2 := Lib.hid ho2
  clear hset hx hupd hok hi hk1 hk2 ho2
  go_enter Tryd.func13, Tryd.ntmps13
  go_wp2_with fail
  refine (ok_rv r _ _ TW.out.a).mono ?_
  rintro e w1 ⟨rfl, rfl⟩
  rw [Hok.out]
  go_wp2_with fail
  refine (flds_any _).mono ?_
  rintro e w2 ⟨rfl, hb2, hs2, hr2⟩
  have T2 := Lib.hid (TW.out.below hb2)
  have HB2 := Lib.hid (HB0.out.trans (hb2.mono (by simp; omega)))
  simp only [World.size_alloc] at hr2
  go_wp2_with fail
  refine (index_any flds _ 9 9 s' _ hl9 (by omega) hr2).mono ?_
  rintro e w3 ⟨rfl, hb3⟩
  rw [HI.out]
  have HB3 := Lib.hid (HB2.out.trans (hb3.mono HB2.out.size))
  have T3 := Lib.hid (T2.out.below hb3)
  clear hr2 hl9
  go_wp2_with fail
  refine (vals_rv r _ _ T3.out.a).mono ?_
  rintro e w4 ⟨g, rfl, hb4, hg4, hr4⟩
  have y := hr4.2.1 n x HXX.out
  have yf := hr4.2.2 n
  have RS := Lib.hid (show RowI (w4.setCell ⟨g, n, none⟩ (.int .i64 v)) g [v0, v1, v2, v3, v4, v5, v6, v7, v8] by rw [← HSET.out]; exact rowI_set hr4 (by rw [vals_len]; exact hn9))
  have hz3 := HB3.out.size
  have HBS := Lib.hid (hb4.setCell (p := ⟨g, n, none⟩) hg4 (.int .i64 v))
  clear hr4 hb2 hb3 hb4
  go_wp2_with fail
  refine (rules_any v0 v1 v2 v3 v4 v5 v6 v7 v8 g _ _ RS.out).mono ?_
  rintro e w5 ⟨rfl, hb5⟩
  have HB5 := Lib.hid (HBS.out.trans (hb5.mono HBS.out.size))
  have T5 := Lib.hid (T3.out.below HB5.out)
  have HW5 := Lib.hid (HB3.out.trans (HB5.out.mono hz3))
  have RO := Lib.hid (show (ofVals v0 v1 v2 v3 v4 v5 v6 v7 v8).At (w5.alloc (.cells #[.int .i64 v0, .int .i64 v1, .bool (v2 == 1), .bool (v3 == 1), .bool (v4 == 1), .bool (v5 == 1), .bool (v6 == 1), .int .i64 v7, .int .i64 v8] 25)) w5.heap.size from rv_new (ofVals v0 v1 v2 v3 v4 v5 v6 v7 v8) w5 25)
  have T6 := Lib.hid (T5.out.below ((Below.refl _ _).alloc (Nat.le_refl _) (.cells #[.int .i64 v0, .int .i64 v1, .bool (v2 == 1), .bool (v3 == 1), .bool (v4 == 1), .bool (v5 == 1), .bool (v6 == 1), .int .i64 v7, .int .i64 v8] 25)))
  have HW6 := Lib.hid (HW5.out.alloc HW5.out.size (.cells #[.int .i64 v0, .int .i64 v1, .bool (v2 == 1), .bool (v3 == 1), .bool (v4 == 1), .bool (v5 == 1), .bool (v6 == 1), .int .i64 v7, .int .i64 v8] 25))
  clear hb5 y yf
  go_wp2_with fail
  refine (HIN1.out _).mono ?_
  rintro e w6 ⟨rfl, rfl⟩
  go_wp2_with fail
  refine (ok_rv (ofVals v0 v1 v2 v3 v4 v5 v6 v7 v8) _ _ RO.out).mono ?_
  rintro e w8 ⟨rfl, rfl⟩
  rw [HU.out, HO2.out]
  obtain ⟨-, ⟨hzb, z0, z1, z2, z3, z4, z5, z6, z7, z8⟩, -, fz⟩ := T6.out
  unfold Free at fz
  obtain ⟨hob, d0, d1, d2, d3, d4, d5, d6, d7, d8⟩ := RO.out
  unfold ofVals at d0 d1 d2 d3 d4 d5 d6 d7 d8
  go_wp2_with fail
  exact bodyPost_ret (v := .tuple #[.agg #[.int .i64 0, .int .i64 0, .bool false, .bool false, .bool false, .bool false, .bool false, .int .i64 0, .int .i64 0], .int .i64 2]) (by simp [results, Tryd.results13, go_sem, z0, z1, z2, z3, z4, z5, z6, z7, z8]) rfl ⟨rfl, below_set9 HW6.out (by omega) _ _ _ _ _ _ _ _ _⟩
set_option maxHeartbeats 2000000 in
theorem spec_set_ft0 (r r' : RV) (s' : ByteArray) (v : Int) (n : Nat) (v0 v1 v2 v3 v4 v5 v6 v7 v8 x : Int) (hn9 : n < 9) (hok : r.ok = true) (hi : idxL flds s' 0 = (n : Int)) (hset : r.vals.set n v = [v0, v1, v2, v3, v4, v5, v6, v7, v8]) (hupd : ofVals v0 v1 v2 v3 v4 v5 v6 v7 v8 = r')
    (hx : r.vals[n]? = some x) (hk1 : (decide ((2 : Int) ≤ (n : Int)) && decide ((n : Int) ≤ 6)) = false) (hk2 : (decide ((0 : Int) ≤ v) && decide (v ≤ 1)) = true) (ho2 : r'.ok = false) (w : World) :
    Calls Tryd.prog 13 #[.agg #[.int .i64 r.p, .int .i64 r.s, .bool r.st, .bool r.sk, .bool r.re, .bool r.fe, .bool r.ag, .int .i64 r.c, .int .i64 r.l], .string s', .int .i64 v] w fun e w' => e = .returned (.tuple #[zeroR.val, .int .i64 2]) ∧ Below w.heap.size w w' := by
  have TW := Lib.hid (two_new r w 25)
  have HB0 := Lib.hid (((Below.refl w.heap.size w).alloc (Nat.le_refl _) (.cells #[.int .i64 r.p, .int .i64 r.s, .bool r.st, .bool r.sk, .bool r.re, .bool r.fe, .bool r.ag, .int .i64 r.c, .int .i64 r.l] 25)).alloc (by simp) (.cells #[.int .i64 0, .int .i64 0, .bool false, .bool false, .bool false, .bool false, .bool false, .int .i64 0, .int .i64 0] 25))
  have q1 : (n : Int) < 9 := by omega
  have HSET := Lib.hid hset
  have HXX := Lib.hid hx
  have HU := Lib.hid hupd
  have Hok := Lib.hid hok
  have HI := Lib.hid hi
  have hl9 : flds.length = 9 := rfl
  have HIN1 := Lib.hid (fun w => in_b (n : Int) 2 6 false hk1 w)
  have HIN2 := Lib.hid (fun w => in_b v 0 1 true hk2 w)
  have HO2 := Lib.hid ho2
  clear hset hx hupd hok hi hk1 hk2 ho2
  go_enter Tryd.func13, Tryd.ntmps13
  go_wp2_with fail
  refine (ok_rv r _ _ TW.out.a).mono ?_
  rintro e w1 ⟨rfl, rfl⟩
  rw [Hok.out]
  go_wp2_with fail
  refine (flds_any _).mono ?_
  rintro e w2 ⟨rfl, hb2, hs2, hr2⟩
  have T2 := Lib.hid (TW.out.below hb2)
  have HB2 := Lib.hid (HB0.out.trans (hb2.mono (by simp; omega)))
  simp only [World.size_alloc] at hr2
  go_wp2_with fail
  refine (index_any flds _ 9 9 s' _ hl9 (by omega) hr2).mono ?_
  rintro e w3 ⟨rfl, hb3⟩
  rw [HI.out]
  have HB3 := Lib.hid (HB2.out.trans (hb3.mono HB2.out.size))
  have T3 := Lib.hid (T2.out.below hb3)
  clear hr2 hl9
  go_wp2_with fail
  refine (vals_rv r _ _ T3.out.a).mono ?_
  rintro e w4 ⟨g, rfl, hb4, hg4, hr4⟩
  have y := hr4.2.1 n x HXX.out
  have yf := hr4.2.2 n
  have RS := Lib.hid (show RowI (w4.setCell ⟨g, n, none⟩ (.int .i64 v)) g [v0, v1, v2, v3, v4, v5, v6, v7, v8] by rw [← HSET.out]; exact rowI_set hr4 (by rw [vals_len]; exact hn9))
  have hz3 := HB3.out.size
  have HBS := Lib.hid (hb4.setCell (p := ⟨g, n, none⟩) hg4 (.int .i64 v))
  clear hr4 hb2 hb3 hb4
  go_wp2_with fail
  refine (rules_any v0 v1 v2 v3 v4 v5 v6 v7 v8 g _ _ RS.out).mono ?_
  rintro e w5 ⟨rfl, hb5⟩
  have HB5 := Lib.hid (HBS.out.trans (hb5.mono HBS.out.size))
  have T5 := Lib.hid (T3.out.below HB5.out)
  have HW5 := Lib.hid (HB3.out.trans (HB5.out.mono hz3))
  have RO := Lib.hid (show (ofVals v0 v1 v2 v3 v4 v5 v6 v7 v8).At (w5.alloc (.cells #[.int .i64 v0, .int .i64 v1, .bool (v2 == 1), .bool (v3 == 1), .bool (v4 == 1), .bool (v5 == 1), .bool (v6 == 1), .int .i64 v7, .int .i64 v8] 25)) w5.heap.size from rv_new (ofVals v0 v1 v2 v3 v4 v5 v6 v7 v8) w5 25)
  have T6 := Lib.hid (T5.out.below ((Below.refl _ _).alloc (Nat.le_refl _) (.cells #[.int .i64 v0, .int .i64 v1, .bool (v2 == 1), .bool (v3 == 1), .bool (v4 == 1), .bool (v5 == 1), .bool (v6 == 1), .int .i64 v7, .int .i64 v8] 25)))
  have HW6 := Lib.hid (HW5.out.alloc HW5.out.size (.cells #[.int .i64 v0, .int .i64 v1, .bool (v2 == 1), .bool (v3 == 1), .bool (v4 == 1), .bool (v5 == 1), .bool (v6 == 1), .int .i64 v7, .int .i64 v8] 25))
  clear hb5 y yf
  go_wp2_with fail
  refine (HIN1.out _).mono ?_
  rintro e w6 ⟨rfl, rfl⟩
  go_wp2_with fail
  refine (ok_rv (ofVals v0 v1 v2 v3 v4 v5 v6 v7 v8) _ _ RO.out).mono ?_
  rintro e w8 ⟨rfl, rfl⟩
  rw [HU.out, HO2.out]
  obtain ⟨-, ⟨hzb, z0, z1, z2, z3, z4, z5, z6, z7, z8⟩, -, fz⟩ := T6.out
  unfold Free at fz
  obtain ⟨hob, d0, d1, d2, d3, d4, d5, d6, d7, d8⟩ := RO.out
  unfold ofVals at d0 d1 d2 d3 d4 d5 d6 d7 d8
  go_wp2_with fail
  exact bodyPost_ret (v := .tuple #[.agg #[.int .i64 0, .int .i64 0, .bool false, .bool false, .bool false, .bool false, .bool false, .int .i64 0, .int .i64 0], .int .i64 2]) (by simp [results, Tryd.results13, go_sem, z0, z1, z2, z3, z4, z5, z6, z7, z8]) rfl ⟨rfl, below_set9 HW6.out (by omega) _ _ _ _ _ _ _ _ _⟩
set_option maxHeartbeats 2000000 in
theorem spec_set_tt0 (r r' : RV) (s' : ByteArray) (v : Int) (n : Nat) (v0 v1 v2 v3 v4 v5 v6 v7 v8 x : Int) (hn9 : n < 9) (hok : r.ok = true) (hi : idxL flds s' 0 = (n : Int)) (hset : r.vals.set n v = [v0, v1, v2, v3, v4, v5, v6, v7, v8]) (hupd : ofVals v0 v1 v2 v3 v4 v5 v6 v7 v8 = r')
    (hx : r.vals[n]? = some x) (hk1 : (decide ((2 : Int) ≤ (n : Int)) && decide ((n : Int) ≤ 6)) = true) (hk2 : (decide ((0 : Int) ≤ v) && decide (v ≤ 1)) = true) (ho2 : r'.ok = false) (w : World) :
    Calls Tryd.prog 13 #[.agg #[.int .i64 r.p, .int .i64 r.s, .bool r.st, .bool r.sk, .bool r.re, .bool r.fe, .bool r.ag, .int .i64 r.c, .int .i64 r.l], .string s', .int .i64 v] w fun e w' => e = .returned (.tuple #[zeroR.val, .int .i64 2]) ∧ Below w.heap.size w w' := by
  have TW := Lib.hid (two_new r w 25)
  have HB0 := Lib.hid (((Below.refl w.heap.size w).alloc (Nat.le_refl _) (.cells #[.int .i64 r.p, .int .i64 r.s, .bool r.st, .bool r.sk, .bool r.re, .bool r.fe, .bool r.ag, .int .i64 r.c, .int .i64 r.l] 25)).alloc (by simp) (.cells #[.int .i64 0, .int .i64 0, .bool false, .bool false, .bool false, .bool false, .bool false, .int .i64 0, .int .i64 0] 25))
  have q1 : (n : Int) < 9 := by omega
  have HSET := Lib.hid hset
  have HXX := Lib.hid hx
  have HU := Lib.hid hupd
  have Hok := Lib.hid hok
  have HI := Lib.hid hi
  have hl9 : flds.length = 9 := rfl
  have HIN1 := Lib.hid (fun w => in_b (n : Int) 2 6 true hk1 w)
  have HIN2 := Lib.hid (fun w => in_b v 0 1 true hk2 w)
  have HO2 := Lib.hid ho2
  clear hset hx hupd hok hi hk1 hk2 ho2
  go_enter Tryd.func13, Tryd.ntmps13
  go_wp2_with fail
  refine (ok_rv r _ _ TW.out.a).mono ?_
  rintro e w1 ⟨rfl, rfl⟩
  rw [Hok.out]
  go_wp2_with fail
  refine (flds_any _).mono ?_
  rintro e w2 ⟨rfl, hb2, hs2, hr2⟩
  have T2 := Lib.hid (TW.out.below hb2)
  have HB2 := Lib.hid (HB0.out.trans (hb2.mono (by simp; omega)))
  simp only [World.size_alloc] at hr2
  go_wp2_with fail
  refine (index_any flds _ 9 9 s' _ hl9 (by omega) hr2).mono ?_
  rintro e w3 ⟨rfl, hb3⟩
  rw [HI.out]
  have HB3 := Lib.hid (HB2.out.trans (hb3.mono HB2.out.size))
  have T3 := Lib.hid (T2.out.below hb3)
  clear hr2 hl9
  go_wp2_with fail
  refine (vals_rv r _ _ T3.out.a).mono ?_
  rintro e w4 ⟨g, rfl, hb4, hg4, hr4⟩
  have y := hr4.2.1 n x HXX.out
  have yf := hr4.2.2 n
  have RS := Lib.hid (show RowI (w4.setCell ⟨g, n, none⟩ (.int .i64 v)) g [v0, v1, v2, v3, v4, v5, v6, v7, v8] by rw [← HSET.out]; exact rowI_set hr4 (by rw [vals_len]; exact hn9))
  have hz3 := HB3.out.size
  have HBS := Lib.hid (hb4.setCell (p := ⟨g, n, none⟩) hg4 (.int .i64 v))
  clear hr4 hb2 hb3 hb4
  go_wp2_with fail
  refine (rules_any v0 v1 v2 v3 v4 v5 v6 v7 v8 g _ _ RS.out).mono ?_
  rintro e w5 ⟨rfl, hb5⟩
  have HB5 := Lib.hid (HBS.out.trans (hb5.mono HBS.out.size))
  have T5 := Lib.hid (T3.out.below HB5.out)
  have HW5 := Lib.hid (HB3.out.trans (HB5.out.mono hz3))
  have RO := Lib.hid (show (ofVals v0 v1 v2 v3 v4 v5 v6 v7 v8).At (w5.alloc (.cells #[.int .i64 v0, .int .i64 v1, .bool (v2 == 1), .bool (v3 == 1), .bool (v4 == 1), .bool (v5 == 1), .bool (v6 == 1), .int .i64 v7, .int .i64 v8] 25)) w5.heap.size from rv_new (ofVals v0 v1 v2 v3 v4 v5 v6 v7 v8) w5 25)
  have T6 := Lib.hid (T5.out.below ((Below.refl _ _).alloc (Nat.le_refl _) (.cells #[.int .i64 v0, .int .i64 v1, .bool (v2 == 1), .bool (v3 == 1), .bool (v4 == 1), .bool (v5 == 1), .bool (v6 == 1), .int .i64 v7, .int .i64 v8] 25)))
  have HW6 := Lib.hid (HW5.out.alloc HW5.out.size (.cells #[.int .i64 v0, .int .i64 v1, .bool (v2 == 1), .bool (v3 == 1), .bool (v4 == 1), .bool (v5 == 1), .bool (v6 == 1), .int .i64 v7, .int .i64 v8] 25))
  clear hb5 y yf
  go_wp2_with fail
  refine (HIN1.out _).mono ?_
  rintro e w6 ⟨rfl, rfl⟩
  go_wp2_with fail
  refine (HIN2.out _).mono ?_
  rintro e w7 ⟨rfl, rfl⟩
  go_wp2_with fail
  refine (ok_rv (ofVals v0 v1 v2 v3 v4 v5 v6 v7 v8) _ _ RO.out).mono ?_
  rintro e w8 ⟨rfl, rfl⟩
  rw [HU.out, HO2.out]
  obtain ⟨-, ⟨hzb, z0, z1, z2, z3, z4, z5, z6, z7, z8⟩, -, fz⟩ := T6.out
  unfold Free at fz
  obtain ⟨hob, d0, d1, d2, d3, d4, d5, d6, d7, d8⟩ := RO.out
  unfold ofVals at d0 d1 d2 d3 d4 d5 d6 d7 d8
  go_wp2_with fail
  exact bodyPost_ret (v := .tuple #[.agg #[.int .i64 0, .int .i64 0, .bool false, .bool false, .bool false, .bool false, .bool false, .int .i64 0, .int .i64 0], .int .i64 2]) (by simp [results, Tryd.results13, go_sem, z0, z1, z2, z3, z4, z5, z6, z7, z8]) rfl ⟨rfl, below_set9 HW6.out (by omega) _ _ _ _ _ _ _ _ _⟩
set_option maxHeartbeats 2000000 in
theorem spec_set_ff1 (r r' : RV) (s' : ByteArray) (v : Int) (n : Nat) (v0 v1 v2 v3 v4 v5 v6 v7 v8 x : Int) (hn9 : n < 9) (hok : r.ok = true) (hi : idxL flds s' 0 = (n : Int)) (hset : r.vals.set n v = [v0, v1, v2, v3, v4, v5, v6, v7, v8]) (hupd : ofVals v0 v1 v2 v3 v4 v5 v6 v7 v8 = r')
    (hx : r.vals[n]? = some x) (hk1 : (decide ((2 : Int) ≤ (n : Int)) && decide ((n : Int) ≤ 6)) = false) (hk2 : (decide ((0 : Int) ≤ v) && decide (v ≤ 1)) = false) (ho2 : r'.ok = true) (w : World) :
    Calls Tryd.prog 13 #[.agg #[.int .i64 r.p, .int .i64 r.s, .bool r.st, .bool r.sk, .bool r.re, .bool r.fe, .bool r.ag, .int .i64 r.c, .int .i64 r.l], .string s', .int .i64 v] w fun e w' => e = .returned (.tuple #[r'.val, .int .i64 0]) ∧ Below w.heap.size w w' := by
  have TW := Lib.hid (two_new r w 25)
  have HB0 := Lib.hid (((Below.refl w.heap.size w).alloc (Nat.le_refl _) (.cells #[.int .i64 r.p, .int .i64 r.s, .bool r.st, .bool r.sk, .bool r.re, .bool r.fe, .bool r.ag, .int .i64 r.c, .int .i64 r.l] 25)).alloc (by simp) (.cells #[.int .i64 0, .int .i64 0, .bool false, .bool false, .bool false, .bool false, .bool false, .int .i64 0, .int .i64 0] 25))
  have q1 : (n : Int) < 9 := by omega
  have HSET := Lib.hid hset
  have HXX := Lib.hid hx
  have HU := Lib.hid hupd
  have Hok := Lib.hid hok
  have HI := Lib.hid hi
  have hl9 : flds.length = 9 := rfl
  have HIN1 := Lib.hid (fun w => in_b (n : Int) 2 6 false hk1 w)
  have HIN2 := Lib.hid (fun w => in_b v 0 1 false hk2 w)
  have HO2 := Lib.hid ho2
  clear hset hx hupd hok hi hk1 hk2 ho2
  go_enter Tryd.func13, Tryd.ntmps13
  go_wp2_with fail
  refine (ok_rv r _ _ TW.out.a).mono ?_
  rintro e w1 ⟨rfl, rfl⟩
  rw [Hok.out]
  go_wp2_with fail
  refine (flds_any _).mono ?_
  rintro e w2 ⟨rfl, hb2, hs2, hr2⟩
  have T2 := Lib.hid (TW.out.below hb2)
  have HB2 := Lib.hid (HB0.out.trans (hb2.mono (by simp; omega)))
  simp only [World.size_alloc] at hr2
  go_wp2_with fail
  refine (index_any flds _ 9 9 s' _ hl9 (by omega) hr2).mono ?_
  rintro e w3 ⟨rfl, hb3⟩
  rw [HI.out]
  have HB3 := Lib.hid (HB2.out.trans (hb3.mono HB2.out.size))
  have T3 := Lib.hid (T2.out.below hb3)
  clear hr2 hl9
  go_wp2_with fail
  refine (vals_rv r _ _ T3.out.a).mono ?_
  rintro e w4 ⟨g, rfl, hb4, hg4, hr4⟩
  have y := hr4.2.1 n x HXX.out
  have yf := hr4.2.2 n
  have RS := Lib.hid (show RowI (w4.setCell ⟨g, n, none⟩ (.int .i64 v)) g [v0, v1, v2, v3, v4, v5, v6, v7, v8] by rw [← HSET.out]; exact rowI_set hr4 (by rw [vals_len]; exact hn9))
  have hz3 := HB3.out.size
  have HBS := Lib.hid (hb4.setCell (p := ⟨g, n, none⟩) hg4 (.int .i64 v))
  clear hr4 hb2 hb3 hb4
  go_wp2_with fail
  refine (rules_any v0 v1 v2 v3 v4 v5 v6 v7 v8 g _ _ RS.out).mono ?_
  rintro e w5 ⟨rfl, hb5⟩
  have HB5 := Lib.hid (HBS.out.trans (hb5.mono HBS.out.size))
  have T5 := Lib.hid (T3.out.below HB5.out)
  have HW5 := Lib.hid (HB3.out.trans (HB5.out.mono hz3))
  have RO := Lib.hid (show (ofVals v0 v1 v2 v3 v4 v5 v6 v7 v8).At (w5.alloc (.cells #[.int .i64 v0, .int .i64 v1, .bool (v2 == 1), .bool (v3 == 1), .bool (v4 == 1), .bool (v5 == 1), .bool (v6 == 1), .int .i64 v7, .int .i64 v8] 25)) w5.heap.size from rv_new (ofVals v0 v1 v2 v3 v4 v5 v6 v7 v8) w5 25)
  have T6 := Lib.hid (T5.out.below ((Below.refl _ _).alloc (Nat.le_refl _) (.cells #[.int .i64 v0, .int .i64 v1, .bool (v2 == 1), .bool (v3 == 1), .bool (v4 == 1), .bool (v5 == 1), .bool (v6 == 1), .int .i64 v7, .int .i64 v8] 25)))
  have HW6 := Lib.hid (HW5.out.alloc HW5.out.size (.cells #[.int .i64 v0, .int .i64 v1, .bool (v2 == 1), .bool (v3 == 1), .bool (v4 == 1), .bool (v5 == 1), .bool (v6 == 1), .int .i64 v7, .int .i64 v8] 25))
  clear hb5 y yf
  go_wp2_with fail
  refine (HIN1.out _).mono ?_
  rintro e w6 ⟨rfl, rfl⟩
  go_wp2_with fail
  refine (ok_rv (ofVals v0 v1 v2 v3 v4 v5 v6 v7 v8) _ _ RO.out).mono ?_
  rintro e w8 ⟨rfl, rfl⟩
  rw [HU.out, HO2.out]
  obtain ⟨-, ⟨hzb, z0, z1, z2, z3, z4, z5, z6, z7, z8⟩, -, fz⟩ := T6.out
  unfold Free at fz
  obtain ⟨hob, d0, d1, d2, d3, d4, d5, d6, d7, d8⟩ := RO.out
  unfold ofVals at d0 d1 d2 d3 d4 d5 d6 d7 d8
  go_wp2_with fail
  exact bodyPost_ret (v := .tuple #[.agg #[.int .i64 v0, .int .i64 v1, .bool (v2 == 1), .bool (v3 == 1), .bool (v4 == 1), .bool (v5 == 1), .bool (v6 == 1), .int .i64 v7, .int .i64 v8], .int .i64 0]) (by simp [results, Tryd.results13, go_sem, z0, z1, z2, z3, z4, z5, z6, z7, z8]) rfl ⟨by rw [← HU.out]; rfl, below_set9 HW6.out (by omega) _ _ _ _ _ _ _ _ _⟩
set_option maxHeartbeats 2000000 in
theorem spec_set_ft1 (r r' : RV) (s' : ByteArray) (v : Int) (n : Nat) (v0 v1 v2 v3 v4 v5 v6 v7 v8 x : Int) (hn9 : n < 9) (hok : r.ok = true) (hi : idxL flds s' 0 = (n : Int)) (hset : r.vals.set n v = [v0, v1, v2, v3, v4, v5, v6, v7, v8]) (hupd : ofVals v0 v1 v2 v3 v4 v5 v6 v7 v8 = r')
    (hx : r.vals[n]? = some x) (hk1 : (decide ((2 : Int) ≤ (n : Int)) && decide ((n : Int) ≤ 6)) = false) (hk2 : (decide ((0 : Int) ≤ v) && decide (v ≤ 1)) = true) (ho2 : r'.ok = true) (w : World) :
    Calls Tryd.prog 13 #[.agg #[.int .i64 r.p, .int .i64 r.s, .bool r.st, .bool r.sk, .bool r.re, .bool r.fe, .bool r.ag, .int .i64 r.c, .int .i64 r.l], .string s', .int .i64 v] w fun e w' => e = .returned (.tuple #[r'.val, .int .i64 0]) ∧ Below w.heap.size w w' := by
  have TW := Lib.hid (two_new r w 25)
  have HB0 := Lib.hid (((Below.refl w.heap.size w).alloc (Nat.le_refl _) (.cells #[.int .i64 r.p, .int .i64 r.s, .bool r.st, .bool r.sk, .bool r.re, .bool r.fe, .bool r.ag, .int .i64 r.c, .int .i64 r.l] 25)).alloc (by simp) (.cells #[.int .i64 0, .int .i64 0, .bool false, .bool false, .bool false, .bool false, .bool false, .int .i64 0, .int .i64 0] 25))
  have q1 : (n : Int) < 9 := by omega
  have HSET := Lib.hid hset
  have HXX := Lib.hid hx
  have HU := Lib.hid hupd
  have Hok := Lib.hid hok
  have HI := Lib.hid hi
  have hl9 : flds.length = 9 := rfl
  have HIN1 := Lib.hid (fun w => in_b (n : Int) 2 6 false hk1 w)
  have HIN2 := Lib.hid (fun w => in_b v 0 1 true hk2 w)
  have HO2 := Lib.hid ho2
  clear hset hx hupd hok hi hk1 hk2 ho2
  go_enter Tryd.func13, Tryd.ntmps13
  go_wp2_with fail
  refine (ok_rv r _ _ TW.out.a).mono ?_
  rintro e w1 ⟨rfl, rfl⟩
  rw [Hok.out]
  go_wp2_with fail
  refine (flds_any _).mono ?_
  rintro e w2 ⟨rfl, hb2, hs2, hr2⟩
  have T2 := Lib.hid (TW.out.below hb2)
  have HB2 := Lib.hid (HB0.out.trans (hb2.mono (by simp; omega)))
  simp only [World.size_alloc] at hr2
  go_wp2_with fail
  refine (index_any flds _ 9 9 s' _ hl9 (by omega) hr2).mono ?_
  rintro e w3 ⟨rfl, hb3⟩
  rw [HI.out]
  have HB3 := Lib.hid (HB2.out.trans (hb3.mono HB2.out.size))
  have T3 := Lib.hid (T2.out.below hb3)
  clear hr2 hl9
  go_wp2_with fail
  refine (vals_rv r _ _ T3.out.a).mono ?_
  rintro e w4 ⟨g, rfl, hb4, hg4, hr4⟩
  have y := hr4.2.1 n x HXX.out
  have yf := hr4.2.2 n
  have RS := Lib.hid (show RowI (w4.setCell ⟨g, n, none⟩ (.int .i64 v)) g [v0, v1, v2, v3, v4, v5, v6, v7, v8] by rw [← HSET.out]; exact rowI_set hr4 (by rw [vals_len]; exact hn9))
  have hz3 := HB3.out.size
  have HBS := Lib.hid (hb4.setCell (p := ⟨g, n, none⟩) hg4 (.int .i64 v))
  clear hr4 hb2 hb3 hb4
  go_wp2_with fail
  refine (rules_any v0 v1 v2 v3 v4 v5 v6 v7 v8 g _ _ RS.out).mono ?_
  rintro e w5 ⟨rfl, hb5⟩
  have HB5 := Lib.hid (HBS.out.trans (hb5.mono HBS.out.size))
  have T5 := Lib.hid (T3.out.below HB5.out)
  have HW5 := Lib.hid (HB3.out.trans (HB5.out.mono hz3))
  have RO := Lib.hid (show (ofVals v0 v1 v2 v3 v4 v5 v6 v7 v8).At (w5.alloc (.cells #[.int .i64 v0, .int .i64 v1, .bool (v2 == 1), .bool (v3 == 1), .bool (v4 == 1), .bool (v5 == 1), .bool (v6 == 1), .int .i64 v7, .int .i64 v8] 25)) w5.heap.size from rv_new (ofVals v0 v1 v2 v3 v4 v5 v6 v7 v8) w5 25)
  have T6 := Lib.hid (T5.out.below ((Below.refl _ _).alloc (Nat.le_refl _) (.cells #[.int .i64 v0, .int .i64 v1, .bool (v2 == 1), .bool (v3 == 1), .bool (v4 == 1), .bool (v5 == 1), .bool (v6 == 1), .int .i64 v7, .int .i64 v8] 25)))
  have HW6 := Lib.hid (HW5.out.alloc HW5.out.size (.cells #[.int .i64 v0, .int .i64 v1, .bool (v2 == 1), .bool (v3 == 1), .bool (v4 == 1), .bool (v5 == 1), .bool (v6 == 1), .int .i64 v7, .int .i64 v8] 25))
  clear hb5 y yf
  go_wp2_with fail
  refine (HIN1.out _).mono ?_
  rintro e w6 ⟨rfl, rfl⟩
  go_wp2_with fail
  refine (ok_rv (ofVals v0 v1 v2 v3 v4 v5 v6 v7 v8) _ _ RO.out).mono ?_
  rintro e w8 ⟨rfl, rfl⟩
  rw [HU.out, HO2.out]
  obtain ⟨-, ⟨hzb, z0, z1, z2, z3, z4, z5, z6, z7, z8⟩, -, fz⟩ := T6.out
  unfold Free at fz
  obtain ⟨hob, d0, d1, d2, d3, d4, d5, d6, d7, d8⟩ := RO.out
  unfold ofVals at d0 d1 d2 d3 d4 d5 d6 d7 d8
  go_wp2_with fail
  exact bodyPost_ret (v := .tuple #[.agg #[.int .i64 v0, .int .i64 v1, .bool (v2 == 1), .bool (v3 == 1), .bool (v4 == 1), .bool (v5 == 1), .bool (v6 == 1), .int .i64 v7, .int .i64 v8], .int .i64 0]) (by simp [results, Tryd.results13, go_sem, z0, z1, z2, z3, z4, z5, z6, z7, z8]) rfl ⟨by rw [← HU.out]; rfl, below_set9 HW6.out (by omega) _ _ _ _ _ _ _ _ _⟩
set_option maxHeartbeats 2000000 in
theorem spec_set_tt1 (r r' : RV) (s' : ByteArray) (v : Int) (n : Nat) (v0 v1 v2 v3 v4 v5 v6 v7 v8 x : Int) (hn9 : n < 9) (hok : r.ok = true) (hi : idxL flds s' 0 = (n : Int)) (hset : r.vals.set n v = [v0, v1, v2, v3, v4, v5, v6, v7, v8]) (hupd : ofVals v0 v1 v2 v3 v4 v5 v6 v7 v8 = r')
    (hx : r.vals[n]? = some x) (hk1 : (decide ((2 : Int) ≤ (n : Int)) && decide ((n : Int) ≤ 6)) = true) (hk2 : (decide ((0 : Int) ≤ v) && decide (v ≤ 1)) = true) (ho2 : r'.ok = true) (w : World) :
    Calls Tryd.prog 13 #[.agg #[.int .i64 r.p, .int .i64 r.s, .bool r.st, .bool r.sk, .bool r.re, .bool r.fe, .bool r.ag, .int .i64 r.c, .int .i64 r.l], .string s', .int .i64 v] w fun e w' => e = .returned (.tuple #[r'.val, .int .i64 0]) ∧ Below w.heap.size w w' := by
  have TW := Lib.hid (two_new r w 25)
  have HB0 := Lib.hid (((Below.refl w.heap.size w).alloc (Nat.le_refl _) (.cells #[.int .i64 r.p, .int .i64 r.s, .bool r.st, .bool r.sk, .bool r.re, .bool r.fe, .bool r.ag, .int .i64 r.c, .int .i64 r.l] 25)).alloc (by simp) (.cells #[.int .i64 0, .int .i64 0, .bool false, .bool false, .bool false, .bool false, .bool false, .int .i64 0, .int .i64 0] 25))
  have q1 : (n : Int) < 9 := by omega
  have HSET := Lib.hid hset
  have HXX := Lib.hid hx
  have HU := Lib.hid hupd
  have Hok := Lib.hid hok
  have HI := Lib.hid hi
  have hl9 : flds.length = 9 := rfl
  have HIN1 := Lib.hid (fun w => in_b (n : Int) 2 6 true hk1 w)
  have HIN2 := Lib.hid (fun w => in_b v 0 1 true hk2 w)
  have HO2 := Lib.hid ho2
  clear hset hx hupd hok hi hk1 hk2 ho2
  go_enter Tryd.func13, Tryd.ntmps13
  go_wp2_with fail
  refine (ok_rv r _ _ TW.out.a).mono ?_
  rintro e w1 ⟨rfl, rfl⟩
  rw [Hok.out]
  go_wp2_with fail
  refine (flds_any _).mono ?_
  rintro e w2 ⟨rfl, hb2, hs2, hr2⟩
  have T2 := Lib.hid (TW.out.below hb2)
  have HB2 := Lib.hid (HB0.out.trans (hb2.mono (by simp; omega)))
  simp only [World.size_alloc] at hr2
  go_wp2_with fail
  refine (index_any flds _ 9 9 s' _ hl9 (by omega) hr2).mono ?_
  rintro e w3 ⟨rfl, hb3⟩
  rw [HI.out]
  have HB3 := Lib.hid (HB2.out.trans (hb3.mono HB2.out.size))
  have T3 := Lib.hid (T2.out.below hb3)
  clear hr2 hl9
  go_wp2_with fail
  refine (vals_rv r _ _ T3.out.a).mono ?_
  rintro e w4 ⟨g, rfl, hb4, hg4, hr4⟩
  have y := hr4.2.1 n x HXX.out
  have yf := hr4.2.2 n
  have RS := Lib.hid (show RowI (w4.setCell ⟨g, n, none⟩ (.int .i64 v)) g [v0, v1, v2, v3, v4, v5, v6, v7, v8] by rw [← HSET.out]; exact rowI_set hr4 (by rw [vals_len]; exact hn9))
  have hz3 := HB3.out.size
  have HBS := Lib.hid (hb4.setCell (p := ⟨g, n, none⟩) hg4 (.int .i64 v))
  clear hr4 hb2 hb3 hb4
  go_wp2_with fail
  refine (rules_any v0 v1 v2 v3 v4 v5 v6 v7 v8 g _ _ RS.out).mono ?_
  rintro e w5 ⟨rfl, hb5⟩
  have HB5 := Lib.hid (HBS.out.trans (hb5.mono HBS.out.size))
  have T5 := Lib.hid (T3.out.below HB5.out)
  have HW5 := Lib.hid (HB3.out.trans (HB5.out.mono hz3))
  have RO := Lib.hid (show (ofVals v0 v1 v2 v3 v4 v5 v6 v7 v8).At (w5.alloc (.cells #[.int .i64 v0, .int .i64 v1, .bool (v2 == 1), .bool (v3 == 1), .bool (v4 == 1), .bool (v5 == 1), .bool (v6 == 1), .int .i64 v7, .int .i64 v8] 25)) w5.heap.size from rv_new (ofVals v0 v1 v2 v3 v4 v5 v6 v7 v8) w5 25)
  have T6 := Lib.hid (T5.out.below ((Below.refl _ _).alloc (Nat.le_refl _) (.cells #[.int .i64 v0, .int .i64 v1, .bool (v2 == 1), .bool (v3 == 1), .bool (v4 == 1), .bool (v5 == 1), .bool (v6 == 1), .int .i64 v7, .int .i64 v8] 25)))
  have HW6 := Lib.hid (HW5.out.alloc HW5.out.size (.cells #[.int .i64 v0, .int .i64 v1, .bool (v2 == 1), .bool (v3 == 1), .bool (v4 == 1), .bool (v5 == 1), .bool (v6 == 1), .int .i64 v7, .int .i64 v8] 25))
  clear hb5 y yf
  go_wp2_with fail
  refine (HIN1.out _).mono ?_
  rintro e w6 ⟨rfl, rfl⟩
  go_wp2_with fail
  refine (HIN2.out _).mono ?_
  rintro e w7 ⟨rfl, rfl⟩
  go_wp2_with fail
  refine (ok_rv (ofVals v0 v1 v2 v3 v4 v5 v6 v7 v8) _ _ RO.out).mono ?_
  rintro e w8 ⟨rfl, rfl⟩
  rw [HU.out, HO2.out]
  obtain ⟨-, ⟨hzb, z0, z1, z2, z3, z4, z5, z6, z7, z8⟩, -, fz⟩ := T6.out
  unfold Free at fz
  obtain ⟨hob, d0, d1, d2, d3, d4, d5, d6, d7, d8⟩ := RO.out
  unfold ofVals at d0 d1 d2 d3 d4 d5 d6 d7 d8
  go_wp2_with fail
  exact bodyPost_ret (v := .tuple #[.agg #[.int .i64 v0, .int .i64 v1, .bool (v2 == 1), .bool (v3 == 1), .bool (v4 == 1), .bool (v5 == 1), .bool (v6 == 1), .int .i64 v7, .int .i64 v8], .int .i64 0]) (by simp [results, Tryd.results13, go_sem, z0, z1, z2, z3, z4, z5, z6, z7, z8]) rfl ⟨by rw [← HU.out]; rfl, below_set9 HW6.out (by omega) _ _ _ _ _ _ _ _ _⟩
end Go.Proofs.YtihbaehfgjkajaaDoor
