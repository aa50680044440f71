/- NearestGame of the reference and of the program return the same, and so the law on it holds. No conditions. -/
import Derived.Test.YtihbaehfgjkajabDoorDiffS
import Derived.Test.YtihbaehfgjkajabDoorStd
import Derived.Test.YtihbaehfgjkajabDoorCards
import Derived.Test.YtihbaehfgjkajabDoorTie
import Derived.Lay
import Derived.OpenVars
import Derived.Stop.Joined
import Derived.MakeChecks
import Derived.LaidMore
import Derived.SevenTiedAt
namespace Go.Proofs.YtihbaehfgjkajabDoor
open Go.Joins Go.ChangeShapes Go.WideShapes Go.ChangeAt Go.RowKit Go.Deep
open Go.ChangeMaps (open_string shut_string)
set_option linter.unusedVariables false

/-- The given games. -/
def stds : List (ByteArray × RV) := [(⟨#[107, 97, 108, 97, 104]⟩, ⟨6, 4, true, false, false, false, true, 2, 0⟩), (⟨#[109, 105, 110, 105]⟩, ⟨3, 2, false, false, false, true, false, 1, 0⟩), (⟨#[111, 119, 97, 114, 101]⟩, ⟨6, 4, false, true, false, true, false, 1, 2⟩), (⟨#[114, 101, 108, 97, 121]⟩, ⟨4, 2, false, false, true, false, false, 2, 0⟩)]
def stdNs : List ByteArray := stds.map (·.1)
theorem std_is {k : Nat} {x : ByteArray} {s : RV} (h : stds[k]? = some (x, s)) : stdR x = (s.val, 0) ∧ s.ok = true ∧ stdNs[k]? = some x := by
  refine ⟨?_, ?_, by unfold stdNs; rw [List.getElem?_map, h]; rfl⟩
  · rcases (by have := (List.getElem?_eq_some_iff.1 h).1; simp [stds] at this; omega : k = 0 ∨ k = 1 ∨ k = 2 ∨ k = 3) with rfl | rfl | rfl | rfl
    all_goals
      cases h
      simp [stdR, rKalah, rMini, rOware, rRelay, RV.val]
  · rcases (by have := (List.getElem?_eq_some_iff.1 h).1; simp [stds] at this; omega : k = 0 ∨ k = 1 ∨ k = 2 ∨ k = 3) with rfl | rfl | rfl | rfl
    all_goals
      cases h
      decide
/-- The nearest of the first k games, and how many fields differ. -/
def near (r : RV) : Nat → ByteArray × Nat
  | 0 => (⟨#[]⟩, 10)
  | k + 1 => match stds[k]? with
    | some (x, s) => if (diffK r s 9).length < (near r k).2 then (x, (diffK r s 9).length) else near r k
    | none => near r k
theorem near_lt {r s : RV} {k : Nat} {x : ByteArray} (h : stds[k]? = some (x, s)) (hl : (diffK r s 9).length < (near r k).2) : near r (k + 1) = (x, (diffK r s 9).length) := by
  simp only [near, h, if_pos hl]
theorem near_ge {r s : RV} {k : Nat} {x : ByteArray} (h : stds[k]? = some (x, s)) (hl : ¬ (diffK r s 9).length < (near r k).2) : near r (k + 1) = near r k := by
  simp only [near, h, if_neg hl]
theorem near_le (r : RV) : ∀ k, (near r k).2 ≤ 10
  | 0 => Nat.le_refl _
  | k + 1 => by
    unfold near
    split
    · split
      · have := diffK_len r (by assumption) 9
        simp only
        omega
      · exact near_le r k
    · exact near_le r k
theorem own_form {w : World} {B e n : Nat} {v : Value} {xs : List Value} (h : w.ownsRow B e 1 v n xs) : ∃ a c, v = .slice a n c := by
  obtain ⟨_, ⟨hv, h0⟩ | ⟨g', cap', cur, hv, _⟩⟩ := h
  · exact ⟨none, 0, by rw [hv, h0]⟩
  · exact ⟨_, _, hv⟩
theorem spec_stdns (w : World) : Calls Tryd.prog 8 #[] w (NewRow stdNs 4 w) := by
  go_enter Tryd.func8, Tryd.ntmps8
  go_wp2
  go_ret
  exact new_row w stdNs 4 9
theorem impl_stdns (w : World) : Calls Tryd.prog 13 #[] w (NewRow stdNs 4 w) := by
  go_enter Tryd.func13, Tryd.ntmps13
  go_wp2
  go_ret
  exact new_row w stdNs 4 9
def nearV (ok : Bool) (r : RV) : Value := if ok then .tuple #[.string (near r 4).1, .int .i64 ((near r 4).2 : Int), .int .i64 0] else .tuple #[.string ⟨#[]⟩, .int .i64 0, .int .i64 1]
theorem nearV_form (ok : Bool) (r : RV) : ∃ (x : ByteArray) (n k : Int), nearV ok r = .tuple #[.string x, .int .i64 n, .int .i64 k] := by
  unfold nearV
  split <;> exact ⟨_, _, _, rfl⟩

set_option maxHeartbeats 4000000 in
theorem impl_near (r : RV) (w : World) : Calls Tryd.prog 6 #[r.val] w fun e w' => e = .returned (nearV r.ok r) ∧ Below w.heap.size w w' := by
  unfold RV.val
  rcases hok : r.ok with _ | _
  · have Hok := Lib.hid hok
    clear hok
    go_enter Tryd.func6, Tryd.ntmps6
    go_wp2_with (go_at_call 11; refine (valid_rv r _).mono ?_; rintro e w1 ⟨rfl, hb1⟩; obtain ⟨hc1, hf1⟩ := bcell hb1; have hs1 := hb1.size; (try simp at hs1); (try have hz1 : w.heap.size < w1.heap.size := by omega); (try have hy1 : w.heap.size + 1 < w1.heap.size := by omega); (try have hx1 := fun o => hc1 w.heap.size o (by first | omega | (simp; done) | (simp; omega))); (try have hv1 := fun o => hc1 (w.heap.size + 1) o (by first | omega | (simp; done) | (simp; omega))); rw [Hok.out])
    go_ret3
    exact ⟨rfl, (by repeat (first | exact Below.refl _ _ | assumption | (refine Below.drew ?_) | (refine Below.setCell ?_ (by first | omega | (simp; done) | (simp; omega)) _) | (refine Below.alloc ?_ (by first | omega | (simp; done) | (simp; omega)) _) | (refine Below.trans ?_ (Below.mono (by assumption) (by first | omega | (simp; done) | (simp; omega))))))⟩
  · have Hok := Lib.hid hok
    clear hok
    have RA := Lib.hid (rv_new r w 26)
    have HB0 := Lib.hid ((Below.refl w.heap.size w).alloc (Nat.le_refl _) (.cells #[.int .i64 r.p, .int .i64 r.s, .bool r.st, .bool r.sk, .bool r.re, .bool r.fe, .bool r.ag, .int .i64 r.c, .int .i64 r.l] 26))
    go_enter Tryd.func6, Tryd.ntmps6
    go_wp2_with fail
    refine (valid_rv r _).mono ?_
    rintro e w1 ⟨rfl, hb1⟩
    rw [Hok.out]
    have RA1 := Lib.hid (RulesAt.below RA.out hb1)
    have HB1 := Lib.hid (HB0.out.trans (hb1.mono (by simp)))
    go_wp2_with fail
    refine (fields_any _).mono ?_
    rintro e w2 ⟨g, cap, r0, r1, r7, r8, rfl, hb2, hlt, -⟩
    have RA2 := Lib.hid (RulesAt.below RA1.out hb2)
    have HB2 := Lib.hid (HB1.out.trans (hb2.mono HB1.out.size))
    clear hb1 hb2 RA RA1
    go_wp2_with fail
    refine (impl_stdns _).mono ?_
    rintro e w3 ⟨rfl, hb3, hs3, hr3⟩
    have RA3 := Lib.hid (RulesAt.below RA2.out hb3)
    have HB3 := Lib.hid (HB2.out.trans (hb3.mono HB2.out.size))
    have HR := Lib.hid hr3
    clear hb3 RA2 hr3
    go_wp2_with fail
    go_loopw [21, 5, 6] (fun i v f wr => ∃ k : Nat, k ≤ 4 ∧ i = .int .i64 k ∧ v = .string (near r k).1 ∧ f = .int .i64 ((near r k).2 : Int) ∧ Below w3.heap.size w3 wr) (fun i _ _ _ => 4 - (intOf i).toNat)
    case atStart => exact ⟨0, by omega, rfl, rfl, rfl, Below.refl _ _⟩
    case round =>
      obtain ⟨k, hk, rfl, rfl, rfl, hbl⟩ := hrel
      have HW := Lib.hid hbl
      have hsz := hbl.size
      by_cases hl4 : k < 4
      · obtain ⟨⟨x, s⟩, hx⟩ : ∃ y, stds[k]? = some y := ⟨stds[k]'(by have : stds.length = 4 := rfl; omega), List.getElem?_eq_getElem _⟩
        obtain ⟨hstd, hsok, hname⟩ := std_is hx
        have HX := Lib.hid hx
        have HS := Lib.hid hstd
        have HSO := Lib.hid hsok
        have q1 : (k : Int) < 4 := by omega
        have c0 : wr.cell? ⟨w2.heap.size, k, none⟩ = some (.string x) := (HR.out.below hbl).2 k x hname
        have RW := Lib.hid (RulesAt.below RA3.out hbl)
        obtain ⟨fn, hfn⟩ : ∃ fn, (near r k).1 = fn := ⟨_, rfl⟩
        obtain ⟨fc, hfc⟩ : ∃ fc, (near r k).2 = fc := ⟨_, rfl⟩
        rw [hfn, hfc]
        have HFN := Lib.hid hfn
        have HFC := Lib.hid hfc
        clear hx hstd hsok hname hbl hfn hfc
        go_wp2_with fail
        refine (impl_std x _).mono ?_
        rintro e w4 ⟨rfl, hb4⟩
        rw [HS.out]
        unfold RV.val
        have R4 := RulesAt.below RW.out hb4
        have HW4 := Lib.hid (HW.out.trans (hb4.mono hsz))
        have hz4 := HW4.out.size
        have RS := rv_new s w4 26
        obtain ⟨hq0, d0, d1, d2, d3, d4, d5, d6, d7, d8⟩ := RulesAt.below R4 ((Below.refl w4.heap.size w4).alloc (Nat.le_refl _) (.cells #[.int .i64 s.p, .int .i64 s.s, .bool s.st, .bool s.sk, .bool s.re, .bool s.fe, .bool s.ag, .int .i64 s.c, .int .i64 s.l] 26))
        have hq1 := R4.1
        clear R4 RS
        go_wp2_with fail
        refine (impl_diff r s _).mono ?_
        rintro e w5 ⟨v, rfl, ho5, hb5⟩
        rw [Hok.out, HSO.out] at ho5 ⊢
        obtain ⟨a5, c5, rfl⟩ := own_form ho5
        obtain ⟨n, hn⟩ : ∃ n, (diffK r s 9).length = n := ⟨_, rfl⟩
        have HN := Lib.hid hn
        have e5 : (if (true && true) = true then diffK r s 9 else []).length = n := hn
        rw [e5]
        have HW5 := Lib.hid ((HW4.out.alloc hz4 (.cells #[.int .i64 s.p, .int .i64 s.s, .bool s.st, .bool s.sk, .bool s.re, .bool s.fe, .bool s.ag, .int .i64 s.c, .int .i64 s.l] 26)).trans (hb5.mono (by simp; omega)))
        clear d0 d1 d2 d3 d4 d5 d6 d7 d8 hn e5 ho5 hb5 hb4
        by_cases hlt : n < fc
        · have q2 : (n : Int) < (fc : Int) := by omega
          go_wp2_with fail
          go_roundw
          case rel =>
            have e := near_lt HX.out (r := r) (by rw [HN.out, HFC.out]; exact hlt)
            rw [HN.out] at e
            exact ⟨k + 1, by omega, by go_num, by rw [e], by rw [e], HW5.out⟩
          case measure => simp [intOf]; omega
        · have q2 : ¬ (n : Int) < (fc : Int) := by omega
          go_wp2_with fail
          go_roundw
          case rel =>
            have e := near_ge HX.out (r := r) (by rw [HN.out, HFC.out]; exact hlt)
            exact ⟨k + 1, by omega, by go_num, by rw [e, HFN.out], by rw [e, HFC.out], HW5.out⟩
          case measure => simp [intOf]; omega
      · obtain rfl : k = 4 := by omega
        go_wp2_with fail
        go_ret3
        exact ⟨rfl, HB3.out.trans (HW.out.mono HB3.out.size)⟩

set_option maxHeartbeats 4000000 in
theorem spec_near (r : RV) (w : World) : Calls Tryd.prog 4 #[r.val] w fun e w' => e = .returned (nearV r.ok r) ∧ Below w.heap.size w w' := by
  unfold RV.val
  have RA := Lib.hid (rv_new r w 26)
  have HB0 := Lib.hid ((Below.refl w.heap.size w).alloc (Nat.le_refl _) (.cells #[.int .i64 r.p, .int .i64 r.s, .bool r.st, .bool r.sk, .bool r.re, .bool r.fe, .bool r.ag, .int .i64 r.c, .int .i64 r.l] 26))
  rcases hok : r.ok with _ | _
  · have Hok := Lib.hid hok
    clear hok
    go_enter Tryd.func4, Tryd.ntmps4
    go_wp2_with fail
    refine (ok_rv r _ _ RA.out).mono ?_
    rintro e w1 ⟨rfl, rfl⟩
    rw [Hok.out]
    go_wp2_with fail
    go_ret3
    exact ⟨rfl, HB0.out⟩
  · have Hok := Lib.hid hok
    clear hok
    go_enter Tryd.func4, Tryd.ntmps4
    go_wp2_with fail
    refine (ok_rv r _ _ RA.out).mono ?_
    rintro e w1 ⟨rfl, rfl⟩
    rw [Hok.out]
    go_wp2_with fail
    refine (spec_stdns _).mono ?_
    rintro e w3 ⟨rfl, hb3, hs3, hr3⟩
    have RA3 := Lib.hid (RulesAt.below RA.out hb3)
    have HB3 := Lib.hid (HB0.out.trans (hb3.mono HB0.out.size))
    simp only [World.size_alloc] at hr3
    have hr3z := hr3.1
    have HR := Lib.hid hr3
    clear hb3 hr3
    go_wp2_with fail
    go_loopw [8, 6, 7] (fun i v f wr => ∃ k : Nat, k ≤ 4 ∧ i = .int .i64 k ∧ v = .string (near r k).1 ∧ f = .int .i64 (if k = 0 then 0 else ((near r k).2 : Int)) ∧ Below w3.heap.size w3 wr) (fun i _ _ _ => 4 - (intOf i).toNat)
    case atStart => exact ⟨0, by omega, rfl, rfl, rfl, Below.refl _ _⟩
    case round =>
      obtain ⟨k, hk, rfl, rfl, rfl, hbl⟩ := hrel
      have HW := Lib.hid hbl
      have hsz := hbl.size
      by_cases hl4 : k < 4
      · obtain ⟨⟨x, s⟩, hx⟩ : ∃ y, stds[k]? = some y := ⟨stds[k]'(by have : stds.length = 4 := rfl; omega), List.getElem?_eq_getElem _⟩
        obtain ⟨hstd, hsok, hname⟩ := std_is hx
        have HX := Lib.hid hx
        have HS := Lib.hid hstd
        have q1 : (k : Int) < 4 := by omega
        have c0 : wr.cell? ⟨w.heap.size + 1, k, none⟩ = some (.string x) := (HR.out.below hbl).2 k x hname
        have hcz : w.heap.size + 1 < w3.heap.size := hr3z
        have RW := Lib.hid (RulesAt.below RA3.out hbl)
        obtain ⟨fn, hfn⟩ : ∃ fn, (near r k).1 = fn := ⟨_, rfl⟩
        obtain ⟨fc, hfc⟩ : ∃ fc : Int, (if k = 0 then 0 else ((near r k).2 : Int)) = fc := ⟨_, rfl⟩
        rw [hfn, hfc]
        have HFN := Lib.hid hfn
        have HFC := Lib.hid hfc
        have HN0 := Lib.hid hname
        clear hx hstd hsok hname hbl hfn hfc
        go_wp2_with fail
        refine (spec_std x _).mono ?_
        rintro e w4 ⟨rfl, hb4⟩
        rw [HS.out]
        unfold RV.val
        have R4 := RulesAt.below RW.out hb4
        have HW4 := Lib.hid (HW.out.trans (hb4.mono hsz))
        have hz4 := HW4.out.size
        have RS := Lib.hid (rv_new s w4 26)
        have R5 := Lib.hid (RulesAt.below R4 ((Below.refl w4.heap.size w4).alloc (Nat.le_refl _) (.cells #[.int .i64 s.p, .int .i64 s.s, .bool s.st, .bool s.sk, .bool s.re, .bool s.fe, .bool s.ag, .int .i64 s.c, .int .i64 s.l] 26)))
        clear R4
        go_wp2_with fail
        refine (spec_l03diff r s _ _ _ R5.out RS.out).mono ?_
        rintro e w5 ⟨v, rfl, ho5, hb5⟩
        obtain ⟨a5, c5, rfl⟩ := own_form ho5
        obtain ⟨n, hn⟩ : ∃ n, (diffK r s 9).length = n := ⟨_, rfl⟩
        have HN := Lib.hid hn
        rw [hn]
        have HW5 := Lib.hid ((HW4.out.alloc hz4 (.cells #[.int .i64 s.p, .int .i64 s.s, .bool s.st, .bool s.sk, .bool s.re, .bool s.fe, .bool s.ag, .int .i64 s.c, .int .i64 s.l] 26)).trans (hb5.mono (by simp; omega)))
        have c1 : w5.cell? ⟨w.heap.size + 1, k, none⟩ = some (.string x) := (HR.out.below HW5.out).2 k x HN0.out
        have hle := diffK_len r s 9
        rw [hn] at hle
        clear hn ho5 hb5 hb4 c0
        by_cases h0 : k = 0
        · subst h0
          go_wp2_with fail
          go_roundw
          case rel =>
            have e := near_lt HX.out (r := r) (by rw [HN.out]; show n < 10; omega)
            rw [HN.out] at e
            exact ⟨0 + 1, by omega, by go_num, by rw [e], by rw [e]; rfl, HW5.out⟩
          case measure => simp [intOf]
        · have hfc2 : fc = ((near r k).2 : Int) := by rw [← HFC.out, if_neg h0]
          obtain ⟨m, hm⟩ : ∃ m, (near r k).2 = m := ⟨_, rfl⟩
          rw [hm] at hfc2
          have HM := Lib.hid hm
          subst hfc2
          have hk0 : ((k : Int) == 0) = false := by simp; omega
          clear hm
          by_cases hlt : n < m
          · have q2 : (n : Int) < (m : Int) := by omega
            go_wp2_with fail
            go_roundw
            case rel =>
              have e := near_lt HX.out (r := r) (by rw [HN.out, HM.out]; exact hlt)
              rw [HN.out] at e
              exact ⟨k + 1, by omega, by go_num, by rw [e], by rw [e, if_neg (by omega)], HW5.out⟩
            case measure => simp [intOf]; omega
          · have q2 : ¬ (n : Int) < (m : Int) := by omega
            go_wp2_with fail
            go_roundw
            case rel =>
              have e := near_ge HX.out (r := r) (by rw [HN.out, HM.out]; exact hlt)
              exact ⟨k + 1, by omega, by go_num, by rw [e, HFN.out], by rw [e, HM.out, if_neg (by omega)], HW5.out⟩
            case measure => simp [intOf]; omega
      · obtain rfl : k = 4 := by omega
        go_wp2_with fail
        go_ret3
        exact ⟨rfl, HB3.out.trans (HW.out.mono HB3.out.size)⟩

theorem laid_FnExactNearestGame {W : World} (h : laidMet Tryd.prog Rows.fnExactNearestGameRow.laid W) : True := trivial
theorem walk_FnExactNearestGame (r : RV) (_hr : r.Fit) (w : World) (_hL : True) : Calls Tryd.prog 3 #[r.val] w fun e w' => e = .returned (.bool true) ∧ Below w.heap.size w w' := by
  clear _hr
  obtain ⟨x, n, k, hab⟩ := nearV_form r.ok r
  have HE := Lib.hid hab
  clear hab
  unfold RV.val
  have HI : Hid (∀ w, Calls Tryd.prog 6 #[.agg #[.int .i64 r.p, .int .i64 r.s, .bool r.st, .bool r.sk, .bool r.re, .bool r.fe, .bool r.ag, .int .i64 r.c, .int .i64 r.l]] w fun e w' => e = .returned (nearV r.ok r) ∧ Below w.heap.size w w') := Lib.hid (impl_near r)
  have HS : Hid (∀ w, Calls Tryd.prog 4 #[.agg #[.int .i64 r.p, .int .i64 r.s, .bool r.st, .bool r.sk, .bool r.re, .bool r.fe, .bool r.ag, .int .i64 r.c, .int .i64 r.l]] w fun e w' => e = .returned (nearV r.ok r) ∧ Below w.heap.size w w') := Lib.hid (spec_near r)
  have RA := Lib.hid (rv_new r w 23)
  have HB0 := Lib.hid ((Below.refl w.heap.size w).alloc (Nat.le_refl _) (.cells #[.int .i64 r.p, .int .i64 r.s, .bool r.st, .bool r.sk, .bool r.re, .bool r.fe, .bool r.ag, .int .i64 r.c, .int .i64 r.l] 23))
  go_enter Tryd.func3, Tryd.ntmps3
  go_wp2_with fail
  refine (toRules_any r.p r.s r.c r.l r.st r.sk r.re r.fe r.ag _).mono ?_
  rintro e w1 ⟨rfl, hb1⟩
  have RA1 := RulesAt.below RA.out hb1
  have B1 := HB0.out.trans (hb1.mono (by simp))
  go_wp2_with fail
  refine (HS.out _).mono ?_
  rintro e w2 ⟨rfl, hb2⟩
  rw [HE.out]
  obtain ⟨hbk, d0, d1, d2, d3, d4, d5, d6, d7, d8⟩ := RulesAt.below RA1 hb2
  have B2 := B1.trans (hb2.mono B1.size)
  clear RA1
  go_wp2_with fail
  refine (toRules_any r.p r.s r.c r.l r.st r.sk r.re r.fe r.ag _).mono ?_
  rintro e w3 ⟨rfl, hb3⟩
  have B3 := B2.trans (hb3.mono B2.size)
  clear d0 d1 d2 d3 d4 d5 d6 d7 d8
  go_wp2_with fail
  refine (HI.out _).mono ?_
  rintro e w4 ⟨rfl, hb4⟩
  rw [HE.out]
  have B4 := B3.trans (hb4.mono B3.size)
  go_wp2_with fail
  go_ret
  exact ⟨rfl, B4⟩
namespace fnExactNearestGame
set_option maxRecDepth 100000 in
theorem lifted (os : Os) (started : os.Started) (H : Type) (enc : TypeId × Value → H) :
    ReturnsInHanded {} Tryd.checked os 3 .any (fun w args => (Rows.fnExactNearestGameSpec.pre enc Tryd.prog Tryd.f3 [] false w args ∧ laidMetH Tryd.prog Rows.fnExactNearestGameRow.laid w) ∧ sizedMet enc Tryd.prog Tryd.f3 (OpenSpec.ofChange Rows.fnExactNearestGameSpec) false w args) (Rows.fnExactNearestGameSpec.post enc Tryd.prog Tryd.f3 false true false false) := by
  refine returnsInHanded_of_change_and (C := Tryd.checked) (X := fun w _ => laidMetH Tryd.prog Rows.fnExactNearestGameRow.laid w) (fun _ _ _ hh h => h.of_heap hh) own started (by kernel_rfl) Tryd.func3
    (ChangeSpec.witness_shaped (enc := enc) (C := Tryd.checked) (os := os) (X := fun w _ => laidMetH Tryd.prog Rows.fnExactNearestGameRow.laid w) false (World.laidAll Tryd.prog os Rows.fnExactNearestGameRow.laid) #[.agg #[.int .i64 0, .int .i64 0, .bool false, .bool false, .bool false, .bool false, .bool false, .int .i64 0, .int .i64 0]] 8 (World.laidAll_os _ _ _)
      (World.shaped_of_ZipB (by kernel_rfl) (by kernel_rfl)) (by kernel_rfl) (by kernel_rfl) (by kernel_rfl)
      (by rw [MakeChecks.laidMetH_plain _ _ _ (by kernel_rfl)]; exact laidMet_laidAll _ (by kernel_rfl) (by kernel_rfl))) ?_
  intro W base args ds gs before hval0 hW _ _ hL0 _
  have hL : laidMet Tryd.prog Rows.fnExactNearestGameRow.laid W := by rw [← MakeChecks.laidMetH_plain _ _ _ (by kernel_rfl)]; exact hL0
  have hval : ∀ (j : Nat) t v, Tryd.f3.params[j]? = some t → args[j]? = some v → Value.okWide Tryd.prog W .any base t v := hval0
  have hW' := hW
  obtain ⟨p, q, hA0, hV, rfl, hfz, hnd⟩ := hW
  have hA : DataW.TrodAll enc Tryd.prog W 0 (fun _ => true) true Tryd.f3.params.toList args.toList ds p := hA0
  rw [Tryd.params3] at hA hval
  obtain ⟨v0, vs0, d0, ds0, p0, q0, hargs, rfl, rfl, h0, r0⟩ := trodAll_cons hA
  obtain ⟨rfl, rfl, rfl⟩ := trodAll_nil r0
  obtain rfl : args = #[v0] := by cases args; simp_all
  have hV1 := hV
  obtain ⟨g0, g1, rfl⟩ := vars_2 hV
  have k0 := h0
  have lt0 : ∀ x ∈ p0, x.block < W.heap.size := by obtain ⟨m, hm⟩ := k0; exact DataW.trod_lt m _ _ _ hm
  obtain ⟨x0, rfl, w0⟩ := open_rules Tryd.underlying23 Tryd.underlying2 Tryd.underlying4 (by kernel_rfl) (by kernel_rfl) (hval 0 23 v0 rfl rfl) h0
  clear hA0 hval0
  refine (walk_FnExactNearestGame x0 w0 (w := W) (laid_FnExactNearestGame hL)).mono fun e W' ⟨he, bel⟩ => ?_
  subst he
  exact ⟨_, rfl, _, _, _, [], _, _, hW', trodAll_mk1 (shut_bool Tryd.underlying4 _), (trodAll_cons_mk (Below.trod laidOut (by kernel_rfl) (of_decide_eq_true (by kernel_rfl)) k0 bel lt0) trodAll_mk0), Below.trodVars laidOut bel (by kernel_rfl) hV1, bel.frame _, fun h => by cases h⟩

theorem proved : Rows.FnExactNearestGameSaid :=
  OpenClaim.holds_of_wide 3 Tryd.f3 rfl rfl rfl rfl rfl rfl rfl ⟨rfl, rfl, rfl, rfl, rfl⟩ rfl rfl rfl rfl rfl (by kernel_rfl) Tryd.func3 (by kernel_rfl)
    (of_decide_eq_true (by kernel_rfl)) (by unfold Func.isWrapper; first | (rw [if_pos (by decide +kernel)]; kernel_rfl) | (rw [if_neg (by decide +kernel)]; exact ⟨rfl, rfl⟩))
    (fun os started H enc _ => lifted os started H enc)
theorem card_holds : Rows.FnExactNearestGameCardSaid :=
  Claim7.holds_tied_plain_at .later [] [.data, .data, .data, .sentinel, .sentinel, .sentinel, .sentinel] true (true, "82195409dcd5d4e1fdcf23062655b1ec69b6c85fdbb3207b2b1cce072031643d") true
    proved (fun _ h => by cases h) (by kernel_rfl) (fun _ h => by cases h) fnExactNearestGame_row_tie rfl ⟨rfl, rfl⟩ (by kernel_rfl) rfl
    (fun f fn hf hfn => by
      obtain rfl : f = 3 := Option.some.inj ((show Tryd.prog.funcNamed "loop.example/g00926/laws.FnExactNearestGame" = some 3 by kernel_rfl).symm.trans hf) |>.symm
      obtain rfl : fn = Tryd.f3 := (Option.some.inj (Tryd.func3.symm.trans hfn)).symm
      exact ⟨by kernel_rfl, fun j t ht => by
        rw [Tryd.params3] at ht
        have hm : t ∈ [23] := by simpa using Array.mem_of_getElem? ht
        have hall : ([23].all fun u => !Tryd.prog.wantsStandIn u) = true := by kernel_rfl
        exact (show Tryd.prog.wantsStandIn t = false by simpa using List.all_eq_true.1 hall t hm)⟩)
    (by kernel_rfl)
end fnExactNearestGame

end Go.Proofs.YtihbaehfgjkajabDoor
