/- FieldOf of the reference and of the program return the same. No conditions. -/
import Derived.Test.YtihbaehfgjkajaaDoorValue
namespace Go.Proofs.YtihbaehfgjkajaaDoor
open Go.Joins Go.ChangeShapes Go.WideShapes Go.ChangeAt Go.RowKit Go.Deep
set_option linter.unusedVariables false

/-- What is returned for a field with an index. -/
def fieldV (xs : List Int) (i : Int) : Value := if i < 0 then .tuple #[.int .i64 0, .int .i64 3] else .tuple #[.int .i64 (xs.getD i.toNat 0), .int .i64 0]
theorem fieldV_neg {xs : List Int} {i : Int} (h : i < 0) : fieldV xs i = .tuple #[.int .i64 0, .int .i64 3] := if_pos h
theorem fieldV_at {xs : List Int} {i : Int} (n : Nat) (x : Int) (h : i = (n : Int)) (hx : xs[n]? = some x) : fieldV xs i = .tuple #[.int .i64 x, .int .i64 0] := by
  subst h
  rw [fieldV, if_neg (by omega), Int.toNat_natCast, List.getD_eq_getElem?_getD, hx]
  rfl
def fieldE (ok : Bool) (xs : List Int) (i : Int) : Value := if ok then fieldV xs i else .tuple #[.int .i64 0, .int .i64 1]
theorem fieldE_form (ok : Bool) (xs : List Int) (i : Int) : ∃ a b : Int, fieldE ok xs i = .tuple #[.int .i64 a, .int .i64 b] := by
  unfold fieldE fieldV
  split
  · split <;> exact ⟨_, _, rfl⟩
  · exact ⟨_, _, rfl⟩

set_option maxHeartbeats 8000000 in
theorem impl_fieldOf (p s c l : Int) (st sk re fe ag : Bool) (s' : ByteArray) (w : World) : Calls Tryd.prog 21 #[.agg #[.int .i64 p, .int .i64 s, .bool st, .bool sk, .bool re, .bool fe, .bool ag, .int .i64 c, .int .i64 l], .string s'] w fun e w' => e = .returned (fieldE (okR p s c l st ag) (valL p s c l st sk re fe ag) (idxL flds s' 0)) ∧ Below w.heap.size w w' := by
  rcases hok : okR p s c l st ag with _ | _
  · have Hok := Lib.hid hok
    clear hok
    go_enter Tryd.func21, Tryd.ntmps21
    go_wp2_with (go_at_call 41; refine (valid_any p s c l st sk re fe ag _).mono ?_; rintro e w1 ⟨rfl, hb1⟩; obtain ⟨hc1, hf1⟩ := bcell hb1; have hs1 := hb1.size; (try simp at hs1); (try have hz1 : w.heap.size < w1.heap.size := by omega); (try have hy1 : w.heap.size + 1 < w1.heap.size := by omega); (try have hx1 := fun o => hc1 w.heap.size o (by first | omega | (simp; done) | (simp; omega))); (try have hv1 := fun o => hc1 (w.heap.size + 1) o (by first | omega | (simp; done) | (simp; omega))); rw [Hok.out])
    go_ret2
    exact ⟨rfl, (by repeat (first | exact Below.refl _ _ | assumption | (refine Below.drew ?_) | (refine Below.setCell ?_ (by first | omega | (simp; done) | (simp; omega)) _) | (refine Below.alloc ?_ (by first | omega | (simp; done) | (simp; omega)) _) | (refine Below.trans ?_ (Below.mono (by assumption) (by first | omega | (simp; done) | (simp; omega))))))⟩
  · have Hok := Lib.hid hok
    obtain ⟨vl, hvl⟩ : ∃ vl, valL p s c l st sk re fe ag = vl := ⟨_, rfl⟩
    have HV := Lib.hid hvl
    have e1 : fieldE true (valL p s c l st sk re fe ag) (idxL flds s' 0) = fieldV vl (idxL flds s' 0) := by rw [hvl]; rfl
    rw [e1]
    clear hok hvl e1
    have RA := Lib.hid (rules_new p s c l st sk re fe ag w 25)
    go_enter Tryd.func21, Tryd.ntmps21
    go_wp2_with fail
    refine (valid_any p s c l st sk re fe ag _).mono ?_
    rintro e w0 ⟨rfl, hb0⟩
    rw [Hok.out]
    have HB0 := Lib.hid ((Below.refl w.heap.size w).alloc (Nat.le_refl _) (.cells #[.int .i64 p, .int .i64 s, .bool st, .bool sk, .bool re, .bool fe, .bool ag, .int .i64 c, .int .i64 l] 25))
    have RA0 := Lib.hid (RA.out.below hb0)
    have HB1 := Lib.hid (HB0.out.trans (hb0.mono (by simp)))
    go_wp2_with fail
    refine (fields_any _).mono ?_
    rintro e w1 ⟨g, cap, r0, r1, r7, r8, rfl, hb, hlt, ht⟩
    have RA1 := Lib.hid (RA0.out.below hb)
    have HB2 := Lib.hid (HB1.out.trans (hb.mono HB1.out.size))
    obtain ⟨ht, ⟨x0, y0, rfl, _⟩, ⟨x1, y1, rfl, _⟩, ⟨x7, y7, rfl, _⟩, ⟨x8, y8, rfl, _⟩⟩ := ht
    have HT := Lib.hid ht
    clear ht hb hb0
    go_wp2_with fail
    go_loopw [13] (fun k wr => ∃ n : Nat, n ≤ 9 ∧ k = .int .i64 n ∧ Below w1.heap.size w1 wr ∧ idxL (flds.drop n) s' n = idxL flds s' 0) (fun k _ => 9 - (intOf k).toNat)
    case atStart => exact ⟨0, by omega, rfl, Below.refl _ _, rfl⟩
    case round =>
      obtain ⟨n, hn, rfl, hbl, hix⟩ := hrel
      have HX := Lib.hid hix
      have HB := Lib.hid hbl
      have hsz := hbl.size
      have RW := RA1.out.below hbl
      clear hix hbl
      by_cases hl9 : n < 9
      · rcases (by omega : n = 0 ∨ n = 1 ∨ n = 2 ∨ n = 3 ∨ n = 4 ∨ n = 5 ∨ n = 6 ∨ n = 7 ∨ n = 8) with rfl | rfl | rfl | rfl | rfl | rfl | rfl | rfl | rfl
        · have c0 := (HT.out.below HB.out).2 0 _ rfl
          obtain ⟨x, hx⟩ : ∃ x, (⟨#[112, 105, 116, 115]⟩ : ByteArray) = x := ⟨_, rfl⟩
          have hxs : flds[0]? = some x := by rw [← hx]; rfl
          have HXS := Lib.hid hxs
          rw [hx] at c0
          clear hx hxs
          by_cases he : (x.toList == s'.toList) = true
          · obtain ⟨hbk, d0, d1, d2, d3, d4, d5, d6, d7, d8⟩ := RW
            go_wp2_with (first | (go_at_call 59; go_in) | (go_at_call 139; refine (value_0 _ _ _ _ p s c l st sk re fe ag _).mono ?_; rintro e w3 ⟨rfl, hb3⟩))
            go_ret2
            exact ⟨by rw [fieldV_at 0 (p) (by rw [← HX.out, idx_found HXS.out he]) (by rw [← HV.out]; rfl)]; rfl, HB2.out.trans ((HB.out.trans (hb3.mono hsz)).mono HB2.out.size)⟩
          · have he2 : (x.toList == s'.toList) = false := by simpa using he
            clear he RW
            go_wp2_with (first | (go_at_call 59; go_in))
            go_roundw
            case rel => exact ⟨0 + 1, by omega, by go_num, HB.out, by rw [← HX.out, idx_step HXS.out he2]⟩
            case measure => simp [intOf]
        · have c0 := (HT.out.below HB.out).2 1 _ rfl
          obtain ⟨x, hx⟩ : ∃ x, (⟨#[115, 101, 101, 100, 115]⟩ : ByteArray) = x := ⟨_, rfl⟩
          have hxs : flds[1]? = some x := by rw [← hx]; rfl
          have HXS := Lib.hid hxs
          rw [hx] at c0
          clear hx hxs
          by_cases he : (x.toList == s'.toList) = true
          · obtain ⟨hbk, d0, d1, d2, d3, d4, d5, d6, d7, d8⟩ := RW
            go_wp2_with (first | (go_at_call 59; go_in) | (go_at_call 139; refine (value_1 _ _ _ _ p s c l st sk re fe ag _).mono ?_; rintro e w3 ⟨rfl, hb3⟩))
            go_ret2
            exact ⟨by rw [fieldV_at 1 (s) (by rw [← HX.out, idx_found HXS.out he]) (by rw [← HV.out]; rfl)]; rfl, HB2.out.trans ((HB.out.trans (hb3.mono hsz)).mono HB2.out.size)⟩
          · have he2 : (x.toList == s'.toList) = false := by simpa using he
            clear he RW
            go_wp2_with (first | (go_at_call 59; go_in))
            go_roundw
            case rel => exact ⟨1 + 1, by omega, by go_num, HB.out, by rw [← HX.out, idx_step HXS.out he2]⟩
            case measure => simp [intOf]
        · have c0 := (HT.out.below HB.out).2 2 _ rfl
          obtain ⟨x, hx⟩ : ∃ x, (⟨#[115, 116, 111, 114, 101, 115]⟩ : ByteArray) = x := ⟨_, rfl⟩
          have hxs : flds[2]? = some x := by rw [← hx]; rfl
          have HXS := Lib.hid hxs
          rw [hx] at c0
          clear hx hxs
          by_cases he : (x.toList == s'.toList) = true
          · obtain ⟨hbk, d0, d1, d2, d3, d4, d5, d6, d7, d8⟩ := RW
            go_wp2_with (first | (go_at_call 59; go_in) | (go_at_call 58; refine (value_2 _ p s c l st sk re fe ag _).mono ?_; rintro e w3 ⟨rfl, hb3⟩))
            go_ret2
            exact ⟨by rw [fieldV_at 2 (bit st) (by rw [← HX.out, idx_found HXS.out he]) (by rw [← HV.out]; rfl)]; rfl, HB2.out.trans ((HB.out.trans (hb3.mono hsz)).mono HB2.out.size)⟩
          · have he2 : (x.toList == s'.toList) = false := by simpa using he
            clear he RW
            go_wp2_with (first | (go_at_call 59; go_in))
            go_roundw
            case rel => exact ⟨2 + 1, by omega, by go_num, HB.out, by rw [← HX.out, idx_step HXS.out he2]⟩
            case measure => simp [intOf]
        · have c0 := (HT.out.below HB.out).2 3 _ rfl
          obtain ⟨x, hx⟩ : ∃ x, (⟨#[115, 107, 105, 112]⟩ : ByteArray) = x := ⟨_, rfl⟩
          have hxs : flds[3]? = some x := by rw [← hx]; rfl
          have HXS := Lib.hid hxs
          rw [hx] at c0
          clear hx hxs
          by_cases he : (x.toList == s'.toList) = true
          · obtain ⟨hbk, d0, d1, d2, d3, d4, d5, d6, d7, d8⟩ := RW
            go_wp2_with (first | (go_at_call 59; go_in) | (go_at_call 58; refine (value_3 _ p s c l st sk re fe ag _).mono ?_; rintro e w3 ⟨rfl, hb3⟩))
            go_ret2
            exact ⟨by rw [fieldV_at 3 (bit sk) (by rw [← HX.out, idx_found HXS.out he]) (by rw [← HV.out]; rfl)]; rfl, HB2.out.trans ((HB.out.trans (hb3.mono hsz)).mono HB2.out.size)⟩
          · have he2 : (x.toList == s'.toList) = false := by simpa using he
            clear he RW
            go_wp2_with (first | (go_at_call 59; go_in))
            go_roundw
            case rel => exact ⟨3 + 1, by omega, by go_num, HB.out, by rw [← HX.out, idx_step HXS.out he2]⟩
            case measure => simp [intOf]
        · have c0 := (HT.out.below HB.out).2 4 _ rfl
          obtain ⟨x, hx⟩ : ∃ x, (⟨#[114, 101, 108, 97, 121]⟩ : ByteArray) = x := ⟨_, rfl⟩
          have hxs : flds[4]? = some x := by rw [← hx]; rfl
          have HXS := Lib.hid hxs
          rw [hx] at c0
          clear hx hxs
          by_cases he : (x.toList == s'.toList) = true
          · obtain ⟨hbk, d0, d1, d2, d3, d4, d5, d6, d7, d8⟩ := RW
            go_wp2_with (first | (go_at_call 59; go_in) | (go_at_call 58; refine (value_4 _ p s c l st sk re fe ag _).mono ?_; rintro e w3 ⟨rfl, hb3⟩))
            go_ret2
            exact ⟨by rw [fieldV_at 4 (bit re) (by rw [← HX.out, idx_found HXS.out he]) (by rw [← HV.out]; rfl)]; rfl, HB2.out.trans ((HB.out.trans (hb3.mono hsz)).mono HB2.out.size)⟩
          · have he2 : (x.toList == s'.toList) = false := by simpa using he
            clear he RW
            go_wp2_with (first | (go_at_call 59; go_in))
            go_roundw
            case rel => exact ⟨4 + 1, by omega, by go_num, HB.out, by rw [← HX.out, idx_step HXS.out he2]⟩
            case measure => simp [intOf]
        · have c0 := (HT.out.below HB.out).2 5 _ rfl
          obtain ⟨x, hx⟩ : ∃ x, (⟨#[102, 101, 101, 100]⟩ : ByteArray) = x := ⟨_, rfl⟩
          have hxs : flds[5]? = some x := by rw [← hx]; rfl
          have HXS := Lib.hid hxs
          rw [hx] at c0
          clear hx hxs
          by_cases he : (x.toList == s'.toList) = true
          · obtain ⟨hbk, d0, d1, d2, d3, d4, d5, d6, d7, d8⟩ := RW
            go_wp2_with (first | (go_at_call 59; go_in) | (go_at_call 58; refine (value_5 _ p s c l st sk re fe ag _).mono ?_; rintro e w3 ⟨rfl, hb3⟩))
            go_ret2
            exact ⟨by rw [fieldV_at 5 (bit fe) (by rw [← HX.out, idx_found HXS.out he]) (by rw [← HV.out]; rfl)]; rfl, HB2.out.trans ((HB.out.trans (hb3.mono hsz)).mono HB2.out.size)⟩
          · have he2 : (x.toList == s'.toList) = false := by simpa using he
            clear he RW
            go_wp2_with (first | (go_at_call 59; go_in))
            go_roundw
            case rel => exact ⟨5 + 1, by omega, by go_num, HB.out, by rw [← HX.out, idx_step HXS.out he2]⟩
            case measure => simp [intOf]
        · have c0 := (HT.out.below HB.out).2 6 _ rfl
          obtain ⟨x, hx⟩ : ∃ x, (⟨#[97, 103, 97, 105, 110]⟩ : ByteArray) = x := ⟨_, rfl⟩
          have hxs : flds[6]? = some x := by rw [← hx]; rfl
          have HXS := Lib.hid hxs
          rw [hx] at c0
          clear hx hxs
          by_cases he : (x.toList == s'.toList) = true
          · obtain ⟨hbk, d0, d1, d2, d3, d4, d5, d6, d7, d8⟩ := RW
            go_wp2_with (first | (go_at_call 59; go_in) | (go_at_call 58; refine (value_6 _ p s c l st sk re fe ag _).mono ?_; rintro e w3 ⟨rfl, hb3⟩))
            go_ret2
            exact ⟨by rw [fieldV_at 6 (bit ag) (by rw [← HX.out, idx_found HXS.out he]) (by rw [← HV.out]; rfl)]; rfl, HB2.out.trans ((HB.out.trans (hb3.mono hsz)).mono HB2.out.size)⟩
          · have he2 : (x.toList == s'.toList) = false := by simpa using he
            clear he RW
            go_wp2_with (first | (go_at_call 59; go_in))
            go_roundw
            case rel => exact ⟨6 + 1, by omega, by go_num, HB.out, by rw [← HX.out, idx_step HXS.out he2]⟩
            case measure => simp [intOf]
        · have c0 := (HT.out.below HB.out).2 7 _ rfl
          obtain ⟨x, hx⟩ : ∃ x, (⟨#[99, 97, 112, 116, 117, 114, 101]⟩ : ByteArray) = x := ⟨_, rfl⟩
          have hxs : flds[7]? = some x := by rw [← hx]; rfl
          have HXS := Lib.hid hxs
          rw [hx] at c0
          clear hx hxs
          by_cases he : (x.toList == s'.toList) = true
          · obtain ⟨hbk, d0, d1, d2, d3, d4, d5, d6, d7, d8⟩ := RW
            go_wp2_with (first | (go_at_call 59; go_in) | (go_at_call 139; refine (value_7 _ _ _ _ p s c l st sk re fe ag _).mono ?_; rintro e w3 ⟨rfl, hb3⟩))
            go_ret2
            exact ⟨by rw [fieldV_at 7 (c) (by rw [← HX.out, idx_found HXS.out he]) (by rw [← HV.out]; rfl)]; rfl, HB2.out.trans ((HB.out.trans (hb3.mono hsz)).mono HB2.out.size)⟩
          · have he2 : (x.toList == s'.toList) = false := by simpa using he
            clear he RW
            go_wp2_with (first | (go_at_call 59; go_in))
            go_roundw
            case rel => exact ⟨7 + 1, by omega, by go_num, HB.out, by rw [← HX.out, idx_step HXS.out he2]⟩
            case measure => simp [intOf]
        · have c0 := (HT.out.below HB.out).2 8 _ rfl
          obtain ⟨x, hx⟩ : ∃ x, (⟨#[115, 108, 97, 109]⟩ : ByteArray) = x := ⟨_, rfl⟩
          have hxs : flds[8]? = some x := by rw [← hx]; rfl
          have HXS := Lib.hid hxs
          rw [hx] at c0
          clear hx hxs
          by_cases he : (x.toList == s'.toList) = true
          · obtain ⟨hbk, d0, d1, d2, d3, d4, d5, d6, d7, d8⟩ := RW
            go_wp2_with (first | (go_at_call 59; go_in) | (go_at_call 139; refine (value_8 _ _ _ _ p s c l st sk re fe ag _).mono ?_; rintro e w3 ⟨rfl, hb3⟩))
            go_ret2
            exact ⟨by rw [fieldV_at 8 (l) (by rw [← HX.out, idx_found HXS.out he]) (by rw [← HV.out]; rfl)]; rfl, HB2.out.trans ((HB.out.trans (hb3.mono hsz)).mono HB2.out.size)⟩
          · have he2 : (x.toList == s'.toList) = false := by simpa using he
            clear he RW
            go_wp2_with (first | (go_at_call 59; go_in))
            go_roundw
            case rel => exact ⟨8 + 1, by omega, by go_num, HB.out, by rw [← HX.out, idx_step HXS.out he2]⟩
            case measure => simp [intOf]
      · obtain rfl : n = 9 := by omega
        clear RW
        go_wp2_with fail
        go_ret2
        exact ⟨by rw [fieldV_neg (by rw [← HX.out, idx_none (by decide)]; decide)]; rfl, HB2.out.trans (HB.out.mono HB2.out.size)⟩

end Go.Proofs.YtihbaehfgjkajaaDoor
