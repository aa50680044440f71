/- FnPositionOrder: the order of positions is total: for every input. No conditions. -/
import Derived.Test.YtkpmocjghpeppaaA2Pos
import Derived.Test.YtkpmocjghpeppaaCmp4
import Derived.Test.YtkpmocjghpeppaaSame4
import Derived.Test.YtkpmocjghpeppaaLong
namespace Go.Proofs.Ytkpmocjghpeppaa
open Go.Joins Go.ChangeShapes Go.WideShapes Go.ChangeAt Go.RowKit Go.Deep
open Go.ChangeMaps (open_string shut_string)
set_option linter.unusedVariables false

theorem cmpL_neg : ∀ {a b : List Int}, cmpL b a = - cmpL a b
  | [], [] => rfl
  | [], _ :: _ => rfl
  | _ :: _, [] => rfl
  | x :: r, y :: t => by
    have ih := cmpL_neg (a := r) (b := t)
    unfold cmpL
    by_cases h1 : x < y
    · simp [h1, show ¬ y < x by omega]
    · by_cases h2 : y < x
      · simp [h1, h2]
      · simp [h1, h2, ih]
theorem cmpL_three : ∀ (a b : List Int), cmpL a b = -1 ∨ cmpL a b = 0 ∨ cmpL a b = 1
  | [], [] => .inr (.inl rfl)
  | [], _ :: _ => .inl rfl
  | _ :: _, [] => .inr (.inr rfl)
  | x :: r, y :: t => by
    have ih := cmpL_three r t
    unfold cmpL
    by_cases h1 : x < y
    · rw [if_pos h1]
      exact .inl rfl
    · by_cases h2 : y < x
      · rw [if_neg h1, if_pos h2]
        exact .inr (.inr rfl)
      · rw [if_neg h1, if_neg h2]
        exact ih
theorem cmpP_neg (xs us ys vs : List Int) (p q : Int) : cmpP us xs vs ys q p = - cmpP xs us ys vs p q := by
  unfold cmpP
  rw [cmpL_neg (a := xs) (b := us), cmpL_neg (a := ys) (b := vs), cmpL_neg (a := [p]) (b := [q])]
  unfold or3
  by_cases h1 : cmpL xs us = 0
  · by_cases h2 : cmpL ys vs = 0
    · simp [h1, h2]
    · simp [h1, h2]
  · simp [h1]
theorem cmpP_three (xs us ys vs : List Int) (p q : Int) : cmpP xs us ys vs p q = -1 ∨ cmpP xs us ys vs p q = 0 ∨ cmpP xs us ys vs p q = 1 := by
  unfold cmpP or3
  split
  · split
    · exact cmpL_three _ _
    · exact cmpL_three _ _
  · exact cmpL_three _ _
theorem cmpP_self (xs ys : List Int) (p : Int) : cmpP xs xs ys ys p p = 0 := by
  have h := cmpP_zero xs xs ys ys p p
  have e : sameB xs xs ys ys p p = true := by simp [sameB]
  rw [e] at h
  simpa using h

set_option maxHeartbeats 8000000 in
set_option maxRecDepth 100000 in
theorem walk_FnPositionOrder {w : World} (a1 : Option Addr) (l1 c1 : Nat) (hA : Bytes w a1 l1) (a2 : Option Addr) (l2 c2 : Nat) (hB : Bytes w a2 l2) :
    Calls Try.prog 5 #[.slice a1 l1 c1, .slice a2 l2 c2] w fun e w' => e = .returned (.bool true) ∧ Below w.heap.size w w' := by
  have hl1 := hA.1
  have hl2 := hB.1
  have HA := Lib.hid hA
  have HM := Lib.hid hB
  clear hA hB
  rcases hlong : (decide (3000 < l1) || decide (3000 < l2)) with _ | _
  rotate_left
  · have Hl := Lib.hid hlong
    clear hlong
    go_enter Try.func5, Try.ntmps5
    go_wp2_with fail
    refine (long_any _ _ _ _ _ _ true Hl.out hl1 hl2 _).mono ?_
    rintro e w' ⟨rfl, rfl⟩
    go_wp2_with fail
    go_ret
    exact ⟨rfl, Below.refl _ _⟩
  have Hl := Lib.hid hlong
  clear hlong
  go_enter Try.func5, Try.ntmps5
  go_wp2_with fail
  refine (long_any _ _ _ _ _ _ false Hl.out hl1 hl2 _).mono ?_
  rintro e w0 ⟨rfl, rfl⟩
  go_wp2_with fail
  refine (a2pos_any a1 l1 c1 _ HA.out).mono ?_
  rintro e w2 ⟨P, s, c, l, st, sk, re, fe, ag, g1, d1, g2, d2, pl, xs, y0, y1, -, -, rfl, ho, -, -, -, -, hb⟩
  have HX := Lib.hid ho.r
  have HB := Lib.hid (show OnW w w2 from hb)
  clear ho hb
  go_wp2_with fail
  have HP : Hid (PoAt ((w2.alloc (.cells #[.int .i64 P, .int .i64 s, .bool st, .bool sk, .bool re, .bool fe, .bool ag, .int .i64 c, .int .i64 l] 25)).alloc (.cells #[.slice (some ⟨g1, 0, none⟩) (2 * P) d1, .slice (some ⟨g2, 0, none⟩) 2 d2, .int .i64 pl] 39)) (w2.heap.size + 1) (some ⟨g1, 0, none⟩) (some ⟨g2, 0, none⟩) (2 * P) d1 2 d2 pl) := by
    have h := po_new (some ⟨g1, 0, none⟩) (some ⟨g2, 0, none⟩) (2 * P) d1 2 d2 pl (w2.alloc (.cells #[.int .i64 P, .int .i64 s, .bool st, .bool sk, .bool re, .bool fe, .bool ag, .int .i64 c, .int .i64 l] 25)) 39
    exact Lib.hid (by simpa using h)
  have HX := Lib.hid (HX.out.below (al2 _ (.cells #[.int .i64 P, .int .i64 s, .bool st, .bool sk, .bool re, .bool fe, .bool ag, .int .i64 c, .int .i64 l] 25) (.cells #[.slice (some ⟨g1, 0, none⟩) (2 * P) d1, .slice (some ⟨g2, 0, none⟩) 2 d2, .int .i64 pl] 39)))
  have HB := Lib.hid (HB.out.below (al2 _ (.cells #[.int .i64 P, .int .i64 s, .bool st, .bool sk, .bool re, .bool fe, .bool ag, .int .i64 c, .int .i64 l] 25) (.cells #[.slice (some ⟨g1, 0, none⟩) (2 * P) d1, .slice (some ⟨g2, 0, none⟩) 2 d2, .int .i64 pl] 39)))
  generalize hD : w2.heap.size + 1 = D at *
  generalize hD0 : w2.heap.size = D0 at *
  generalize hW : (w2.alloc (.cells #[.int .i64 P, .int .i64 s, .bool st, .bool sk, .bool re, .bool fe, .bool ag, .int .i64 c, .int .i64 l] 25)).alloc (.cells #[.slice (some ⟨g1, 0, none⟩) (2 * P) d1, .slice (some ⟨g2, 0, none⟩) 2 d2, .int .i64 pl] 39) = w3 at *
  clear hW hD hD0
  refine (a2pos_any a2 l2 c2 _ (HM.out.below HB.out)).mono ?_
  rintro e w4 ⟨P', s', c', l', st', sk', re', fe', ag', h1, f1, h2, f2, ql, us, v0, v1, -, -, rfl, ho, -, -, -, -, hb⟩
  (first | have HX := Lib.hid (HX.out.below hb) | have HX := Lib.hid (HX.out.drew.below hb) | have HX := Lib.hid ((HX.out.below (al1 _ _)).below hb) | have HX := Lib.hid ((HX.out.below (al1 _ _)).drew.below hb)); (first | have HB := Lib.hid (HB.out.below hb) | have HB := Lib.hid (HB.out.drew.below hb) | have HB := Lib.hid ((HB.out.below (al1 _ _)).below hb) | have HB := Lib.hid ((HB.out.below (al1 _ _)).drew.below hb)); (first | have HP := Lib.hid (HP.out.below hb) | have HP := Lib.hid (HP.out.drew.below hb) | have HP := Lib.hid ((HP.out.below (al1 _ _)).below hb) | have HP := Lib.hid ((HP.out.below (al1 _ _)).drew.below hb))
  have HY := Lib.hid ho.r
  clear ho hb
  obtain ⟨hdl, k0, k1, k2⟩ := HP.out
  go_wp2_with fail
  clear hdl k0 k1 k2
  have HQ : Hid (PoAt ((w4.alloc (.cells #[.int .i64 P', .int .i64 s', .bool st', .bool sk', .bool re', .bool fe', .bool ag', .int .i64 c', .int .i64 l'] 25)).alloc (.cells #[.slice (some ⟨h1, 0, none⟩) (2 * P') f1, .slice (some ⟨h2, 0, none⟩) 2 f2, .int .i64 ql] 39)) (w4.heap.size + 1) (some ⟨h1, 0, none⟩) (some ⟨h2, 0, none⟩) (2 * P') f1 2 f2 ql) := by
    have h := po_new (some ⟨h1, 0, none⟩) (some ⟨h2, 0, none⟩) (2 * P') f1 2 f2 ql (w4.alloc (.cells #[.int .i64 P', .int .i64 s', .bool st', .bool sk', .bool re', .bool fe', .bool ag', .int .i64 c', .int .i64 l'] 25)) 39
    exact Lib.hid (by simpa using h)
  have HX := Lib.hid (HX.out.below (al2 _ (.cells #[.int .i64 P', .int .i64 s', .bool st', .bool sk', .bool re', .bool fe', .bool ag', .int .i64 c', .int .i64 l'] 25) (.cells #[.slice (some ⟨h1, 0, none⟩) (2 * P') f1, .slice (some ⟨h2, 0, none⟩) 2 f2, .int .i64 ql] 39)))
  have HY := Lib.hid (HY.out.below (al2 _ (.cells #[.int .i64 P', .int .i64 s', .bool st', .bool sk', .bool re', .bool fe', .bool ag', .int .i64 c', .int .i64 l'] 25) (.cells #[.slice (some ⟨h1, 0, none⟩) (2 * P') f1, .slice (some ⟨h2, 0, none⟩) 2 f2, .int .i64 ql] 39)))
  have HB := Lib.hid (HB.out.below (al2 _ (.cells #[.int .i64 P', .int .i64 s', .bool st', .bool sk', .bool re', .bool fe', .bool ag', .int .i64 c', .int .i64 l'] 25) (.cells #[.slice (some ⟨h1, 0, none⟩) (2 * P') f1, .slice (some ⟨h2, 0, none⟩) 2 f2, .int .i64 ql] 39)))
  have HP := Lib.hid (HP.out.below (al2 _ (.cells #[.int .i64 P', .int .i64 s', .bool st', .bool sk', .bool re', .bool fe', .bool ag', .int .i64 c', .int .i64 l'] 25) (.cells #[.slice (some ⟨h1, 0, none⟩) (2 * P') f1, .slice (some ⟨h2, 0, none⟩) 2 f2, .int .i64 ql] 39)))
  generalize hD : w4.heap.size + 1 = E at *
  generalize hD0 : w4.heap.size = E0 at *
  generalize hW : (w4.alloc (.cells #[.int .i64 P', .int .i64 s', .bool st', .bool sk', .bool re', .bool fe', .bool ag', .int .i64 c', .int .i64 l'] 25)).alloc (.cells #[.slice (some ⟨h1, 0, none⟩) (2 * P') f1, .slice (some ⟨h2, 0, none⟩) 2 f2, .int .i64 ql] 39) = w5 at *
  clear hW hD hD0
  have n1 := cmpP_neg xs us [y0, y1] [v0, v1] pl ql
  have n2 := cmpP_zero xs us [y0, y1] [v0, v1] pl ql
  have N3 := Lib.hid (cmpP_self xs [y0, y1] pl)
  have n4 := cmpP_three xs us [y0, y1] [v0, v1] pl ql
  generalize hc : cmpP xs us [y0, y1] [v0, v1] pl ql = C at n1 n2 n4
  have HC := Lib.hid hc
  clear hc
  rcases n4 with rfl | rfl | rfl
  · have N1 : Hid (cmpP us xs [v0, v1] [y0, y1] ql pl = 1) := Lib.hid (n1.trans (by decide))
    have N2 : Hid (sameB xs us [y0, y1] [v0, v1] pl ql = false) := Lib.hid (n2.symm.trans (by decide))
    clear n1 n2
    refine (implCmp_any _ _ _ _ _ _ _ _ _ _ _ _ _ _ xs [y0, y1] us [v0, v1] _ HX.out HY.out).mono ?_
    rintro e w6 ⟨rfl, hb⟩
    rw [HC.out]
    (first | have HX := Lib.hid (HX.out.below hb) | have HX := Lib.hid (HX.out.drew.below hb) | have HX := Lib.hid ((HX.out.below (al1 _ _)).below hb) | have HX := Lib.hid ((HX.out.below (al1 _ _)).drew.below hb)); (first | have HY := Lib.hid (HY.out.below hb) | have HY := Lib.hid (HY.out.drew.below hb) | have HY := Lib.hid ((HY.out.below (al1 _ _)).below hb) | have HY := Lib.hid ((HY.out.below (al1 _ _)).drew.below hb)); (first | have HB := Lib.hid (HB.out.below hb) | have HB := Lib.hid (HB.out.drew.below hb) | have HB := Lib.hid ((HB.out.below (al1 _ _)).below hb) | have HB := Lib.hid ((HB.out.below (al1 _ _)).drew.below hb)); (first | have HP := Lib.hid (HP.out.below hb) | have HP := Lib.hid (HP.out.drew.below hb) | have HP := Lib.hid ((HP.out.below (al1 _ _)).below hb) | have HP := Lib.hid ((HP.out.below (al1 _ _)).drew.below hb)); (first | have HQ := Lib.hid (HQ.out.below hb) | have HQ := Lib.hid (HQ.out.drew.below hb) | have HQ := Lib.hid ((HQ.out.below (al1 _ _)).below hb) | have HQ := Lib.hid ((HQ.out.below (al1 _ _)).drew.below hb))
    clear hb
    obtain ⟨hdl, k0, k1, k2⟩ := HP.out
    obtain ⟨hel, q0, q1, q2⟩ := HQ.out
    go_wp2_with fail
    clear hdl k0 k1 k2 hel q0 q1 q2
    refine (implCmp_any _ _ _ _ _ _ _ _ _ _ _ _ _ _ us [v0, v1] xs [y0, y1] _ HY.out HX.out).mono ?_
    rintro e w7 ⟨rfl, hb⟩
    rw [N1.out]
    (first | have HX := Lib.hid (HX.out.below hb) | have HX := Lib.hid (HX.out.drew.below hb) | have HX := Lib.hid ((HX.out.below (al1 _ _)).below hb) | have HX := Lib.hid ((HX.out.below (al1 _ _)).drew.below hb)); (first | have HY := Lib.hid (HY.out.below hb) | have HY := Lib.hid (HY.out.drew.below hb) | have HY := Lib.hid ((HY.out.below (al1 _ _)).below hb) | have HY := Lib.hid ((HY.out.below (al1 _ _)).drew.below hb)); (first | have HB := Lib.hid (HB.out.below hb) | have HB := Lib.hid (HB.out.drew.below hb) | have HB := Lib.hid ((HB.out.below (al1 _ _)).below hb) | have HB := Lib.hid ((HB.out.below (al1 _ _)).drew.below hb)); (first | have HP := Lib.hid (HP.out.below hb) | have HP := Lib.hid (HP.out.drew.below hb) | have HP := Lib.hid ((HP.out.below (al1 _ _)).below hb) | have HP := Lib.hid ((HP.out.below (al1 _ _)).drew.below hb)); (first | have HQ := Lib.hid (HQ.out.below hb) | have HQ := Lib.hid (HQ.out.drew.below hb) | have HQ := Lib.hid ((HQ.out.below (al1 _ _)).below hb) | have HQ := Lib.hid ((HQ.out.below (al1 _ _)).drew.below hb))
    clear hb
    obtain ⟨hdl, k0, k1, k2⟩ := HP.out
    obtain ⟨hel, q0, q1, q2⟩ := HQ.out
    go_wp2_with fail
    clear hdl k0 k1 k2 hel q0 q1 q2
    refine (specSame_any _ _ _ _ _ _ _ _ _ _ _ _ _ _ xs [y0, y1] us [v0, v1] _ HX.out HY.out).mono ?_
    rintro e w8 ⟨rfl, hb⟩
    rw [N2.out]
    (first | have HX := Lib.hid (HX.out.below hb) | have HX := Lib.hid (HX.out.drew.below hb) | have HX := Lib.hid ((HX.out.below (al1 _ _)).below hb) | have HX := Lib.hid ((HX.out.below (al1 _ _)).drew.below hb)); (first | have HY := Lib.hid (HY.out.below hb) | have HY := Lib.hid (HY.out.drew.below hb) | have HY := Lib.hid ((HY.out.below (al1 _ _)).below hb) | have HY := Lib.hid ((HY.out.below (al1 _ _)).drew.below hb)); (first | have HB := Lib.hid (HB.out.below hb) | have HB := Lib.hid (HB.out.drew.below hb) | have HB := Lib.hid ((HB.out.below (al1 _ _)).below hb) | have HB := Lib.hid ((HB.out.below (al1 _ _)).drew.below hb)); (first | have HP := Lib.hid (HP.out.below hb) | have HP := Lib.hid (HP.out.drew.below hb) | have HP := Lib.hid ((HP.out.below (al1 _ _)).below hb) | have HP := Lib.hid ((HP.out.below (al1 _ _)).drew.below hb)); (first | have HQ := Lib.hid (HQ.out.below hb) | have HQ := Lib.hid (HQ.out.drew.below hb) | have HQ := Lib.hid ((HQ.out.below (al1 _ _)).below hb) | have HQ := Lib.hid ((HQ.out.below (al1 _ _)).drew.below hb))
    clear hb
    obtain ⟨hdl, k0, k1, k2⟩ := HP.out
    obtain ⟨hel, q0, q1, q2⟩ := HQ.out
    go_wp2_with fail
    clear hdl k0 k1 k2 hel q0 q1 q2
    refine (implCmp_any _ _ _ _ _ _ _ _ _ _ _ _ _ _ xs [y0, y1] xs [y0, y1] _ HX.out HX.out).mono ?_
    rintro e w9 ⟨rfl, hb⟩
    rw [N3.out]
    (first | have HB := Lib.hid (HB.out.below hb) | have HB := Lib.hid (HB.out.drew.below hb) | have HB := Lib.hid ((HB.out.below (al1 _ _)).below hb) | have HB := Lib.hid ((HB.out.below (al1 _ _)).drew.below hb))
    clear hb
    go_wp2_with fail
    go_ret
    exact ⟨rfl, HB.out⟩
  · have N1 : Hid (cmpP us xs [v0, v1] [y0, y1] ql pl = 0) := Lib.hid (n1.trans (by decide))
    have N2 : Hid (sameB xs us [y0, y1] [v0, v1] pl ql = true) := Lib.hid (n2.symm.trans (by decide))
    clear n1 n2
    refine (implCmp_any _ _ _ _ _ _ _ _ _ _ _ _ _ _ xs [y0, y1] us [v0, v1] _ HX.out HY.out).mono ?_
    rintro e w6 ⟨rfl, hb⟩
    rw [HC.out]
    (first | have HX := Lib.hid (HX.out.below hb) | have HX := Lib.hid (HX.out.drew.below hb) | have HX := Lib.hid ((HX.out.below (al1 _ _)).below hb) | have HX := Lib.hid ((HX.out.below (al1 _ _)).drew.below hb)); (first | have HY := Lib.hid (HY.out.below hb) | have HY := Lib.hid (HY.out.drew.below hb) | have HY := Lib.hid ((HY.out.below (al1 _ _)).below hb) | have HY := Lib.hid ((HY.out.below (al1 _ _)).drew.below hb)); (first | have HB := Lib.hid (HB.out.below hb) | have HB := Lib.hid (HB.out.drew.below hb) | have HB := Lib.hid ((HB.out.below (al1 _ _)).below hb) | have HB := Lib.hid ((HB.out.below (al1 _ _)).drew.below hb)); (first | have HP := Lib.hid (HP.out.below hb) | have HP := Lib.hid (HP.out.drew.below hb) | have HP := Lib.hid ((HP.out.below (al1 _ _)).below hb) | have HP := Lib.hid ((HP.out.below (al1 _ _)).drew.below hb)); (first | have HQ := Lib.hid (HQ.out.below hb) | have HQ := Lib.hid (HQ.out.drew.below hb) | have HQ := Lib.hid ((HQ.out.below (al1 _ _)).below hb) | have HQ := Lib.hid ((HQ.out.below (al1 _ _)).drew.below hb))
    clear hb
    obtain ⟨hdl, k0, k1, k2⟩ := HP.out
    obtain ⟨hel, q0, q1, q2⟩ := HQ.out
    go_wp2_with fail
    clear hdl k0 k1 k2 hel q0 q1 q2
    refine (implCmp_any _ _ _ _ _ _ _ _ _ _ _ _ _ _ us [v0, v1] xs [y0, y1] _ HY.out HX.out).mono ?_
    rintro e w7 ⟨rfl, hb⟩
    rw [N1.out]
    (first | have HX := Lib.hid (HX.out.below hb) | have HX := Lib.hid (HX.out.drew.below hb) | have HX := Lib.hid ((HX.out.below (al1 _ _)).below hb) | have HX := Lib.hid ((HX.out.below (al1 _ _)).drew.below hb)); (first | have HY := Lib.hid (HY.out.below hb) | have HY := Lib.hid (HY.out.drew.below hb) | have HY := Lib.hid ((HY.out.below (al1 _ _)).below hb) | have HY := Lib.hid ((HY.out.below (al1 _ _)).drew.below hb)); (first | have HB := Lib.hid (HB.out.below hb) | have HB := Lib.hid (HB.out.drew.below hb) | have HB := Lib.hid ((HB.out.below (al1 _ _)).below hb) | have HB := Lib.hid ((HB.out.below (al1 _ _)).drew.below hb)); (first | have HP := Lib.hid (HP.out.below hb) | have HP := Lib.hid (HP.out.drew.below hb) | have HP := Lib.hid ((HP.out.below (al1 _ _)).below hb) | have HP := Lib.hid ((HP.out.below (al1 _ _)).drew.below hb)); (first | have HQ := Lib.hid (HQ.out.below hb) | have HQ := Lib.hid (HQ.out.drew.below hb) | have HQ := Lib.hid ((HQ.out.below (al1 _ _)).below hb) | have HQ := Lib.hid ((HQ.out.below (al1 _ _)).drew.below hb))
    clear hb
    obtain ⟨hdl, k0, k1, k2⟩ := HP.out
    obtain ⟨hel, q0, q1, q2⟩ := HQ.out
    go_wp2_with fail
    clear hdl k0 k1 k2 hel q0 q1 q2
    refine (specSame_any _ _ _ _ _ _ _ _ _ _ _ _ _ _ xs [y0, y1] us [v0, v1] _ HX.out HY.out).mono ?_
    rintro e w8 ⟨rfl, hb⟩
    rw [N2.out]
    (first | have HX := Lib.hid (HX.out.below hb) | have HX := Lib.hid (HX.out.drew.below hb) | have HX := Lib.hid ((HX.out.below (al1 _ _)).below hb) | have HX := Lib.hid ((HX.out.below (al1 _ _)).drew.below hb)); (first | have HY := Lib.hid (HY.out.below hb) | have HY := Lib.hid (HY.out.drew.below hb) | have HY := Lib.hid ((HY.out.below (al1 _ _)).below hb) | have HY := Lib.hid ((HY.out.below (al1 _ _)).drew.below hb)); (first | have HB := Lib.hid (HB.out.below hb) | have HB := Lib.hid (HB.out.drew.below hb) | have HB := Lib.hid ((HB.out.below (al1 _ _)).below hb) | have HB := Lib.hid ((HB.out.below (al1 _ _)).drew.below hb)); (first | have HP := Lib.hid (HP.out.below hb) | have HP := Lib.hid (HP.out.drew.below hb) | have HP := Lib.hid ((HP.out.below (al1 _ _)).below hb) | have HP := Lib.hid ((HP.out.below (al1 _ _)).drew.below hb)); (first | have HQ := Lib.hid (HQ.out.below hb) | have HQ := Lib.hid (HQ.out.drew.below hb) | have HQ := Lib.hid ((HQ.out.below (al1 _ _)).below hb) | have HQ := Lib.hid ((HQ.out.below (al1 _ _)).drew.below hb))
    clear hb
    obtain ⟨hdl, k0, k1, k2⟩ := HP.out
    obtain ⟨hel, q0, q1, q2⟩ := HQ.out
    go_wp2_with fail
    clear hdl k0 k1 k2 hel q0 q1 q2
    refine (implCmp_any _ _ _ _ _ _ _ _ _ _ _ _ _ _ xs [y0, y1] xs [y0, y1] _ HX.out HX.out).mono ?_
    rintro e w9 ⟨rfl, hb⟩
    rw [N3.out]
    (first | have HB := Lib.hid (HB.out.below hb) | have HB := Lib.hid (HB.out.drew.below hb) | have HB := Lib.hid ((HB.out.below (al1 _ _)).below hb) | have HB := Lib.hid ((HB.out.below (al1 _ _)).drew.below hb))
    clear hb
    go_wp2_with fail
    go_ret
    exact ⟨rfl, HB.out⟩
  · have N1 : Hid (cmpP us xs [v0, v1] [y0, y1] ql pl = -1) := Lib.hid (n1.trans (by decide))
    have N2 : Hid (sameB xs us [y0, y1] [v0, v1] pl ql = false) := Lib.hid (n2.symm.trans (by decide))
    clear n1 n2
    refine (implCmp_any _ _ _ _ _ _ _ _ _ _ _ _ _ _ xs [y0, y1] us [v0, v1] _ HX.out HY.out).mono ?_
    rintro e w6 ⟨rfl, hb⟩
    rw [HC.out]
    (first | have HX := Lib.hid (HX.out.below hb) | have HX := Lib.hid (HX.out.drew.below hb) | have HX := Lib.hid ((HX.out.below (al1 _ _)).below hb) | have HX := Lib.hid ((HX.out.below (al1 _ _)).drew.below hb)); (first | have HY := Lib.hid (HY.out.below hb) | have HY := Lib.hid (HY.out.drew.below hb) | have HY := Lib.hid ((HY.out.below (al1 _ _)).below hb) | have HY := Lib.hid ((HY.out.below (al1 _ _)).drew.below hb)); (first | have HB := Lib.hid (HB.out.below hb) | have HB := Lib.hid (HB.out.drew.below hb) | have HB := Lib.hid ((HB.out.below (al1 _ _)).below hb) | have HB := Lib.hid ((HB.out.below (al1 _ _)).drew.below hb)); (first | have HP := Lib.hid (HP.out.below hb) | have HP := Lib.hid (HP.out.drew.below hb) | have HP := Lib.hid ((HP.out.below (al1 _ _)).below hb) | have HP := Lib.hid ((HP.out.below (al1 _ _)).drew.below hb)); (first | have HQ := Lib.hid (HQ.out.below hb) | have HQ := Lib.hid (HQ.out.drew.below hb) | have HQ := Lib.hid ((HQ.out.below (al1 _ _)).below hb) | have HQ := Lib.hid ((HQ.out.below (al1 _ _)).drew.below hb))
    clear hb
    obtain ⟨hdl, k0, k1, k2⟩ := HP.out
    obtain ⟨hel, q0, q1, q2⟩ := HQ.out
    go_wp2_with fail
    clear hdl k0 k1 k2 hel q0 q1 q2
    refine (implCmp_any _ _ _ _ _ _ _ _ _ _ _ _ _ _ us [v0, v1] xs [y0, y1] _ HY.out HX.out).mono ?_
    rintro e w7 ⟨rfl, hb⟩
    rw [N1.out]
    (first | have HX := Lib.hid (HX.out.below hb) | have HX := Lib.hid (HX.out.drew.below hb) | have HX := Lib.hid ((HX.out.below (al1 _ _)).below hb) | have HX := Lib.hid ((HX.out.below (al1 _ _)).drew.below hb)); (first | have HY := Lib.hid (HY.out.below hb) | have HY := Lib.hid (HY.out.drew.below hb) | have HY := Lib.hid ((HY.out.below (al1 _ _)).below hb) | have HY := Lib.hid ((HY.out.below (al1 _ _)).drew.below hb)); (first | have HB := Lib.hid (HB.out.below hb) | have HB := Lib.hid (HB.out.drew.below hb) | have HB := Lib.hid ((HB.out.below (al1 _ _)).below hb) | have HB := Lib.hid ((HB.out.below (al1 _ _)).drew.below hb)); (first | have HP := Lib.hid (HP.out.below hb) | have HP := Lib.hid (HP.out.drew.below hb) | have HP := Lib.hid ((HP.out.below (al1 _ _)).below hb) | have HP := Lib.hid ((HP.out.below (al1 _ _)).drew.below hb)); (first | have HQ := Lib.hid (HQ.out.below hb) | have HQ := Lib.hid (HQ.out.drew.below hb) | have HQ := Lib.hid ((HQ.out.below (al1 _ _)).below hb) | have HQ := Lib.hid ((HQ.out.below (al1 _ _)).drew.below hb))
    clear hb
    obtain ⟨hdl, k0, k1, k2⟩ := HP.out
    obtain ⟨hel, q0, q1, q2⟩ := HQ.out
    go_wp2_with fail
    clear hdl k0 k1 k2 hel q0 q1 q2
    refine (specSame_any _ _ _ _ _ _ _ _ _ _ _ _ _ _ xs [y0, y1] us [v0, v1] _ HX.out HY.out).mono ?_
    rintro e w8 ⟨rfl, hb⟩
    rw [N2.out]
    (first | have HX := Lib.hid (HX.out.below hb) | have HX := Lib.hid (HX.out.drew.below hb) | have HX := Lib.hid ((HX.out.below (al1 _ _)).below hb) | have HX := Lib.hid ((HX.out.below (al1 _ _)).drew.below hb)); (first | have HY := Lib.hid (HY.out.below hb) | have HY := Lib.hid (HY.out.drew.below hb) | have HY := Lib.hid ((HY.out.below (al1 _ _)).below hb) | have HY := Lib.hid ((HY.out.below (al1 _ _)).drew.below hb)); (first | have HB := Lib.hid (HB.out.below hb) | have HB := Lib.hid (HB.out.drew.below hb) | have HB := Lib.hid ((HB.out.below (al1 _ _)).below hb) | have HB := Lib.hid ((HB.out.below (al1 _ _)).drew.below hb)); (first | have HP := Lib.hid (HP.out.below hb) | have HP := Lib.hid (HP.out.drew.below hb) | have HP := Lib.hid ((HP.out.below (al1 _ _)).below hb) | have HP := Lib.hid ((HP.out.below (al1 _ _)).drew.below hb)); (first | have HQ := Lib.hid (HQ.out.below hb) | have HQ := Lib.hid (HQ.out.drew.below hb) | have HQ := Lib.hid ((HQ.out.below (al1 _ _)).below hb) | have HQ := Lib.hid ((HQ.out.below (al1 _ _)).drew.below hb))
    clear hb
    obtain ⟨hdl, k0, k1, k2⟩ := HP.out
    obtain ⟨hel, q0, q1, q2⟩ := HQ.out
    go_wp2_with fail
    clear hdl k0 k1 k2 hel q0 q1 q2
    refine (implCmp_any _ _ _ _ _ _ _ _ _ _ _ _ _ _ xs [y0, y1] xs [y0, y1] _ HX.out HX.out).mono ?_
    rintro e w9 ⟨rfl, hb⟩
    rw [N3.out]
    (first | have HB := Lib.hid (HB.out.below hb) | have HB := Lib.hid (HB.out.drew.below hb) | have HB := Lib.hid ((HB.out.below (al1 _ _)).below hb) | have HB := Lib.hid ((HB.out.below (al1 _ _)).drew.below hb))
    clear hb
    go_wp2_with fail
    go_ret
    exact ⟨rfl, HB.out⟩
namespace fnPositionOrder
set_option maxHeartbeats 2000000 in
set_option maxRecDepth 100000 in
theorem lifted (os : Os) (started : os.Started) (H : Type) (enc : TypeId × Value → H) :
    ReturnsInHanded {} Try.checked os 5 .any (Rows.fnPositionOrderSpec.pre6 enc Try.prog Try.f5 Rows.fnPositionOrderRow.domain false) (Rows.fnPositionOrderSpec.post enc Try.prog Try.f5 false true false false) := by
  refine returnsInHanded_of_change (C := Try.checked) own started (by kernel_rfl) Try.func5
    (ChangeSpec.witness6 (enc := enc) (C := Try.checked) false ⟨#[], #[.slice none 0 0, .slice none 0 0], []⟩ 8 (by kernel_rfl) (by kernel_rfl) (by kernel_rfl) (by kernel_rfl)) ?_
  intro W base args ds gs before hval0 hW hcnd _
  have hval : ∀ (j : Nat) t v, Try.f5.params[j]? = some t → args[j]? = some v → Value.okWide Try.prog W .any base t v := hval0
  have hW' := hW
  obtain ⟨p, q, hA0, hV, rfl, hfz, hnd⟩ := hW
  have hA : DataW.TrodAll enc Try.prog W 0 (fun _ => true) true Try.f5.params.toList args.toList ds p := hA0
  rw [Try.params5] at hA hval
  obtain ⟨v0, vs0, d0, ds0, p0, q0, hargs, rfl, rfl, h0, r0⟩ := trodAll_cons hA
  obtain ⟨v1, vs1, d1, ds1, p1, q1, rfl, rfl, rfl, h1, r1⟩ := trodAll_cons r0
  obtain ⟨rfl, rfl, rfl⟩ := trodAll_nil r1
  obtain rfl : args = #[v0, v1] := by cases args; simp_all
  obtain ⟨rfl, rfl⟩ := trodVars_none hV
  have k0 := h0
  have lt0 : ∀ x ∈ p0, x.block < W.heap.size := by obtain ⟨m, hm⟩ := k0; exact DataW.trod_lt m _ _ _ hm
  obtain ⟨a0, len0, cap0, rfl, w0⟩ := open_bytes Try.underlying22 Try.underlying5 (by kernel_rfl) (hval 0 22 v0 rfl rfl) h0
  have k1 := h1
  have lt1 : ∀ x ∈ p1, x.block < W.heap.size := by obtain ⟨m, hm⟩ := k1; exact DataW.trod_lt m _ _ _ hm
  obtain ⟨a1, len1, cap1, rfl, w1⟩ := open_bytes Try.underlying22 Try.underlying5 (by kernel_rfl) (hval 1 22 v1 rfl rfl) h1
  clear hA0 hval0
  refine (walk_FnPositionOrder a0 len0 cap0 w0 a1 len1 cap1 w1 (w := W)).mono fun e W' ⟨he, bel⟩ => ?_
  subst he
  exact ⟨_, rfl, _, _, _, [], _, [], hW', trodAll_mk1 (shut_bool Try.underlying4 _), (trodAll_cons_mk (Below.trod laidOut (by kernel_rfl) (of_decide_eq_true (by kernel_rfl)) k0 bel lt0) (trodAll_cons_mk (Below.trod laidOut (by kernel_rfl) (of_decide_eq_true (by kernel_rfl)) k1 bel lt1) trodAll_mk0)), rfl, bel.frame _, fun h => by cases h⟩

theorem proved : Rows.FnPositionOrderSaid :=
  OpenClaim.holds_of_wide 5 Try.f5 rfl rfl rfl rfl rfl rfl rfl ⟨rfl, rfl, rfl, rfl, rfl⟩ rfl rfl rfl rfl rfl (by kernel_rfl) Try.func5 (by kernel_rfl)
    (of_decide_eq_true (by kernel_rfl)) (by unfold Func.isWrapper; first | (rw [if_pos (by decide +kernel)]; kernel_rfl) | (rw [if_neg (by decide +kernel)]; exact ⟨rfl, rfl⟩))
    (fun os started H enc _ => lifted os started H enc)
end fnPositionOrder

end Go.Proofs.Ytkpmocjghpeppaa
