/- The laws on LegalMoves and CanMove. No conditions. -/
import Derived.Test.YtdhkfkfoibddnaaWc4
import Derived.Test.YtdhkfkfoibddnaaWc1
namespace Go.Proofs.Ytdhkfkfoibddnaa
open Go.Joins Go.ChangeShapes Go.WideShapes Go.ChangeAt Go.RowKit Go.Deep
set_option linter.unusedVariables false

set_option maxHeartbeats 4000000 in
set_option maxRecDepth 100000 in
theorem walk0_FnExactCanMove (p s c l : Int) (st sk re fe ag : Bool) (p1 p2 : Option Addr) (pn1 pc1 pn2 pc2 : Nat) (pp : Int) (xs ys : List Int) (w : World) (h : PosW w p1 p2 pn1 pn2 xs ys) :
    Calls Try.prog 4 #[.agg #[.int .i64 p, .int .i64 s, .bool st, .bool sk, .bool re, .bool fe, .bool ag, .int .i64 c, .int .i64 l], .agg #[.slice p1 pn1 pc1, .slice p2 pn2 pc2, .int .i64 pp]] w fun e w' => e = .returned (.bool true) ∧ Below w.heap.size w w' := by
  have hb1 := h.m1
  have hb2 := h.m2
  have HW := Lib.hid h
  have HS := Lib.hid (rp_new p s c l st sk re fe ag p1 p2 pn1 pc1 pn2 pc2 pp w 23 26)
  clear h
  generalize hk : okP (okR p s c l st ag) p pn1 pn2 pp xs ys = k
  have Hk := Lib.hid hk
  clear hk
  by_cases hsz : (pn1 : Int) + pn2 ≤ 1048576
  · have H := Lib.hid (HW.out.toR hsz)
    have e1 := szV_yes hsz
    have E1 := Lib.hid e1
    clear e1
    go_enter Try.func4, Try.ntmps4
    go_wp2_with fail
    refine (szP_any p1 p2 pn1 pc1 pn2 pc2 pp 1048576 (by omega) (by omega) hb1 hb2 _).mono ?_
    rintro e w1 ⟨rfl, b1⟩
    rw [E1.out]
    have q0 : 0 ≤ 1048576 - (pn1 : Int) - pn2 := by omega
    have HS := Lib.hid (HS.out.below b1)
    clear b1
    go_wp2_with fail
    go_region_held3 (fun u => (w.heap.size < u.heap.size ∧ u.cell? ⟨w.heap.size, 0, none⟩ = some (.int .i64 p) ∧ u.cell? ⟨w.heap.size, 1, none⟩ = some (.int .i64 s) ∧ u.cell? ⟨w.heap.size, 2, none⟩ = some (.bool st) ∧ u.cell? ⟨w.heap.size, 3, none⟩ = some (.bool sk) ∧ u.cell? ⟨w.heap.size, 4, none⟩ = some (.bool re) ∧ u.cell? ⟨w.heap.size, 5, none⟩ = some (.bool fe) ∧ u.cell? ⟨w.heap.size, 6, none⟩ = some (.bool ag) ∧ u.cell? ⟨w.heap.size, 7, none⟩ = some (.int .i64 c) ∧ u.cell? ⟨w.heap.size, 8, none⟩ = some (.int .i64 l)) ∧ (w.heap.size + 1 < u.heap.size ∧ u.cell? ⟨w.heap.size + 1, 0, none⟩ = some (.slice p1 pn1 pc1) ∧ u.cell? ⟨w.heap.size + 1, 1, none⟩ = some (.slice p2 pn2 pc2) ∧ u.cell? ⟨w.heap.size + 1, 2, none⟩ = some (.int .i64 pp)) ∧ Below w.heap.size w u) (first | exact HS.out | exact HS.out.drew)
      (first
      | (go_at_call 14; refine (toRules_any p s c l st sk re fe ag _).mono ?_; rintro e w5 ⟨rfl, hb5⟩; have HS := Lib.hid (by first | exact HS.out.below hb5 | exact HS.out.drew.below hb5 : RpAt w p s c l st sk re fe ag p1 p2 pn1 pc1 pn2 pc2 pp w5))
      | (go_at_call 15; refine (toPos_any p1 p2 pn1 pc1 pn2 pc2 pp xs ys _ (H.out.below (by first | exact HS.out.2.2 | exact HS.out.drew.2.2))).mono ?_; rintro e w5 ⟨g1, g2, rfl, o5, l51, l52, hb5⟩; have O5 := Lib.hid o5.r; have HS := Lib.hid (by first | exact HS.out.below hb5 | exact HS.out.drew.below hb5 : RpAt w p s c l st sk re fe ag p1 p2 pn1 pc1 pn2 pc2 pp w5); clear o5)
      | (go_at_call 18; refine (specCan_any p s c l st sk re fe ag _ _ _ _ _ _ _ xs ys _ O5.out k Hk.out).mono ?_; rintro e w5 ⟨rfl, hb5⟩; have HS := Lib.hid (by first | exact HS.out.below hb5 | exact HS.out.drew.below hb5 : RpAt w p s c l st sk re fe ag p1 p2 pn1 pc1 pn2 pc2 pp w5)))
    obtain ⟨_, ⟨hd1, g0, g1, g2⟩, hbw⟩ := HS.out
    clear O5 hbw
    go_wp2_with fail
    refine (toPos_any p1 p2 pn1 pc1 pn2 pc2 pp xs ys _ (H.out.below HS.out.2.2)).mono ?_
    rintro e w6 ⟨x1, x2, rfl, o6, l61, l62, hb6⟩
    have O6 := Lib.hid o6.r
    have HS6 := Lib.hid (HS.out.below hb6)
    clear hd1 g0 g1 g2 o6 hb6
    go_wp2_with fail
    have HX := Lib.hid (rpx_new p s c l st sk re fe ag p1 p2 pn1 pc1 pn2 pc2 pp xs ys (some ⟨x1, 0, none⟩) (some ⟨x2, 0, none⟩) pn1 pn1 pn2 pn2 pp 32 HS6.out O6.out)
    generalize hD : w6.heap.size = D at *
    generalize hW : w6.alloc (.cells #[.slice (some ⟨x1, 0, none⟩) pn1 pn1, .slice (some ⟨x2, 0, none⟩) pn2 pn2, .int .i64 pp] 32) = w7 at *
    clear hW hD O6 HS6
    go_region_held3 (fun u => (w.heap.size < u.heap.size ∧ u.cell? ⟨w.heap.size, 0, none⟩ = some (.int .i64 p) ∧ u.cell? ⟨w.heap.size, 1, none⟩ = some (.int .i64 s) ∧ u.cell? ⟨w.heap.size, 2, none⟩ = some (.bool st) ∧ u.cell? ⟨w.heap.size, 3, none⟩ = some (.bool sk) ∧ u.cell? ⟨w.heap.size, 4, none⟩ = some (.bool re) ∧ u.cell? ⟨w.heap.size, 5, none⟩ = some (.bool fe) ∧ u.cell? ⟨w.heap.size, 6, none⟩ = some (.bool ag) ∧ u.cell? ⟨w.heap.size, 7, none⟩ = some (.int .i64 c) ∧ u.cell? ⟨w.heap.size, 8, none⟩ = some (.int .i64 l)) ∧ (w.heap.size + 1 < u.heap.size ∧ u.cell? ⟨w.heap.size + 1, 0, none⟩ = some (.slice p1 pn1 pc1) ∧ u.cell? ⟨w.heap.size + 1, 1, none⟩ = some (.slice p2 pn2 pc2) ∧ u.cell? ⟨w.heap.size + 1, 2, none⟩ = some (.int .i64 pp)) ∧ (D < u.heap.size ∧ u.cell? ⟨D, 0, none⟩ = some (.slice (some ⟨x1, 0, none⟩) pn1 pn1) ∧ u.cell? ⟨D, 1, none⟩ = some (.slice (some ⟨x2, 0, none⟩) pn2 pn2) ∧ u.cell? ⟨D, 2, none⟩ = some (.int .i64 pp)) ∧ PosR u (some ⟨x1, 0, none⟩) (some ⟨x2, 0, none⟩) pn1 pn2 xs ys ∧ Below w.heap.size w u) (first | exact HX.out | exact HX.out.drew)
      (first
      | (go_at_call 14; refine (toRules_any p s c l st sk re fe ag _).mono ?_; rintro e w5 ⟨rfl, hb5⟩; have HX := Lib.hid (by first | exact HX.out.below hb5 | exact HX.out.drew.below hb5 : RpxAt w p s c l st sk re fe ag p1 p2 pn1 pc1 pn2 pc2 pp xs ys D (some ⟨x1, 0, none⟩) (some ⟨x2, 0, none⟩) pn1 pn1 pn2 pn2 pp w5))
      | (go_at_call 19; refine (implCan_any p s c l st sk re fe ag _ _ _ _ _ _ _ xs ys _ (by first | exact HX.out.2.2.2.1 | exact HX.out.drew.2.2.2.1) (Nat.le_refl _) k Hk.out).mono ?_; rintro e w5 ⟨rfl, hb5⟩; have HX := Lib.hid (by first | exact HX.out.below hb5 | exact HX.out.drew.below hb5 : RpxAt w p s c l st sk re fe ag p1 p2 pn1 pc1 pn2 pc2 pp xs ys D (some ⟨x1, 0, none⟩) (some ⟨x2, 0, none⟩) pn1 pn1 pn2 pn2 pp w5)))
    go_wp2_with fail
    go_region_held3 (fun u => (w.heap.size < u.heap.size ∧ u.cell? ⟨w.heap.size, 0, none⟩ = some (.int .i64 p) ∧ u.cell? ⟨w.heap.size, 1, none⟩ = some (.int .i64 s) ∧ u.cell? ⟨w.heap.size, 2, none⟩ = some (.bool st) ∧ u.cell? ⟨w.heap.size, 3, none⟩ = some (.bool sk) ∧ u.cell? ⟨w.heap.size, 4, none⟩ = some (.bool re) ∧ u.cell? ⟨w.heap.size, 5, none⟩ = some (.bool fe) ∧ u.cell? ⟨w.heap.size, 6, none⟩ = some (.bool ag) ∧ u.cell? ⟨w.heap.size, 7, none⟩ = some (.int .i64 c) ∧ u.cell? ⟨w.heap.size, 8, none⟩ = some (.int .i64 l)) ∧ (w.heap.size + 1 < u.heap.size ∧ u.cell? ⟨w.heap.size + 1, 0, none⟩ = some (.slice p1 pn1 pc1) ∧ u.cell? ⟨w.heap.size + 1, 1, none⟩ = some (.slice p2 pn2 pc2) ∧ u.cell? ⟨w.heap.size + 1, 2, none⟩ = some (.int .i64 pp)) ∧ (D < u.heap.size ∧ u.cell? ⟨D, 0, none⟩ = some (.slice (some ⟨x1, 0, none⟩) pn1 pn1) ∧ u.cell? ⟨D, 1, none⟩ = some (.slice (some ⟨x2, 0, none⟩) pn2 pn2) ∧ u.cell? ⟨D, 2, none⟩ = some (.int .i64 pp)) ∧ PosR u (some ⟨x1, 0, none⟩) (some ⟨x2, 0, none⟩) pn1 pn2 xs ys ∧ Below w.heap.size w u) (first | exact HX.out | exact HX.out.drew)
      (first
      | (go_at_call 15; refine (toPos_any p1 p2 pn1 pc1 pn2 pc2 pp xs ys _ (H.out.below (by first | exact HX.out.2.2.2.2 | exact HX.out.drew.2.2.2.2))).mono ?_; rintro e w5 ⟨y1, y2, rfl, o5, l51, l52, hb5⟩; have O5 := Lib.hid o5.r; have HX := Lib.hid (by first | exact HX.out.below hb5 | exact HX.out.drew.below hb5 : RpxAt w p s c l st sk re fe ag p1 p2 pn1 pc1 pn2 pc2 pp xs ys D (some ⟨x1, 0, none⟩) (some ⟨x2, 0, none⟩) pn1 pn1 pn2 pn2 pp w5); clear o5)
      | (go_at_call 17; refine (eqP_same _ _ _ _ _ _ _ _ _ _ _ xs ys _ (by first | exact HX.out.2.2.2.1 | exact HX.out.drew.2.2.2.1) O5.out).mono ?_; rintro e w5 ⟨rfl, hb5⟩; have HX := Lib.hid (by first | exact HX.out.below hb5 | exact HX.out.drew.below hb5 : RpxAt w p s c l st sk re fe ag p1 p2 pn1 pc1 pn2 pc2 pp xs ys D (some ⟨x1, 0, none⟩) (some ⟨x2, 0, none⟩) pn1 pn1 pn2 pn2 pp w5)))
    go_wp2_with fail
    go_ret
    exact ⟨rfl, HX.out.2.2.2.2⟩
  · have e1 := szV_no hsz
    have E1 := Lib.hid e1
    clear e1
    go_enter Try.func4, Try.ntmps4
    go_wp2_with fail
    refine (szP_any p1 p2 pn1 pc1 pn2 pc2 pp 1048576 (by omega) (by omega) hb1 hb2 _).mono ?_
    rintro e w1 ⟨rfl, b1⟩
    rw [E1.out]
    have HS := Lib.hid (HS.out.below b1)
    clear b1
    go_wp2_with fail
    go_ret
    exact ⟨rfl, HS.out.2.2⟩
theorem walk_FnExactCanMove (x : RV) (hx : x.Fit) (q : PV) {w : World} (hq : q.In w) : Calls Try.prog 4 #[x.val, q.val] w fun e w' => e = .returned (.bool true) ∧ Below w.heap.size w w' :=
  walk0_FnExactCanMove _ _ _ _ _ _ _ _ _ _ _ _ _ _ _ _ _ _  w hq.2
namespace fnExactCanMove
set_option maxHeartbeats 2000000 in
set_option maxRecDepth 100000 in
theorem lifted (os : Os) (started : os.Started) (H : Type) (enc : TypeId × Value → H) :
    ReturnsInHanded {} Try.checked os 4 .any (Rows.fnExactCanMoveSpec.pre6 enc Try.prog Try.f4 Rows.fnExactCanMoveRow.domain false) (Rows.fnExactCanMoveSpec.post enc Try.prog Try.f4 false true false false) := by
  refine returnsInHanded_of_change (C := Try.checked) own started (by kernel_rfl) Try.func4
    (ChangeSpec.witness6 (enc := enc) (C := Try.checked) false ⟨#[], #[.agg #[.int .i64 0, .int .i64 0, .bool false, .bool false, .bool false, .bool false, .bool false, .int .i64 0, .int .i64 0], .agg #[.slice none 0 0, .slice none 0 0, .int .i64 0]], []⟩ 8 (by kernel_rfl) (by kernel_rfl) (by kernel_rfl) (by kernel_rfl)) ?_
  intro W base args ds gs before hval0 hW hcnd _
  have hval : ∀ (j : Nat) t v, Try.f4.params[j]? = some t → args[j]? = some v → Value.okWide Try.prog W .any base t v := hval0
  have hW' := hW
  obtain ⟨p, q, hA0, hV, rfl, hfz, hnd⟩ := hW
  have hA : DataW.TrodAll enc Try.prog W 0 (fun _ => true) true Try.f4.params.toList args.toList ds p := hA0
  rw [Try.params4] at hA hval
  obtain ⟨v0, vs0, d0, ds0, p0, q0, hargs, rfl, rfl, h0, r0⟩ := trodAll_cons hA
  obtain ⟨v1, vs1, d1, ds1, p1, q1, rfl, rfl, rfl, h1, r1⟩ := trodAll_cons r0
  obtain ⟨rfl, rfl, rfl⟩ := trodAll_nil r1
  obtain rfl : args = #[v0, v1] := by cases args; simp_all
  obtain ⟨rfl, rfl⟩ := trodVars_none hV
  have k0 := h0
  have lt0 : ∀ x ∈ p0, x.block < W.heap.size := by obtain ⟨m, hm⟩ := k0; exact DataW.trod_lt m _ _ _ hm
  obtain ⟨x0, rfl, w0⟩ := open_rules Try.underlying23 Try.underlying2 Try.underlying4 (by kernel_rfl) (by kernel_rfl) (hval 0 23 v0 rfl rfl) h0
  have k1 := h1
  have lt1 : ∀ x ∈ p1, x.block < W.heap.size := by obtain ⟨m, hm⟩ := k1; exact DataW.trod_lt m _ _ _ hm
  obtain ⟨x1, rfl, w1⟩ := open_pos Try.underlying26 Try.underlying24 Try.underlying2 (by kernel_rfl) (by kernel_rfl) (by kernel_rfl) (hval 1 26 v1 rfl rfl) h1
  clear hA0 hval0
  refine (walk_FnExactCanMove x0 w0 x1 w1 (w := W)).mono fun e W' ⟨he, bel⟩ => ?_
  subst he
  exact ⟨_, rfl, _, _, _, [], _, [], hW', trodAll_mk1 (shut_bool Try.underlying4 _), (trodAll_cons_mk (Below.trod laidOut (by kernel_rfl) (of_decide_eq_true (by kernel_rfl)) k0 bel lt0) (trodAll_cons_mk (Below.trod laidOut (by kernel_rfl) (of_decide_eq_true (by kernel_rfl)) k1 bel lt1) trodAll_mk0)), rfl, bel.frame _, fun h => by cases h⟩

theorem proved : Rows.FnExactCanMoveSaid :=
  OpenClaim.holds_of_wide 4 Try.f4 rfl rfl rfl rfl rfl rfl rfl ⟨rfl, rfl, rfl, rfl, rfl⟩ rfl rfl rfl rfl rfl (by kernel_rfl) Try.func4 (by kernel_rfl)
    (of_decide_eq_true (by kernel_rfl)) (by unfold Func.isWrapper; first | (rw [if_pos (by decide +kernel)]; kernel_rfl) | (rw [if_neg (by decide +kernel)]; exact ⟨rfl, rfl⟩))
    (fun os started H enc _ => lifted os started H enc)
end fnExactCanMove

set_option maxHeartbeats 8000000 in
set_option maxRecDepth 100000 in
theorem walk0_FnExactLegalMoves (p s c l : Int) (st sk re fe ag : Bool) (p1 p2 : Option Addr) (pn1 pc1 pn2 pc2 : Nat) (pp : Int) (xs ys : List Int) (w : World) (h : PosW w p1 p2 pn1 pn2 xs ys) :
    Calls Try.prog 5 #[.agg #[.int .i64 p, .int .i64 s, .bool st, .bool sk, .bool re, .bool fe, .bool ag, .int .i64 c, .int .i64 l], .agg #[.slice p1 pn1 pc1, .slice p2 pn2 pc2, .int .i64 pp]] w fun e w' => e = .returned (.bool true) ∧ Below w.heap.size w w' := by
  have hb1 := h.m1
  have hb2 := h.m2
  have HW := Lib.hid h
  have HS := Lib.hid (rp_new p s c l st sk re fe ag p1 p2 pn1 pc1 pn2 pc2 pp w 23 26)
  clear h
  by_cases hsz : (pn1 : Int) + pn2 ≤ 1048576
  · have H := Lib.hid (HW.out.toR hsz)
    have E1 := Lib.hid (szV_yes hsz)
    obtain ⟨L, n, cd, hn, hn16, hs, hi⟩ := legal_ex p s c l st sk re fe ag pn1 pn2 pp xs ys  H.out.l1 H.out.l2
    have Hs := Lib.hid hs
    have Hi := Lib.hid hi
    have Hn := Lib.hid hn
    clear hs hi hn
    go_enter Try.func5, Try.ntmps5
    go_wp2_with fail
    refine (szP_any p1 p2 pn1 pc1 pn2 pc2 pp 1048576 (by omega) (by omega) hb1 hb2 _).mono ?_
    rintro e w1 ⟨rfl, b1⟩
    rw [E1.out]
    have q0 : 0 ≤ 1048576 - (pn1 : Int) - pn2 := by omega
    have HS := Lib.hid (HS.out.below b1)
    clear b1
    go_wp2_with fail
    go_region_held3 (fun u => (w.heap.size < u.heap.size ∧ u.cell? ⟨w.heap.size, 0, none⟩ = some (.int .i64 p) ∧ u.cell? ⟨w.heap.size, 1, none⟩ = some (.int .i64 s) ∧ u.cell? ⟨w.heap.size, 2, none⟩ = some (.bool st) ∧ u.cell? ⟨w.heap.size, 3, none⟩ = some (.bool sk) ∧ u.cell? ⟨w.heap.size, 4, none⟩ = some (.bool re) ∧ u.cell? ⟨w.heap.size, 5, none⟩ = some (.bool fe) ∧ u.cell? ⟨w.heap.size, 6, none⟩ = some (.bool ag) ∧ u.cell? ⟨w.heap.size, 7, none⟩ = some (.int .i64 c) ∧ u.cell? ⟨w.heap.size, 8, none⟩ = some (.int .i64 l)) ∧ (w.heap.size + 1 < u.heap.size ∧ u.cell? ⟨w.heap.size + 1, 0, none⟩ = some (.slice p1 pn1 pc1) ∧ u.cell? ⟨w.heap.size + 1, 1, none⟩ = some (.slice p2 pn2 pc2) ∧ u.cell? ⟨w.heap.size + 1, 2, none⟩ = some (.int .i64 pp)) ∧ Below w.heap.size w u) (first | exact HS.out | exact HS.out.drew)
      (first
      | (go_at_call 14; refine (toRules_any p s c l st sk re fe ag _).mono ?_; rintro e w5 ⟨rfl, hb5⟩; have HS := Lib.hid (by first | exact HS.out.below hb5 | exact HS.out.drew.below hb5 : RpAt w p s c l st sk re fe ag p1 p2 pn1 pc1 pn2 pc2 pp w5))
      | (go_at_call 15; refine (toPos_any p1 p2 pn1 pc1 pn2 pc2 pp xs ys _ (H.out.below (by first | exact HS.out.2.2 | exact HS.out.drew.2.2))).mono ?_; rintro e w5 ⟨g1, g2, rfl, o5, l51, l52, hb5⟩; have O5 := Lib.hid o5.r; have HS := Lib.hid (by first | exact HS.out.below hb5 | exact HS.out.drew.below hb5 : RpAt w p s c l st sk re fe ag p1 p2 pn1 pc1 pn2 pc2 pp w5); clear o5)
      | (go_at_call 20; refine (Hs.out _ _ _ O5.out).mono ?_; rintro e w5 ⟨v5, rfl, hown, hb5⟩; obtain ⟨a0, c0, b0, rfl, hr0⟩ := rin_own (own_lower (C := w.heap.size + 2) hown (by have h1 := HS.out.2.1.1; exact h1)) Hn.out hn16; have R0 := Lib.hid hr0; have HS := Lib.hid (by first | exact HS.out.below hb5 | exact HS.out.drew.below hb5 : RpAt w p s c l st sk re fe ag p1 p2 pn1 pc1 pn2 pc2 pp w5); clear hown hr0))
    clear O5
    have hH0w : w.heap.size + 2 ≤ w5.heap.size := HS.out.2.1.1
    generalize hH0 : w5.heap.size = H0 at *
    obtain ⟨_, ⟨hd1, g0, g1, g2⟩, hbw⟩ := HS.out
    clear hbw
    go_wp2_with fail
    refine (toPos_any p1 p2 pn1 pc1 pn2 pc2 pp xs ys _ (H.out.below (by first | exact HS.out.2.2 | exact HS.out.drew.2.2))).mono ?_
    rintro e w6 ⟨x1, x2, rfl, o6, l61, l62, hb6⟩
    have OX := Lib.hid (show XIn w6 H0 x1 x2 pn1 pn2 xs ys from PosO.lower o6 (by first | exact Nat.le_of_eq hH0.symm | omega))
    have O6 := Lib.hid o6.r
    have HS := Lib.hid (by first | exact HS.out.below hb6 | exact HS.out.drew.below hb6 : RpAt w p s c l st sk re fe ag p1 p2 pn1 pc1 pn2 pc2 pp w6)
    (first | have R0 := Lib.hid (R0.out.below hb6) | have R0 := Lib.hid (R0.out.drew.below hb6) | have R0 := Lib.hid ((R0.out.below (al1 _ _)).below hb6) | have R0 := Lib.hid ((R0.out.below (al1 _ _)).drew.below hb6))
    clear hd1 g0 g1 g2 o6 hb6 hH0
    go_wp2_with fail
    have HX := Lib.hid (rpx_new p s c l st sk re fe ag p1 p2 pn1 pc1 pn2 pc2 pp xs ys (some ⟨x1, 0, none⟩) (some ⟨x2, 0, none⟩) pn1 pn1 pn2 pn2 pp 32 HS.out O6.out)
    have OX := Lib.hid (OX.out.below (al1 w6 (.cells #[.slice (some ⟨x1, 0, none⟩) pn1 pn1, .slice (some ⟨x2, 0, none⟩) pn2 pn2, .int .i64 pp] 32)))
    have R0 := Lib.hid (R0.out.below (al1 w6 (.cells #[.slice (some ⟨x1, 0, none⟩) pn1 pn1, .slice (some ⟨x2, 0, none⟩) pn2 pn2, .int .i64 pp] 32)))
    generalize hD : w6.heap.size = D at *
    generalize hW : w6.alloc (.cells #[.slice (some ⟨x1, 0, none⟩) pn1 pn1, .slice (some ⟨x2, 0, none⟩) pn2 pn2, .int .i64 pp] 32) = w7 at *
    clear hW hD O6 HS
    go_region_held3 (fun u => (w.heap.size < u.heap.size ∧ u.cell? ⟨w.heap.size, 0, none⟩ = some (.int .i64 p) ∧ u.cell? ⟨w.heap.size, 1, none⟩ = some (.int .i64 s) ∧ u.cell? ⟨w.heap.size, 2, none⟩ = some (.bool st) ∧ u.cell? ⟨w.heap.size, 3, none⟩ = some (.bool sk) ∧ u.cell? ⟨w.heap.size, 4, none⟩ = some (.bool re) ∧ u.cell? ⟨w.heap.size, 5, none⟩ = some (.bool fe) ∧ u.cell? ⟨w.heap.size, 6, none⟩ = some (.bool ag) ∧ u.cell? ⟨w.heap.size, 7, none⟩ = some (.int .i64 c) ∧ u.cell? ⟨w.heap.size, 8, none⟩ = some (.int .i64 l)) ∧ (w.heap.size + 1 < u.heap.size ∧ u.cell? ⟨w.heap.size + 1, 0, none⟩ = some (.slice p1 pn1 pc1) ∧ u.cell? ⟨w.heap.size + 1, 1, none⟩ = some (.slice p2 pn2 pc2) ∧ u.cell? ⟨w.heap.size + 1, 2, none⟩ = some (.int .i64 pp)) ∧ (D < u.heap.size ∧ u.cell? ⟨D, 0, none⟩ = some (.slice (some ⟨x1, 0, none⟩) pn1 pn1) ∧ u.cell? ⟨D, 1, none⟩ = some (.slice (some ⟨x2, 0, none⟩) pn2 pn2) ∧ u.cell? ⟨D, 2, none⟩ = some (.int .i64 pp)) ∧ PosR u (some ⟨x1, 0, none⟩) (some ⟨x2, 0, none⟩) pn1 pn2 xs ys ∧ Below w.heap.size w u) (first | exact HX.out | exact HX.out.drew)
      (first
      | (go_at_call 14; refine (toRules_any p s c l st sk re fe ag _).mono ?_; rintro e w8 ⟨rfl, hb8⟩; have HX := Lib.hid (by first | exact HX.out.below hb8 | exact HX.out.drew.below hb8 : RpxAt w p s c l st sk re fe ag p1 p2 pn1 pc1 pn2 pc2 pp xs ys D (some ⟨x1, 0, none⟩) (some ⟨x2, 0, none⟩) pn1 pn1 pn2 pn2 pp w8); (first | have R0 := Lib.hid (R0.out.below hb8) | have R0 := Lib.hid (R0.out.drew.below hb8) | have R0 := Lib.hid ((R0.out.below (al1 _ _)).below hb8) | have R0 := Lib.hid ((R0.out.below (al1 _ _)).drew.below hb8)); (first | have OX := Lib.hid (OX.out.below hb8) | have OX := Lib.hid (OX.out.drew.below hb8) | have OX := Lib.hid ((OX.out.below (al1 _ _)).below hb8) | have OX := Lib.hid ((OX.out.below (al1 _ _)).drew.below hb8)); clear hb8)
      | (go_at_call 21; refine (Hi.out _ _ _ (by first | exact HX.out.2.2.2.1 | exact HX.out.drew.2.2.2.1)).mono ?_; rintro e w8 ⟨v8, rfl, hown, hb8⟩; obtain ⟨a1, c1, b1, rfl, hr1⟩ := rin_own (own_lower (C := D + 1) hown (by have h1 := HX.out.2.2.1.1; exact h1)) Hn.out hn16; have R1 := Lib.hid hr1; have HX := Lib.hid (by first | exact HX.out.below hb8 | exact HX.out.drew.below hb8 : RpxAt w p s c l st sk re fe ag p1 p2 pn1 pc1 pn2 pc2 pp xs ys D (some ⟨x1, 0, none⟩) (some ⟨x2, 0, none⟩) pn1 pn1 pn2 pn2 pp w8); (first | have R0 := Lib.hid (R0.out.below hb8) | have R0 := Lib.hid (R0.out.drew.below hb8) | have R0 := Lib.hid ((R0.out.below (al1 _ _)).below hb8) | have R0 := Lib.hid ((R0.out.below (al1 _ _)).drew.below hb8)); (first | have OX := Lib.hid (OX.out.below hb8) | have OX := Lib.hid (OX.out.drew.below hb8) | have OX := Lib.hid ((OX.out.below (al1 _ _)).below hb8) | have OX := Lib.hid ((OX.out.below (al1 _ _)).drew.below hb8)); clear hown hr1 hb8))
    generalize hH1 : w8.heap.size = H1 at *
    clear hH1
    go_wp2_with fail
    refine (eqN_same a1 a0 c1 c0 n L _ Hn.out (by first | exact R1.out.1.row | exact R1.out.drew.1.row) (by first | exact R0.out.1.row | exact R0.out.drew.1.row)).mono ?_
    rintro e w9 ⟨rfl, hb9⟩
    have HX := Lib.hid (by first | exact HX.out.below hb9 | exact HX.out.drew.below hb9 : RpxAt w p s c l st sk re fe ag p1 p2 pn1 pc1 pn2 pc2 pp xs ys D (some ⟨x1, 0, none⟩) (some ⟨x2, 0, none⟩) pn1 pn1 pn2 pn2 pp w9)
    (first | have R0 := Lib.hid (R0.out.below hb9) | have R0 := Lib.hid (R0.out.drew.below hb9) | have R0 := Lib.hid ((R0.out.below (al1 _ _)).below hb9) | have R0 := Lib.hid ((R0.out.below (al1 _ _)).drew.below hb9)); (first | have R1 := Lib.hid (R1.out.below hb9) | have R1 := Lib.hid (R1.out.drew.below hb9) | have R1 := Lib.hid ((R1.out.below (al1 _ _)).below hb9) | have R1 := Lib.hid ((R1.out.below (al1 _ _)).drew.below hb9)); (first | have OX := Lib.hid (OX.out.below hb9) | have OX := Lib.hid (OX.out.drew.below hb9) | have OX := Lib.hid ((OX.out.below (al1 _ _)).below hb9) | have OX := Lib.hid ((OX.out.below (al1 _ _)).drew.below hb9))
    clear hb9
    go_wp2_with fail
    go_region_held3 (fun u => (w.heap.size < u.heap.size ∧ u.cell? ⟨w.heap.size, 0, none⟩ = some (.int .i64 p) ∧ u.cell? ⟨w.heap.size, 1, none⟩ = some (.int .i64 s) ∧ u.cell? ⟨w.heap.size, 2, none⟩ = some (.bool st) ∧ u.cell? ⟨w.heap.size, 3, none⟩ = some (.bool sk) ∧ u.cell? ⟨w.heap.size, 4, none⟩ = some (.bool re) ∧ u.cell? ⟨w.heap.size, 5, none⟩ = some (.bool fe) ∧ u.cell? ⟨w.heap.size, 6, none⟩ = some (.bool ag) ∧ u.cell? ⟨w.heap.size, 7, none⟩ = some (.int .i64 c) ∧ u.cell? ⟨w.heap.size, 8, none⟩ = some (.int .i64 l)) ∧ (w.heap.size + 1 < u.heap.size ∧ u.cell? ⟨w.heap.size + 1, 0, none⟩ = some (.slice p1 pn1 pc1) ∧ u.cell? ⟨w.heap.size + 1, 1, none⟩ = some (.slice p2 pn2 pc2) ∧ u.cell? ⟨w.heap.size + 1, 2, none⟩ = some (.int .i64 pp)) ∧ (D < u.heap.size ∧ u.cell? ⟨D, 0, none⟩ = some (.slice (some ⟨x1, 0, none⟩) pn1 pn1) ∧ u.cell? ⟨D, 1, none⟩ = some (.slice (some ⟨x2, 0, none⟩) pn2 pn2) ∧ u.cell? ⟨D, 2, none⟩ = some (.int .i64 pp)) ∧ PosR u (some ⟨x1, 0, none⟩) (some ⟨x2, 0, none⟩) pn1 pn2 xs ys ∧ Below w.heap.size w u) (first | exact HX.out | exact HX.out.drew)
      (first
      | (go_at_call 15; refine (toPos_any p1 p2 pn1 pc1 pn2 pc2 pp xs ys _ (H.out.below (by first | exact HX.out.2.2.2.2 | exact HX.out.drew.2.2.2.2))).mono ?_; rintro e w5 ⟨y1, y2, rfl, o5, l51, l52, hb5⟩; have O5 := Lib.hid o5.r; have HX := Lib.hid (by first | exact HX.out.below hb5 | exact HX.out.drew.below hb5 : RpxAt w p s c l st sk re fe ag p1 p2 pn1 pc1 pn2 pc2 pp xs ys D (some ⟨x1, 0, none⟩) (some ⟨x2, 0, none⟩) pn1 pn1 pn2 pn2 pp w5); (first | have R0 := Lib.hid (R0.out.below hb5) | have R0 := Lib.hid (R0.out.drew.below hb5) | have R0 := Lib.hid ((R0.out.below (al1 _ _)).below hb5) | have R0 := Lib.hid ((R0.out.below (al1 _ _)).drew.below hb5)); (first | have R1 := Lib.hid (R1.out.below hb5) | have R1 := Lib.hid (R1.out.drew.below hb5) | have R1 := Lib.hid ((R1.out.below (al1 _ _)).below hb5) | have R1 := Lib.hid ((R1.out.below (al1 _ _)).drew.below hb5)); (first | have OX := Lib.hid (OX.out.below hb5) | have OX := Lib.hid (OX.out.drew.below hb5) | have OX := Lib.hid ((OX.out.below (al1 _ _)).below hb5) | have OX := Lib.hid ((OX.out.below (al1 _ _)).drew.below hb5)); clear o5 hb5)
      | (go_at_call 17; refine (eqP_same _ _ _ _ _ _ _ _ _ _ _ xs ys _ (by first | exact HX.out.2.2.2.1 | exact HX.out.drew.2.2.2.1) O5.out).mono ?_; rintro e w5 ⟨rfl, hb5⟩; have HX := Lib.hid (by first | exact HX.out.below hb5 | exact HX.out.drew.below hb5 : RpxAt w p s c l st sk re fe ag p1 p2 pn1 pc1 pn2 pc2 pp xs ys D (some ⟨x1, 0, none⟩) (some ⟨x2, 0, none⟩) pn1 pn1 pn2 pn2 pp w5); (first | have R0 := Lib.hid (R0.out.below hb5) | have R0 := Lib.hid (R0.out.drew.below hb5) | have R0 := Lib.hid ((R0.out.below (al1 _ _)).below hb5) | have R0 := Lib.hid ((R0.out.below (al1 _ _)).drew.below hb5)); (first | have R1 := Lib.hid (R1.out.below hb5) | have R1 := Lib.hid (R1.out.drew.below hb5) | have R1 := Lib.hid ((R1.out.below (al1 _ _)).below hb5) | have R1 := Lib.hid ((R1.out.below (al1 _ _)).drew.below hb5)); (first | have OX := Lib.hid (OX.out.below hb5) | have OX := Lib.hid (OX.out.drew.below hb5) | have OX := Lib.hid ((OX.out.below (al1 _ _)).below hb5) | have OX := Lib.hid ((OX.out.below (al1 _ _)).drew.below hb5)); clear hb5))
    obtain ⟨MX, hMX⟩ : ∃ M : Int, M = ((1 + pn1 + pn2 : Nat) : Int) := ⟨_, rfl⟩
    obtain ⟨MG, hMG⟩ : ∃ M : Int, M = ((1 + n : Nat) : Int) := ⟨_, rfl⟩
    have qx : ¬ MX < 0 := by omega
    have qg : ¬ MG < 0 := by omega
    have HMX := Lib.hid hMX
    have HMG := Lib.hid hMG
    clear hMX hMG O5
    obtain ⟨-, -, ⟨hd1, t0, t1, t2⟩, -, -⟩ := HX.out
    have hx5 := (show PosO _ _ _ _ _ _ _ _ _ _ from OX.out).o1.new
    have hx6 := (show PosO _ _ _ _ _ _ _ _ _ _ from OX.out).o2.new
    have hH0D := R0.out.2.2
    go_wp2_with fail
    refine (markP_any H0 x1 x2 _ _ pn1 pn2 pn1 pn2 1 pp xs ys _ (by first | exact OX.out | exact OX.out.drew) (by first | exact hH0D | (simp; omega)) ⟨by first | omega | (simp; omega), by first | omega | (simp; omega)⟩ (by omega) (by omega)).mono ?_
    rintro e w10 ⟨rfl, hbb, hpo⟩
    rw [← HMX.out]
    have hv1 : w.heap.size + 1 < x1 := by omega
    have hv2 : w.heap.size + 1 < x2 := by omega
    have HS := Lib.hid (show RpAt w p s c l st sk re fe ag p1 p2 pn1 pc1 pn2 pc2 pp _ from RpAt.but2 (show RpAt w p s c l st sk re fe ag p1 p2 pn1 pc1 pn2 pc2 pp _ from ⟨HX.out.1, HX.out.2.1, HX.out.2.2.2.2⟩) hbb hv1 hv2)
    have R0 := Lib.hid (R0.out.but2 hbb (.inl hx5) (.inl hx6))
    have R1 := Lib.hid (R1.out.but2 hbb (.inr (by omega)) (.inr (by omega)))
    clear hbb hpo hd1 t0 t1 t2 HX OX
    go_wp2_with fail
    refine (eqN_same a1 a0 c1 c0 n L _ Hn.out (by first | exact R1.out.1.row | exact R1.out.drew.1.row) (by first | exact R0.out.1.row | exact R0.out.drew.1.row)).mono ?_
    rintro e w11 ⟨rfl, hb9⟩
    have HS := Lib.hid (by first | exact HS.out.below hb9 | exact HS.out.drew.below hb9 : RpAt w p s c l st sk re fe ag p1 p2 pn1 pc1 pn2 pc2 pp w11)
    (first | have R0 := Lib.hid (R0.out.below hb9) | have R0 := Lib.hid (R0.out.drew.below hb9) | have R0 := Lib.hid ((R0.out.below (al1 _ _)).below hb9) | have R0 := Lib.hid ((R0.out.below (al1 _ _)).drew.below hb9)); (first | have R1 := Lib.hid (R1.out.below hb9) | have R1 := Lib.hid (R1.out.drew.below hb9) | have R1 := Lib.hid ((R1.out.below (al1 _ _)).below hb9) | have R1 := Lib.hid ((R1.out.below (al1 _ _)).drew.below hb9))
    clear hb9
    go_wp2_with fail
    refine (marksN_any (D + 1) b1 a1 c1 n 1 L _ Hn.out (by first | exact R1.out.1 | exact R1.out.drew.1) (by omega)).mono ?_
    rintro e w12 ⟨rfl, hbut, ho⟩
    rw [← HMG.out]
    have hn1' := R1.out.1.new
    have HS := Lib.hid (show RpAt w p s c l st sk re fe ag p1 p2 pn1 pc1 pn2 pc2 pp _ from HS.out.but2 (.of_l (c := b1) hbut) (by omega) (by omega))
    have R0 := Lib.hid (R0.out.but2 (.of_l (c := b1) hbut) (.inl (by omega)) (.inl (by omega)))
    have GM := Lib.hid (show GIn w12 (D + 1) a1 b1 n from ho)
    clear hbut ho R1
    go_wp2_with fail
    refine (heldN_any a1 c1 n 1 _ (by first | exact OutN.row GM.out | exact OutN.row GM.out.drew) (by omega)).mono ?_
    rintro e w13 ⟨rfl, hb13⟩
    rw [← HMG.out]
    have HS := Lib.hid (by first | exact HS.out.below hb13 | exact HS.out.drew.below hb13 : RpAt w p s c l st sk re fe ag p1 p2 pn1 pc1 pn2 pc2 pp w13)
    (first | have R0 := Lib.hid (R0.out.below hb13) | have R0 := Lib.hid (R0.out.drew.below hb13) | have R0 := Lib.hid ((R0.out.below (al1 _ _)).below hb13) | have R0 := Lib.hid ((R0.out.below (al1 _ _)).drew.below hb13)); (first | have GM := Lib.hid (GM.out.below hb13) | have GM := Lib.hid (GM.out.drew.below hb13) | have GM := Lib.hid ((GM.out.below (al1 _ _)).below hb13) | have GM := Lib.hid ((GM.out.below (al1 _ _)).drew.below hb13))
    clear hb13
    go_wp2_with fail
    go_region_held3 (fun u => (w.heap.size < u.heap.size ∧ u.cell? ⟨w.heap.size, 0, none⟩ = some (.int .i64 p) ∧ u.cell? ⟨w.heap.size, 1, none⟩ = some (.int .i64 s) ∧ u.cell? ⟨w.heap.size, 2, none⟩ = some (.bool st) ∧ u.cell? ⟨w.heap.size, 3, none⟩ = some (.bool sk) ∧ u.cell? ⟨w.heap.size, 4, none⟩ = some (.bool re) ∧ u.cell? ⟨w.heap.size, 5, none⟩ = some (.bool fe) ∧ u.cell? ⟨w.heap.size, 6, none⟩ = some (.bool ag) ∧ u.cell? ⟨w.heap.size, 7, none⟩ = some (.int .i64 c) ∧ u.cell? ⟨w.heap.size, 8, none⟩ = some (.int .i64 l)) ∧ (w.heap.size + 1 < u.heap.size ∧ u.cell? ⟨w.heap.size + 1, 0, none⟩ = some (.slice p1 pn1 pc1) ∧ u.cell? ⟨w.heap.size + 1, 1, none⟩ = some (.slice p2 pn2 pc2) ∧ u.cell? ⟨w.heap.size + 1, 2, none⟩ = some (.int .i64 pp)) ∧ Below w.heap.size w u) (first | exact HS.out | exact HS.out.drew)
      (first
      | (go_at_call 14; refine (toRules_any p s c l st sk re fe ag _).mono ?_; rintro e w5 ⟨rfl, hb5⟩; have HS := Lib.hid (by first | exact HS.out.below hb5 | exact HS.out.drew.below hb5 : RpAt w p s c l st sk re fe ag p1 p2 pn1 pc1 pn2 pc2 pp w5); (first | have R0 := Lib.hid (R0.out.below hb5) | have R0 := Lib.hid (R0.out.drew.below hb5) | have R0 := Lib.hid ((R0.out.below (al1 _ _)).below hb5) | have R0 := Lib.hid ((R0.out.below (al1 _ _)).drew.below hb5)); (first | have GM := Lib.hid (GM.out.below hb5) | have GM := Lib.hid (GM.out.drew.below hb5) | have GM := Lib.hid ((GM.out.below (al1 _ _)).below hb5) | have GM := Lib.hid ((GM.out.below (al1 _ _)).drew.below hb5)); clear hb5)
      | (go_at_call 15; refine (toPos_any p1 p2 pn1 pc1 pn2 pc2 pp xs ys _ (H.out.below (by first | exact HS.out.2.2 | exact HS.out.drew.2.2))).mono ?_; rintro e w5 ⟨g1, g2, rfl, o5, l51, l52, hb5⟩; have O5 := Lib.hid o5.r; have HS := Lib.hid (by first | exact HS.out.below hb5 | exact HS.out.drew.below hb5 : RpAt w p s c l st sk re fe ag p1 p2 pn1 pc1 pn2 pc2 pp w5); (first | have R0 := Lib.hid (R0.out.below hb5) | have R0 := Lib.hid (R0.out.drew.below hb5) | have R0 := Lib.hid ((R0.out.below (al1 _ _)).below hb5) | have R0 := Lib.hid ((R0.out.below (al1 _ _)).drew.below hb5)); (first | have GM := Lib.hid (GM.out.below hb5) | have GM := Lib.hid (GM.out.drew.below hb5) | have GM := Lib.hid ((GM.out.below (al1 _ _)).below hb5) | have GM := Lib.hid ((GM.out.below (al1 _ _)).drew.below hb5)); clear o5 hb5)
      | (go_at_call 21; refine (Hi.out _ _ _ O5.out).mono ?_; rintro e w5 ⟨v5, rfl, hown, hb5⟩; obtain ⟨a2, c2, b2, rfl, hr2⟩ := rin_own hown Hn.out hn16; have R2 := Lib.hid hr2; have HS := Lib.hid (by first | exact HS.out.below hb5 | exact HS.out.drew.below hb5 : RpAt w p s c l st sk re fe ag p1 p2 pn1 pc1 pn2 pc2 pp w5); (first | have R0 := Lib.hid (R0.out.below hb5) | have R0 := Lib.hid (R0.out.drew.below hb5) | have R0 := Lib.hid ((R0.out.below (al1 _ _)).below hb5) | have R0 := Lib.hid ((R0.out.below (al1 _ _)).drew.below hb5)); (first | have GM := Lib.hid (GM.out.below hb5) | have GM := Lib.hid (GM.out.drew.below hb5) | have GM := Lib.hid ((GM.out.below (al1 _ _)).below hb5) | have GM := Lib.hid ((GM.out.below (al1 _ _)).drew.below hb5)); clear hown hr2 hb5))
    go_wp2_with fail
    refine (eqN_same a2 a0 c2 c0 n L _ Hn.out (by first | exact R2.out.1.row | exact R2.out.drew.1.row) (by first | exact R0.out.1.row | exact R0.out.drew.1.row)).mono ?_
    rintro e w15 ⟨rfl, hb9⟩
    have HS := Lib.hid (by first | exact HS.out.below hb9 | exact HS.out.drew.below hb9 : RpAt w p s c l st sk re fe ag p1 p2 pn1 pc1 pn2 pc2 pp w15)
    (first | have GM := Lib.hid (GM.out.below hb9) | have GM := Lib.hid (GM.out.drew.below hb9) | have GM := Lib.hid ((GM.out.below (al1 _ _)).below hb9) | have GM := Lib.hid ((GM.out.below (al1 _ _)).drew.below hb9))
    clear hb9
    go_wp2_with fail
    refine (heldN_any a1 c1 n 1 _ (by first | exact OutN.row GM.out | exact OutN.row GM.out.drew) (by omega)).mono ?_
    rintro e w16 ⟨rfl, hb13⟩
    rw [← HMG.out]
    have HS := Lib.hid (by first | exact HS.out.below hb13 | exact HS.out.drew.below hb13 : RpAt w p s c l st sk re fe ag p1 p2 pn1 pc1 pn2 pc2 pp w16)
    clear hb13
    go_wp2_with fail
    go_ret
    exact ⟨rfl, HS.out.2.2⟩
  · have E1 := Lib.hid (szV_no hsz)
    go_enter Try.func5, Try.ntmps5
    go_wp2_with fail
    refine (szP_any p1 p2 pn1 pc1 pn2 pc2 pp 1048576 (by omega) (by omega) hb1 hb2 _).mono ?_
    rintro e w1 ⟨rfl, b1⟩
    rw [E1.out]
    have HS := Lib.hid (HS.out.below b1)
    clear b1
    go_wp2_with fail
    go_ret
    exact ⟨rfl, HS.out.2.2⟩
theorem walk_FnExactLegalMoves (x : RV) (hx : x.Fit) (q : PV) {w : World} (hq : q.In w) : Calls Try.prog 5 #[x.val, q.val] w fun e w' => e = .returned (.bool true) ∧ Below w.heap.size w w' :=
  walk0_FnExactLegalMoves _ _ _ _ _ _ _ _ _ _ _ _ _ _ _ _ _ _  w hq.2
namespace fnExactLegalMoves
set_option maxHeartbeats 2000000 in
set_option maxRecDepth 100000 in
theorem lifted (os : Os) (started : os.Started) (H : Type) (enc : TypeId × Value → H) :
    ReturnsInHanded {} Try.checked os 5 .any (Rows.fnExactLegalMovesSpec.pre6 enc Try.prog Try.f5 Rows.fnExactLegalMovesRow.domain false) (Rows.fnExactLegalMovesSpec.post enc Try.prog Try.f5 false true false false) := by
  refine returnsInHanded_of_change (C := Try.checked) own started (by kernel_rfl) Try.func5
    (ChangeSpec.witness6 (enc := enc) (C := Try.checked) false ⟨#[], #[.agg #[.int .i64 0, .int .i64 0, .bool false, .bool false, .bool false, .bool false, .bool false, .int .i64 0, .int .i64 0], .agg #[.slice none 0 0, .slice none 0 0, .int .i64 0]], []⟩ 8 (by kernel_rfl) (by kernel_rfl) (by kernel_rfl) (by kernel_rfl)) ?_
  intro W base args ds gs before hval0 hW hcnd _
  have hval : ∀ (j : Nat) t v, Try.f5.params[j]? = some t → args[j]? = some v → Value.okWide Try.prog W .any base t v := hval0
  have hW' := hW
  obtain ⟨p, q, hA0, hV, rfl, hfz, hnd⟩ := hW
  have hA : DataW.TrodAll enc Try.prog W 0 (fun _ => true) true Try.f5.params.toList args.toList ds p := hA0
  rw [Try.params5] at hA hval
  obtain ⟨v0, vs0, d0, ds0, p0, q0, hargs, rfl, rfl, h0, r0⟩ := trodAll_cons hA
  obtain ⟨v1, vs1, d1, ds1, p1, q1, rfl, rfl, rfl, h1, r1⟩ := trodAll_cons r0
  obtain ⟨rfl, rfl, rfl⟩ := trodAll_nil r1
  obtain rfl : args = #[v0, v1] := by cases args; simp_all
  obtain ⟨rfl, rfl⟩ := trodVars_none hV
  have k0 := h0
  have lt0 : ∀ x ∈ p0, x.block < W.heap.size := by obtain ⟨m, hm⟩ := k0; exact DataW.trod_lt m _ _ _ hm
  obtain ⟨x0, rfl, w0⟩ := open_rules Try.underlying23 Try.underlying2 Try.underlying4 (by kernel_rfl) (by kernel_rfl) (hval 0 23 v0 rfl rfl) h0
  have k1 := h1
  have lt1 : ∀ x ∈ p1, x.block < W.heap.size := by obtain ⟨m, hm⟩ := k1; exact DataW.trod_lt m _ _ _ hm
  obtain ⟨x1, rfl, w1⟩ := open_pos Try.underlying26 Try.underlying24 Try.underlying2 (by kernel_rfl) (by kernel_rfl) (by kernel_rfl) (hval 1 26 v1 rfl rfl) h1
  clear hA0 hval0
  refine (walk_FnExactLegalMoves x0 w0 x1 w1 (w := W)).mono fun e W' ⟨he, bel⟩ => ?_
  subst he
  exact ⟨_, rfl, _, _, _, [], _, [], hW', trodAll_mk1 (shut_bool Try.underlying4 _), (trodAll_cons_mk (Below.trod laidOut (by kernel_rfl) (of_decide_eq_true (by kernel_rfl)) k0 bel lt0) (trodAll_cons_mk (Below.trod laidOut (by kernel_rfl) (of_decide_eq_true (by kernel_rfl)) k1 bel lt1) trodAll_mk0)), rfl, bel.frame _, fun h => by cases h⟩

theorem proved : Rows.FnExactLegalMovesSaid :=
  OpenClaim.holds_of_wide 5 Try.f5 rfl rfl rfl rfl rfl rfl rfl ⟨rfl, rfl, rfl, rfl, rfl⟩ rfl rfl rfl rfl rfl (by kernel_rfl) Try.func5 (by kernel_rfl)
    (of_decide_eq_true (by kernel_rfl)) (by unfold Func.isWrapper; first | (rw [if_pos (by decide +kernel)]; kernel_rfl) | (rw [if_neg (by decide +kernel)]; exact ⟨rfl, rfl⟩))
    (fun os started H enc _ => lifted os started H enc)
end fnExactLegalMoves

end Go.Proofs.Ytdhkfkfoibddnaa
