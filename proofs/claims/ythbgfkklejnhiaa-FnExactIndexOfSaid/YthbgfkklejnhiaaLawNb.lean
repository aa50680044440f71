/- The laws on NumberOf and IndexOf. No conditions. -/
import Derived.Test.YthbgfkklejnhiaaLawB4
import Derived.Test.YthbgfkklejnhiaaN15
namespace Go.Proofs.Ythbgfkklejnhiaa
open Go.Joins Go.ChangeShapes Go.WideShapes Go.ChangeAt Go.RowKit Go.Deep
set_option linter.unusedVariables false

set_option maxHeartbeats 4000000 in
set_option maxRecDepth 100000 in
theorem walk0_FnExactNumberOf (p s c l : Int) (st sk re fe ag : Bool) (p1 p2 : Option Addr) (pn1 pc1 pn2 pc2 : Nat) (pp : Int) (xs ys : List Int) (w : World) (h : PosW w p1 p2 pn1 pn2 xs ys) :
    Calls Try.prog 5 #[.agg #[.int .i64 p, .int .i64 s, .bool st, .bool sk, .bool re, .bool fe, .bool ag, .int .i64 c, .int .i64 l], .agg #[.slice p1 pn1 pc1, .slice p2 pn2 pc2, .int .i64 pp]] w fun e w' => e = .returned (.bool true) ∧ Below w.heap.size w w' := by
  have hb1 := h.m1
  have hb2 := h.m2
  have HW := Lib.hid h
  have HS := Lib.hid (rp_new p s c l st sk re fe ag p1 p2 pn1 pc1 pn2 pc2 pp w 42 45)
  clear h
  generalize hk : okP (okR p s c l st ag) p pn1 pn2 pp xs ys = k
  have Hk := Lib.hid hk
  clear hk
  by_cases hsz : (pn1 : Int) + pn2 ≤ 1048576
  · have H := Lib.hid (HW.out.toR hsz)
    have e1 := szV_yes hsz
    have E1 := Lib.hid e1
    clear e1
    go_enter Try.func5, Try.ntmps5
    go_wp2_with fail
    refine (szP_any p1 p2 pn1 pc1 pn2 pc2 pp 1048576 (by omega) (by omega) hb1 hb2 _).mono ?_
    rintro e w1 ⟨rfl, b1⟩
    rw [E1.out]
    have q0 : 0 ≤ 1048576 - (pn1 : Int) - pn2 := by omega
    have HS := Lib.hid (HS.out.below b1)
    clear b1
    go_wp2_with fail
    go_region_held3 (fun u => (w.heap.size < u.heap.size ∧ u.cell? ⟨w.heap.size, 0, none⟩ = some (.int .i64 p) ∧ u.cell? ⟨w.heap.size, 1, none⟩ = some (.int .i64 s) ∧ u.cell? ⟨w.heap.size, 2, none⟩ = some (.bool st) ∧ u.cell? ⟨w.heap.size, 3, none⟩ = some (.bool sk) ∧ u.cell? ⟨w.heap.size, 4, none⟩ = some (.bool re) ∧ u.cell? ⟨w.heap.size, 5, none⟩ = some (.bool fe) ∧ u.cell? ⟨w.heap.size, 6, none⟩ = some (.bool ag) ∧ u.cell? ⟨w.heap.size, 7, none⟩ = some (.int .i64 c) ∧ u.cell? ⟨w.heap.size, 8, none⟩ = some (.int .i64 l)) ∧ (w.heap.size + 1 < u.heap.size ∧ u.cell? ⟨w.heap.size + 1, 0, none⟩ = some (.slice p1 pn1 pc1) ∧ u.cell? ⟨w.heap.size + 1, 1, none⟩ = some (.slice p2 pn2 pc2) ∧ u.cell? ⟨w.heap.size + 1, 2, none⟩ = some (.int .i64 pp)) ∧ Below w.heap.size w u) (first | exact HS.out | exact HS.out.drew)
      (first
      | (go_at_call 27; refine (toRules_any p s c l st sk re fe ag _).mono ?_; rintro e w5 ⟨rfl, hb5⟩; have HS := Lib.hid (by first | exact HS.out.below hb5 | exact HS.out.drew.below hb5 : RpAt w p s c l st sk re fe ag p1 p2 pn1 pc1 pn2 pc2 pp w5))
      | (go_at_call 30; refine (toPos_any p1 p2 pn1 pc1 pn2 pc2 pp xs ys _ (H.out.below (by first | exact HS.out.2.2 | exact HS.out.drew.2.2))).mono ?_; rintro e w5 ⟨g1, g2, rfl, o5, l51, l52, hb5⟩; have O5 := Lib.hid o5.r; have HS := Lib.hid (by first | exact HS.out.below hb5 | exact HS.out.drew.below hb5 : RpAt w p s c l st sk re fe ag p1 p2 pn1 pc1 pn2 pc2 pp w5); clear o5)
      | (go_at_call 29; refine (specNb_any p s c l st sk re fe ag _ _ _ _ _ _ _ xs ys _ O5.out (Nat.le_refl _) k Hk.out).mono ?_; rintro e w5 ⟨rfl, hb5⟩; have HS := Lib.hid (by first | exact HS.out.below hb5 | exact HS.out.drew.below hb5 : RpAt w p s c l st sk re fe ag p1 p2 pn1 pc1 pn2 pc2 pp w5)))
    obtain ⟨_, ⟨hd1, g0, g1, g2⟩, hbw⟩ := HS.out
    clear O5 hbw
    go_wp2_with fail
    refine (toPos_any p1 p2 pn1 pc1 pn2 pc2 pp xs ys _ (H.out.below HS.out.2.2)).mono ?_
    rintro e w6 ⟨x1, x2, rfl, o6, l61, l62, hb6⟩
    have O6 := Lib.hid o6.r
    have HS6 := Lib.hid (HS.out.below hb6)
    clear hd1 g0 g1 g2 o6 hb6
    go_wp2_with fail
    have HX := Lib.hid (rpx_new p s c l st sk re fe ag p1 p2 pn1 pc1 pn2 pc2 pp xs ys (some ⟨x1, 0, none⟩) (some ⟨x2, 0, none⟩) pn1 pn1 pn2 pn2 pp 28 HS6.out O6.out)
    generalize hD : w6.heap.size = D at *
    generalize hW : w6.alloc (.cells #[.slice (some ⟨x1, 0, none⟩) pn1 pn1, .slice (some ⟨x2, 0, none⟩) pn2 pn2, .int .i64 pp] 28) = w7 at *
    clear hW hD O6 HS6
    go_region_held3 (fun u => (w.heap.size < u.heap.size ∧ u.cell? ⟨w.heap.size, 0, none⟩ = some (.int .i64 p) ∧ u.cell? ⟨w.heap.size, 1, none⟩ = some (.int .i64 s) ∧ u.cell? ⟨w.heap.size, 2, none⟩ = some (.bool st) ∧ u.cell? ⟨w.heap.size, 3, none⟩ = some (.bool sk) ∧ u.cell? ⟨w.heap.size, 4, none⟩ = some (.bool re) ∧ u.cell? ⟨w.heap.size, 5, none⟩ = some (.bool fe) ∧ u.cell? ⟨w.heap.size, 6, none⟩ = some (.bool ag) ∧ u.cell? ⟨w.heap.size, 7, none⟩ = some (.int .i64 c) ∧ u.cell? ⟨w.heap.size, 8, none⟩ = some (.int .i64 l)) ∧ (w.heap.size + 1 < u.heap.size ∧ u.cell? ⟨w.heap.size + 1, 0, none⟩ = some (.slice p1 pn1 pc1) ∧ u.cell? ⟨w.heap.size + 1, 1, none⟩ = some (.slice p2 pn2 pc2) ∧ u.cell? ⟨w.heap.size + 1, 2, none⟩ = some (.int .i64 pp)) ∧ (D < u.heap.size ∧ u.cell? ⟨D, 0, none⟩ = some (.slice (some ⟨x1, 0, none⟩) pn1 pn1) ∧ u.cell? ⟨D, 1, none⟩ = some (.slice (some ⟨x2, 0, none⟩) pn2 pn2) ∧ u.cell? ⟨D, 2, none⟩ = some (.int .i64 pp)) ∧ PosR u (some ⟨x1, 0, none⟩) (some ⟨x2, 0, none⟩) pn1 pn2 xs ys ∧ Below w.heap.size w u) (first | exact HX.out | exact HX.out.drew)
      (first
      | (go_at_call 27; refine (toRules_any p s c l st sk re fe ag _).mono ?_; rintro e w5 ⟨rfl, hb5⟩; have HX := Lib.hid (by first | exact HX.out.below hb5 | exact HX.out.drew.below hb5 : RpxAt w p s c l st sk re fe ag p1 p2 pn1 pc1 pn2 pc2 pp xs ys D (some ⟨x1, 0, none⟩) (some ⟨x2, 0, none⟩) pn1 pn1 pn2 pn2 pp w5))
      | (go_at_call 17; refine (implNb_any p s c l st sk re fe ag _ _ _ _ _ _ _ xs ys _ (by first | exact HX.out.2.2.2.1 | exact HX.out.drew.2.2.2.1) (Nat.le_refl _) k Hk.out).mono ?_; rintro e w5 ⟨rfl, hb5⟩; have HX := Lib.hid (by first | exact HX.out.below hb5 | exact HX.out.drew.below hb5 : RpxAt w p s c l st sk re fe ag p1 p2 pn1 pc1 pn2 pc2 pp xs ys D (some ⟨x1, 0, none⟩) (some ⟨x2, 0, none⟩) pn1 pn1 pn2 pn2 pp w5)))
    go_wp2_with fail
    go_region_held3 (fun u => (w.heap.size < u.heap.size ∧ u.cell? ⟨w.heap.size, 0, none⟩ = some (.int .i64 p) ∧ u.cell? ⟨w.heap.size, 1, none⟩ = some (.int .i64 s) ∧ u.cell? ⟨w.heap.size, 2, none⟩ = some (.bool st) ∧ u.cell? ⟨w.heap.size, 3, none⟩ = some (.bool sk) ∧ u.cell? ⟨w.heap.size, 4, none⟩ = some (.bool re) ∧ u.cell? ⟨w.heap.size, 5, none⟩ = some (.bool fe) ∧ u.cell? ⟨w.heap.size, 6, none⟩ = some (.bool ag) ∧ u.cell? ⟨w.heap.size, 7, none⟩ = some (.int .i64 c) ∧ u.cell? ⟨w.heap.size, 8, none⟩ = some (.int .i64 l)) ∧ (w.heap.size + 1 < u.heap.size ∧ u.cell? ⟨w.heap.size + 1, 0, none⟩ = some (.slice p1 pn1 pc1) ∧ u.cell? ⟨w.heap.size + 1, 1, none⟩ = some (.slice p2 pn2 pc2) ∧ u.cell? ⟨w.heap.size + 1, 2, none⟩ = some (.int .i64 pp)) ∧ (D < u.heap.size ∧ u.cell? ⟨D, 0, none⟩ = some (.slice (some ⟨x1, 0, none⟩) pn1 pn1) ∧ u.cell? ⟨D, 1, none⟩ = some (.slice (some ⟨x2, 0, none⟩) pn2 pn2) ∧ u.cell? ⟨D, 2, none⟩ = some (.int .i64 pp)) ∧ PosR u (some ⟨x1, 0, none⟩) (some ⟨x2, 0, none⟩) pn1 pn2 xs ys ∧ Below w.heap.size w u) (first | exact HX.out | exact HX.out.drew)
      (first
      | (go_at_call 30; refine (toPos_any p1 p2 pn1 pc1 pn2 pc2 pp xs ys _ (H.out.below (by first | exact HX.out.2.2.2.2 | exact HX.out.drew.2.2.2.2))).mono ?_; rintro e w5 ⟨y1, y2, rfl, o5, l51, l52, hb5⟩; have O5 := Lib.hid o5.r; have HX := Lib.hid (by first | exact HX.out.below hb5 | exact HX.out.drew.below hb5 : RpxAt w p s c l st sk re fe ag p1 p2 pn1 pc1 pn2 pc2 pp xs ys D (some ⟨x1, 0, none⟩) (some ⟨x2, 0, none⟩) pn1 pn1 pn2 pn2 pp w5); clear o5)
      | (go_at_call 31; refine (eqP_same _ _ _ _ _ _ _ _ _ _ _ xs ys _ (by first | exact HX.out.2.2.2.1 | exact HX.out.drew.2.2.2.1) O5.out).mono ?_; rintro e w5 ⟨rfl, hb5⟩; have HX := Lib.hid (by first | exact HX.out.below hb5 | exact HX.out.drew.below hb5 : RpxAt w p s c l st sk re fe ag p1 p2 pn1 pc1 pn2 pc2 pp xs ys D (some ⟨x1, 0, none⟩) (some ⟨x2, 0, none⟩) pn1 pn1 pn2 pn2 pp w5)))
    go_wp2_with fail
    go_ret
    exact ⟨rfl, HX.out.2.2.2.2⟩
  · have e1 := szV_no hsz
    have E1 := Lib.hid e1
    clear e1
    go_enter Try.func5, Try.ntmps5
    go_wp2_with fail
    refine (szP_any p1 p2 pn1 pc1 pn2 pc2 pp 1048576 (by omega) (by omega) hb1 hb2 _).mono ?_
    rintro e w1 ⟨rfl, b1⟩
    rw [E1.out]
    have HS := Lib.hid (HS.out.below b1)
    clear b1
    go_wp2_with fail
    go_ret
    exact ⟨rfl, HS.out.2.2⟩
theorem walk_FnExactNumberOf (x : RV) (hx : x.Fit) (q : PV) {w : World} (hq : q.In w) : Calls Try.prog 5 #[x.val, q.val] w fun e w' => e = .returned (.bool true) ∧ Below w.heap.size w w' :=
  walk0_FnExactNumberOf _ _ _ _ _ _ _ _ _ _ _ _ _ _ _ _ _ _  w hq.2
namespace fnExactNumberOf
set_option maxHeartbeats 2000000 in
set_option maxRecDepth 100000 in
theorem lifted (os : Os) (started : os.Started) (H : Type) (enc : TypeId × Value → H) :
    ReturnsInHanded {} Try.checked os 5 .any (Rows.fnExactNumberOfSpec.pre6 enc Try.prog Try.f5 Rows.fnExactNumberOfRow.domain false) (Rows.fnExactNumberOfSpec.post enc Try.prog Try.f5 false true false false) := by
  refine returnsInHanded_of_change (C := Try.checked) own started (by kernel_rfl) Try.func5
    (ChangeSpec.witness6 (enc := enc) (C := Try.checked) false ⟨#[], #[.agg #[.int .i64 0, .int .i64 0, .bool false, .bool false, .bool false, .bool false, .bool false, .int .i64 0, .int .i64 0], .agg #[.slice none 0 0, .slice none 0 0, .int .i64 0]], []⟩ 8 (by kernel_rfl) (by kernel_rfl) (by kernel_rfl) (by kernel_rfl)) ?_
  intro W base args ds gs before hval0 hW hcnd _
  have hval : ∀ (j : Nat) t v, Try.f5.params[j]? = some t → args[j]? = some v → Value.okWide Try.prog W .any base t v := hval0
  have hW' := hW
  obtain ⟨p, q, hA0, hV, rfl, hfz, hnd⟩ := hW
  have hA : DataW.TrodAll enc Try.prog W 0 (fun _ => true) true Try.f5.params.toList args.toList ds p := hA0
  rw [Try.params5] at hA hval
  obtain ⟨v0, vs0, d0, ds0, p0, q0, hargs, rfl, rfl, h0, r0⟩ := trodAll_cons hA
  obtain ⟨v1, vs1, d1, ds1, p1, q1, rfl, rfl, rfl, h1, r1⟩ := trodAll_cons r0
  obtain ⟨rfl, rfl, rfl⟩ := trodAll_nil r1
  obtain rfl : args = #[v0, v1] := by cases args; simp_all
  obtain ⟨rfl, rfl⟩ := trodVars_none hV
  have k0 := h0
  have lt0 : ∀ x ∈ p0, x.block < W.heap.size := by obtain ⟨m, hm⟩ := k0; exact DataW.trod_lt m _ _ _ hm
  obtain ⟨x0, rfl, w0⟩ := open_rules Try.underlying42 Try.underlying2 Try.underlying4 (by kernel_rfl) (by kernel_rfl) (hval 0 42 v0 rfl rfl) h0
  have k1 := h1
  have lt1 : ∀ x ∈ p1, x.block < W.heap.size := by obtain ⟨m, hm⟩ := k1; exact DataW.trod_lt m _ _ _ hm
  obtain ⟨x1, rfl, w1⟩ := open_pos Try.underlying45 Try.underlying26 Try.underlying2 (by kernel_rfl) (by kernel_rfl) (by kernel_rfl) (hval 1 45 v1 rfl rfl) h1
  clear hA0 hval0
  refine (walk_FnExactNumberOf x0 w0 x1 w1 (w := W)).mono fun e W' ⟨he, bel⟩ => ?_
  subst he
  exact ⟨_, rfl, _, _, _, [], _, [], hW', trodAll_mk1 (shut_bool Try.underlying4 _), (trodAll_cons_mk (Below.trod laidOut (by kernel_rfl) (of_decide_eq_true (by kernel_rfl)) k0 bel lt0) (trodAll_cons_mk (Below.trod laidOut (by kernel_rfl) (of_decide_eq_true (by kernel_rfl)) k1 bel lt1) trodAll_mk0)), rfl, bel.frame _, fun h => by cases h⟩

theorem proved : Rows.FnExactNumberOfSaid :=
  OpenClaim.holds_of_wide 5 Try.f5 rfl rfl rfl rfl rfl rfl rfl ⟨rfl, rfl, rfl, rfl, rfl⟩ rfl rfl rfl rfl rfl (by kernel_rfl) Try.func5 (by kernel_rfl)
    (of_decide_eq_true (by kernel_rfl)) (by unfold Func.isWrapper; first | (rw [if_pos (by decide +kernel)]; kernel_rfl) | (rw [if_neg (by decide +kernel)]; exact ⟨rfl, rfl⟩))
    (fun os started H enc _ => lifted os started H enc)
end fnExactNumberOf

set_option maxHeartbeats 4000000 in
set_option maxRecDepth 100000 in
theorem walk0_FnExactIndexOf (p s c l : Int) (st sk re fe ag : Bool) (p1 p2 : Option Addr) (pn1 pc1 pn2 pc2 : Nat) (pp : Int) (xs ys : List Int) (w : World) (h : PosW w p1 p2 pn1 pn2 xs ys) :
    Calls Try.prog 8 #[.agg #[.int .i64 p, .int .i64 s, .bool st, .bool sk, .bool re, .bool fe, .bool ag, .int .i64 c, .int .i64 l], .agg #[.slice p1 pn1 pc1, .slice p2 pn2 pc2, .int .i64 pp]] w fun e w' => e = .returned (.bool true) ∧ Below w.heap.size w w' := by
  have hb1 := h.m1
  have hb2 := h.m2
  have HW := Lib.hid h
  have HS := Lib.hid (rp_new p s c l st sk re fe ag p1 p2 pn1 pc1 pn2 pc2 pp w 42 45)
  clear h
  generalize hk : okP (okR p s c l st ag) p pn1 pn2 pp xs ys = k
  have Hk := Lib.hid hk
  clear hk
  by_cases hsz : (pn1 : Int) + pn2 ≤ 1048576
  · have H := Lib.hid (HW.out.toR hsz)
    have e1 := szV_yes hsz
    have E1 := Lib.hid e1
    clear e1
    go_enter Try.func8, Try.ntmps8
    go_wp2_with fail
    refine (szP_any p1 p2 pn1 pc1 pn2 pc2 pp 1048576 (by omega) (by omega) hb1 hb2 _).mono ?_
    rintro e w1 ⟨rfl, b1⟩
    rw [E1.out]
    have q0 : 0 ≤ 1048576 - (pn1 : Int) - pn2 := by omega
    have HS := Lib.hid (HS.out.below b1)
    clear b1
    go_wp2_with fail
    go_region_held3 (fun u => (w.heap.size < u.heap.size ∧ u.cell? ⟨w.heap.size, 0, none⟩ = some (.int .i64 p) ∧ u.cell? ⟨w.heap.size, 1, none⟩ = some (.int .i64 s) ∧ u.cell? ⟨w.heap.size, 2, none⟩ = some (.bool st) ∧ u.cell? ⟨w.heap.size, 3, none⟩ = some (.bool sk) ∧ u.cell? ⟨w.heap.size, 4, none⟩ = some (.bool re) ∧ u.cell? ⟨w.heap.size, 5, none⟩ = some (.bool fe) ∧ u.cell? ⟨w.heap.size, 6, none⟩ = some (.bool ag) ∧ u.cell? ⟨w.heap.size, 7, none⟩ = some (.int .i64 c) ∧ u.cell? ⟨w.heap.size, 8, none⟩ = some (.int .i64 l)) ∧ (w.heap.size + 1 < u.heap.size ∧ u.cell? ⟨w.heap.size + 1, 0, none⟩ = some (.slice p1 pn1 pc1) ∧ u.cell? ⟨w.heap.size + 1, 1, none⟩ = some (.slice p2 pn2 pc2) ∧ u.cell? ⟨w.heap.size + 1, 2, none⟩ = some (.int .i64 pp)) ∧ Below w.heap.size w u) (first | exact HS.out | exact HS.out.drew)
      (first
      | (go_at_call 27; refine (toRules_any p s c l st sk re fe ag _).mono ?_; rintro e w5 ⟨rfl, hb5⟩; have HS := Lib.hid (by first | exact HS.out.below hb5 | exact HS.out.drew.below hb5 : RpAt w p s c l st sk re fe ag p1 p2 pn1 pc1 pn2 pc2 pp w5))
      | (go_at_call 30; refine (toPos_any p1 p2 pn1 pc1 pn2 pc2 pp xs ys _ (H.out.below (by first | exact HS.out.2.2 | exact HS.out.drew.2.2))).mono ?_; rintro e w5 ⟨g1, g2, rfl, o5, l51, l52, hb5⟩; have O5 := Lib.hid o5.r; have HS := Lib.hid (by first | exact HS.out.below hb5 | exact HS.out.drew.below hb5 : RpAt w p s c l st sk re fe ag p1 p2 pn1 pc1 pn2 pc2 pp w5); clear o5)
      | (go_at_call 36; refine (specIx_any p s c l st sk re fe ag _ _ _ _ _ _ _ xs ys _ O5.out (Nat.le_refl _) k Hk.out).mono ?_; rintro e w5 ⟨rfl, hb5⟩; have HS := Lib.hid (by first | exact HS.out.below hb5 | exact HS.out.drew.below hb5 : RpAt w p s c l st sk re fe ag p1 p2 pn1 pc1 pn2 pc2 pp w5)))
    obtain ⟨_, ⟨hd1, g0, g1, g2⟩, hbw⟩ := HS.out
    clear O5 hbw
    go_wp2_with fail
    refine (toPos_any p1 p2 pn1 pc1 pn2 pc2 pp xs ys _ (H.out.below HS.out.2.2)).mono ?_
    rintro e w6 ⟨x1, x2, rfl, o6, l61, l62, hb6⟩
    have O6 := Lib.hid o6.r
    have HS6 := Lib.hid (HS.out.below hb6)
    clear hd1 g0 g1 g2 o6 hb6
    go_wp2_with fail
    have HX := Lib.hid (rpx_new p s c l st sk re fe ag p1 p2 pn1 pc1 pn2 pc2 pp xs ys (some ⟨x1, 0, none⟩) (some ⟨x2, 0, none⟩) pn1 pn1 pn2 pn2 pp 28 HS6.out O6.out)
    generalize hD : w6.heap.size = D at *
    generalize hW : w6.alloc (.cells #[.slice (some ⟨x1, 0, none⟩) pn1 pn1, .slice (some ⟨x2, 0, none⟩) pn2 pn2, .int .i64 pp] 28) = w7 at *
    clear hW hD O6 HS6
    go_region_held3 (fun u => (w.heap.size < u.heap.size ∧ u.cell? ⟨w.heap.size, 0, none⟩ = some (.int .i64 p) ∧ u.cell? ⟨w.heap.size, 1, none⟩ = some (.int .i64 s) ∧ u.cell? ⟨w.heap.size, 2, none⟩ = some (.bool st) ∧ u.cell? ⟨w.heap.size, 3, none⟩ = some (.bool sk) ∧ u.cell? ⟨w.heap.size, 4, none⟩ = some (.bool re) ∧ u.cell? ⟨w.heap.size, 5, none⟩ = some (.bool fe) ∧ u.cell? ⟨w.heap.size, 6, none⟩ = some (.bool ag) ∧ u.cell? ⟨w.heap.size, 7, none⟩ = some (.int .i64 c) ∧ u.cell? ⟨w.heap.size, 8, none⟩ = some (.int .i64 l)) ∧ (w.heap.size + 1 < u.heap.size ∧ u.cell? ⟨w.heap.size + 1, 0, none⟩ = some (.slice p1 pn1 pc1) ∧ u.cell? ⟨w.heap.size + 1, 1, none⟩ = some (.slice p2 pn2 pc2) ∧ u.cell? ⟨w.heap.size + 1, 2, none⟩ = some (.int .i64 pp)) ∧ (D < u.heap.size ∧ u.cell? ⟨D, 0, none⟩ = some (.slice (some ⟨x1, 0, none⟩) pn1 pn1) ∧ u.cell? ⟨D, 1, none⟩ = some (.slice (some ⟨x2, 0, none⟩) pn2 pn2) ∧ u.cell? ⟨D, 2, none⟩ = some (.int .i64 pp)) ∧ PosR u (some ⟨x1, 0, none⟩) (some ⟨x2, 0, none⟩) pn1 pn2 xs ys ∧ Below w.heap.size w u) (first | exact HX.out | exact HX.out.drew)
      (first
      | (go_at_call 27; refine (toRules_any p s c l st sk re fe ag _).mono ?_; rintro e w5 ⟨rfl, hb5⟩; have HX := Lib.hid (by first | exact HX.out.below hb5 | exact HX.out.drew.below hb5 : RpxAt w p s c l st sk re fe ag p1 p2 pn1 pc1 pn2 pc2 pp xs ys D (some ⟨x1, 0, none⟩) (some ⟨x2, 0, none⟩) pn1 pn1 pn2 pn2 pp w5))
      | (go_at_call 13; refine (implIx_any p s c l st sk re fe ag _ _ _ _ _ _ _ xs ys _ (by first | exact HX.out.2.2.2.1 | exact HX.out.drew.2.2.2.1) (Nat.le_refl _) k Hk.out).mono ?_; rintro e w5 ⟨rfl, hb5⟩; have HX := Lib.hid (by first | exact HX.out.below hb5 | exact HX.out.drew.below hb5 : RpxAt w p s c l st sk re fe ag p1 p2 pn1 pc1 pn2 pc2 pp xs ys D (some ⟨x1, 0, none⟩) (some ⟨x2, 0, none⟩) pn1 pn1 pn2 pn2 pp w5)))
    go_wp2_with fail
    go_region_held3 (fun u => (w.heap.size < u.heap.size ∧ u.cell? ⟨w.heap.size, 0, none⟩ = some (.int .i64 p) ∧ u.cell? ⟨w.heap.size, 1, none⟩ = some (.int .i64 s) ∧ u.cell? ⟨w.heap.size, 2, none⟩ = some (.bool st) ∧ u.cell? ⟨w.heap.size, 3, none⟩ = some (.bool sk) ∧ u.cell? ⟨w.heap.size, 4, none⟩ = some (.bool re) ∧ u.cell? ⟨w.heap.size, 5, none⟩ = some (.bool fe) ∧ u.cell? ⟨w.heap.size, 6, none⟩ = some (.bool ag) ∧ u.cell? ⟨w.heap.size, 7, none⟩ = some (.int .i64 c) ∧ u.cell? ⟨w.heap.size, 8, none⟩ = some (.int .i64 l)) ∧ (w.heap.size + 1 < u.heap.size ∧ u.cell? ⟨w.heap.size + 1, 0, none⟩ = some (.slice p1 pn1 pc1) ∧ u.cell? ⟨w.heap.size + 1, 1, none⟩ = some (.slice p2 pn2 pc2) ∧ u.cell? ⟨w.heap.size + 1, 2, none⟩ = some (.int .i64 pp)) ∧ (D < u.heap.size ∧ u.cell? ⟨D, 0, none⟩ = some (.slice (some ⟨x1, 0, none⟩) pn1 pn1) ∧ u.cell? ⟨D, 1, none⟩ = some (.slice (some ⟨x2, 0, none⟩) pn2 pn2) ∧ u.cell? ⟨D, 2, none⟩ = some (.int .i64 pp)) ∧ PosR u (some ⟨x1, 0, none⟩) (some ⟨x2, 0, none⟩) pn1 pn2 xs ys ∧ Below w.heap.size w u) (first | exact HX.out | exact HX.out.drew)
      (first
      | (go_at_call 30; refine (toPos_any p1 p2 pn1 pc1 pn2 pc2 pp xs ys _ (H.out.below (by first | exact HX.out.2.2.2.2 | exact HX.out.drew.2.2.2.2))).mono ?_; rintro e w5 ⟨y1, y2, rfl, o5, l51, l52, hb5⟩; have O5 := Lib.hid o5.r; have HX := Lib.hid (by first | exact HX.out.below hb5 | exact HX.out.drew.below hb5 : RpxAt w p s c l st sk re fe ag p1 p2 pn1 pc1 pn2 pc2 pp xs ys D (some ⟨x1, 0, none⟩) (some ⟨x2, 0, none⟩) pn1 pn1 pn2 pn2 pp w5); clear o5)
      | (go_at_call 31; refine (eqP_same _ _ _ _ _ _ _ _ _ _ _ xs ys _ (by first | exact HX.out.2.2.2.1 | exact HX.out.drew.2.2.2.1) O5.out).mono ?_; rintro e w5 ⟨rfl, hb5⟩; have HX := Lib.hid (by first | exact HX.out.below hb5 | exact HX.out.drew.below hb5 : RpxAt w p s c l st sk re fe ag p1 p2 pn1 pc1 pn2 pc2 pp xs ys D (some ⟨x1, 0, none⟩) (some ⟨x2, 0, none⟩) pn1 pn1 pn2 pn2 pp w5)))
    go_wp2_with fail
    go_ret
    exact ⟨rfl, HX.out.2.2.2.2⟩
  · have e1 := szV_no hsz
    have E1 := Lib.hid e1
    clear e1
    go_enter Try.func8, Try.ntmps8
    go_wp2_with fail
    refine (szP_any p1 p2 pn1 pc1 pn2 pc2 pp 1048576 (by omega) (by omega) hb1 hb2 _).mono ?_
    rintro e w1 ⟨rfl, b1⟩
    rw [E1.out]
    have HS := Lib.hid (HS.out.below b1)
    clear b1
    go_wp2_with fail
    go_ret
    exact ⟨rfl, HS.out.2.2⟩
theorem walk_FnExactIndexOf (x : RV) (hx : x.Fit) (q : PV) {w : World} (hq : q.In w) : Calls Try.prog 8 #[x.val, q.val] w fun e w' => e = .returned (.bool true) ∧ Below w.heap.size w w' :=
  walk0_FnExactIndexOf _ _ _ _ _ _ _ _ _ _ _ _ _ _ _ _ _ _  w hq.2
namespace fnExactIndexOf
set_option maxHeartbeats 2000000 in
set_option maxRecDepth 100000 in
theorem lifted (os : Os) (started : os.Started) (H : Type) (enc : TypeId × Value → H) :
    ReturnsInHanded {} Try.checked os 8 .any (Rows.fnExactIndexOfSpec.pre6 enc Try.prog Try.f8 Rows.fnExactIndexOfRow.domain false) (Rows.fnExactIndexOfSpec.post enc Try.prog Try.f8 false true false false) := by
  refine returnsInHanded_of_change (C := Try.checked) own started (by kernel_rfl) Try.func8
    (ChangeSpec.witness6 (enc := enc) (C := Try.checked) false ⟨#[], #[.agg #[.int .i64 0, .int .i64 0, .bool false, .bool false, .bool false, .bool false, .bool false, .int .i64 0, .int .i64 0], .agg #[.slice none 0 0, .slice none 0 0, .int .i64 0]], []⟩ 8 (by kernel_rfl) (by kernel_rfl) (by kernel_rfl) (by kernel_rfl)) ?_
  intro W base args ds gs before hval0 hW hcnd _
  have hval : ∀ (j : Nat) t v, Try.f8.params[j]? = some t → args[j]? = some v → Value.okWide Try.prog W .any base t v := hval0
  have hW' := hW
  obtain ⟨p, q, hA0, hV, rfl, hfz, hnd⟩ := hW
  have hA : DataW.TrodAll enc Try.prog W 0 (fun _ => true) true Try.f8.params.toList args.toList ds p := hA0
  rw [Try.params8] at hA hval
  obtain ⟨v0, vs0, d0, ds0, p0, q0, hargs, rfl, rfl, h0, r0⟩ := trodAll_cons hA
  obtain ⟨v1, vs1, d1, ds1, p1, q1, rfl, rfl, rfl, h1, r1⟩ := trodAll_cons r0
  obtain ⟨rfl, rfl, rfl⟩ := trodAll_nil r1
  obtain rfl : args = #[v0, v1] := by cases args; simp_all
  obtain ⟨rfl, rfl⟩ := trodVars_none hV
  have k0 := h0
  have lt0 : ∀ x ∈ p0, x.block < W.heap.size := by obtain ⟨m, hm⟩ := k0; exact DataW.trod_lt m _ _ _ hm
  obtain ⟨x0, rfl, w0⟩ := open_rules Try.underlying42 Try.underlying2 Try.underlying4 (by kernel_rfl) (by kernel_rfl) (hval 0 42 v0 rfl rfl) h0
  have k1 := h1
  have lt1 : ∀ x ∈ p1, x.block < W.heap.size := by obtain ⟨m, hm⟩ := k1; exact DataW.trod_lt m _ _ _ hm
  obtain ⟨x1, rfl, w1⟩ := open_pos Try.underlying45 Try.underlying26 Try.underlying2 (by kernel_rfl) (by kernel_rfl) (by kernel_rfl) (hval 1 45 v1 rfl rfl) h1
  clear hA0 hval0
  refine (walk_FnExactIndexOf x0 w0 x1 w1 (w := W)).mono fun e W' ⟨he, bel⟩ => ?_
  subst he
  exact ⟨_, rfl, _, _, _, [], _, [], hW', trodAll_mk1 (shut_bool Try.underlying4 _), (trodAll_cons_mk (Below.trod laidOut (by kernel_rfl) (of_decide_eq_true (by kernel_rfl)) k0 bel lt0) (trodAll_cons_mk (Below.trod laidOut (by kernel_rfl) (of_decide_eq_true (by kernel_rfl)) k1 bel lt1) trodAll_mk0)), rfl, bel.frame _, fun h => by cases h⟩

theorem proved : Rows.FnExactIndexOfSaid :=
  OpenClaim.holds_of_wide 8 Try.f8 rfl rfl rfl rfl rfl rfl rfl ⟨rfl, rfl, rfl, rfl, rfl⟩ rfl rfl rfl rfl rfl (by kernel_rfl) Try.func8 (by kernel_rfl)
    (of_decide_eq_true (by kernel_rfl)) (by unfold Func.isWrapper; first | (rw [if_pos (by decide +kernel)]; kernel_rfl) | (rw [if_neg (by decide +kernel)]; exact ⟨rfl, rfl⟩))
    (fun os started H enc _ => lifted os started H enc)
end fnExactIndexOf

end Go.Proofs.Ythbgfkklejnhiaa
