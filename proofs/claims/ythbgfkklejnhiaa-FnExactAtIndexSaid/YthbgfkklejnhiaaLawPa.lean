/- The laws on PositionAt and AtIndex. No conditions. -/
import Derived.Test.YthbgfkklejnhiaaWat
import Derived.Test.YthbgfkklejnhiaaN18
namespace Go.Proofs.Ythbgfkklejnhiaa
open Go.Joins Go.ChangeShapes Go.WideShapes Go.ChangeAt Go.RowKit Go.Deep
set_option linter.unusedVariables false

theorem RbAt.but2 {w u v : World} {p s c l : Int} {st sk re fe ag : Bool} {b b' : Nat} (h : RbAt w w.heap.size p s c l st sk re fe ag u) (k : But2 b b' u v) (hb : w.heap.size < b) (hc : w.heap.size < b') : RbAt w w.heap.size p s c l st sk re fe ag v := by
  refine ⟨?_, k.below h.2 (by omega) (by omega) (Below.size h.2)⟩
  obtain ⟨hd, h⟩ := h.1
  have e := fun o => k.cell (d := w.heap.size) (o := o) hd (by omega) (by omega)
  exact ⟨Nat.lt_of_lt_of_le hd k.size, by rw [e, e, e, e, e, e, e, e, e]; exact h⟩
theorem rb_new (p s c l : Int) (st sk re fe ag : Bool) (w : World) (T : TypeId) : RbAt w w.heap.size p s c l st sk re fe ag (w.alloc (.cells #[.int .i64 p, .int .i64 s, .bool st, .bool sk, .bool re, .bool fe, .bool ag, .int .i64 c, .int .i64 l] T)) := ⟨ru_new p s c l st sk re fe ag w T, al1 _ _⟩
set_option maxHeartbeats 8000000 in
set_option maxRecDepth 100000 in
theorem walk0_FnExactPositionAt (p s c l : Int) (st sk re fe ag : Bool) (n m : Int)  (w : World) :
    Calls Try.prog 6 #[.agg #[.int .i64 p, .int .i64 s, .bool st, .bool sk, .bool re, .bool fe, .bool ag, .int .i64 c, .int .i64 l], .int .i64 n, .int .i64 m] w fun e w' => e = .returned (.bool true) ∧ Below w.heap.size w w' := by
  have HS := Lib.hid (rb_new p s c l st sk re fe ag w 42)
  obtain ⟨m1, m2, pl, cd, us, vs, hm1, hm2, hs, hi⟩ := pa_ex p s c l st sk re fe ag n m
  have Hs := Lib.hid hs
  have Hi := Lib.hid hi
  clear hs hi
  go_enter Try.func6, Try.ntmps6
  go_wp2_with fail
  refine (toRules_any p s c l st sk re fe ag _).mono ?_
  rintro e w1 ⟨rfl, hb⟩
  have HS := Lib.hid (HS.out.below hb)
  clear hb
  go_wp2_with fail
  refine (Hs.out _).mono ?_
  rintro e w2 ⟨a1, c1, b1, a2, c2, b2, rfl, ho, lt1, lt2, hc1, hc2, hb⟩
  have hq := HS.out.1.1
  have O := Lib.hid (ho.lower (C := w.heap.size + 1) (by omega))
  have HS := Lib.hid (HS.out.below hb)
  clear ho hb hq
  obtain ⟨hb0, r0, r1, r2, r3, r4, r5, r6, r7, r8⟩ := HS.out.1
  go_wp2_with fail
  clear r0 r1 r2 r3 r4 r5 r6 r7 r8
  have W0 := Lib.hid (wat_new 28 pl c1 c2 O.out lt1 lt2 (by omega))
  have HS := Lib.hid (HS.out.below (al1 _ (.cells #[.slice a1 m1 c1, .slice a2 m2 c2, .int .i64 pl] 28)))
  generalize hA : w2.heap.size = A at *
  generalize hW : w2.alloc (.cells #[.slice a1 m1 c1, .slice a2 m2 c2, .int .i64 pl] 28) = w3 at *
  clear hW hA O lt1 lt2
  refine (toRules_any p s c l st sk re fe ag _).mono ?_
  rintro e w4 ⟨rfl, hb⟩
  (first | have HS := Lib.hid (HS.out.below hb) | have HS := Lib.hid (HS.out.drew.below hb) | have HS := Lib.hid ((HS.out.below (al1 _ _)).below hb) | have HS := Lib.hid ((HS.out.below (al1 _ _)).drew.below hb)); (first | have W0 := Lib.hid (W0.out.below hb) | have W0 := Lib.hid (W0.out.drew.below hb) | have W0 := Lib.hid ((W0.out.below (al1 _ _)).below hb) | have W0 := Lib.hid ((W0.out.below (al1 _ _)).drew.below hb))
  clear hb
  go_wp2_with fail
  refine (Hi.out _).mono ?_
  rintro e w5 ⟨d1, e1, k1, d2, e2, k2, rfl, ho, lt1, lt2, hc3, hc4, hb⟩
  have O := Lib.hid (ho.lower (C := A + 1) W0.out.hi_le)
  (first | have HS := Lib.hid (HS.out.below hb) | have HS := Lib.hid (HS.out.drew.below hb) | have HS := Lib.hid ((HS.out.below (al1 _ _)).below hb) | have HS := Lib.hid ((HS.out.below (al1 _ _)).drew.below hb)); (first | have W0 := Lib.hid (W0.out.below hb) | have W0 := Lib.hid (W0.out.drew.below hb) | have W0 := Lib.hid ((W0.out.below (al1 _ _)).below hb) | have W0 := Lib.hid ((W0.out.below (al1 _ _)).drew.below hb))
  clear ho hb
  obtain ⟨hd1, r0, r1, r2⟩ := W0.out.po
  go_wp2_with fail
  clear hd1 r0 r1 r2
  have WG := Lib.hid (wat_new 28 pl e1 e2 O.out lt1 lt2 W0.out.hi_le)
  have HS := Lib.hid (HS.out.below (al1 _ (.cells #[.slice d1 m1 e1, .slice d2 m2 e2, .int .i64 pl] 28)))
  have W0 := Lib.hid (W0.out.below (al1 _ (.cells #[.slice d1 m1 e1, .slice d2 m2 e2, .int .i64 pl] 28)))
  generalize hG : w5.heap.size = G at *
  generalize hW : w5.alloc (.cells #[.slice d1 m1 e1, .slice d2 m2 e2, .int .i64 pl] 28) = w6 at *
  clear hW hG O lt1 lt2
  obtain ⟨MG, hMG⟩ : ∃ M : Int, M = ((1 + m1 + m2 : Nat) : Int) := ⟨_, rfl⟩
  have qg : ¬ MG < 0 := by omega
  have HMG := Lib.hid hMG
  clear hMG
  refine (eqP_same _ _ _ _ _ _ _ _ _ _ _ us vs _ WG.out.o.r W0.out.o.r).mono ?_
  rintro e w11 ⟨rfl, hb8⟩
  (first | have HS := Lib.hid (HS.out.below hb8) | have HS := Lib.hid (HS.out.drew.below hb8) | have HS := Lib.hid ((HS.out.below (al1 _ _)).below hb8) | have HS := Lib.hid ((HS.out.below (al1 _ _)).drew.below hb8)); (first | have W0 := Lib.hid (W0.out.below hb8) | have W0 := Lib.hid (W0.out.drew.below hb8) | have W0 := Lib.hid ((W0.out.below (al1 _ _)).below hb8) | have W0 := Lib.hid ((W0.out.below (al1 _ _)).drew.below hb8)); (first | have WG := Lib.hid (WG.out.below hb8) | have WG := Lib.hid (WG.out.drew.below hb8) | have WG := Lib.hid ((WG.out.below (al1 _ _)).below hb8) | have WG := Lib.hid ((WG.out.below (al1 _ _)).drew.below hb8))
  clear hb8
  obtain ⟨hd2, s0, s1, s2⟩ := WG.out.po
  go_wp2_with fail
  clear hd2 s0 s1 s2
  have hx1 := W0.out.lo_le
  have hx5 := WG.out.o.o1.new
  have hx6 := WG.out.o.o2.new
  have hx7 := WG.out.lt1
  have hx8 := WG.out.lt2
  have hg9 := WG.out.hi_le
  refine (markP_any (A + 1) k1 k2 _ _ m1 m2 e1 e2 1 pl us vs w11 WG.out.o (by omega) ⟨by omega, by omega⟩ (by omega) hm1).mono ?_
  rintro e w12 ⟨rfl, hbb, hpo⟩
  rw [← HMG.out]
  have hv1 : w.heap.size < k1 := by omega
  have hv2 : w.heap.size < k2 := by omega
  have hv3 : A + 1 ≤ k1 := by omega
  have hv4 : A + 1 ≤ k2 := by omega
  have HS := Lib.hid (HS.out.but2 hbb hv1 hv2)
  have W0 := Lib.hid (W0.out.but2 hbb (.inl hv3) (.inl hv4))
  have WG := Lib.hid (WG.out.mark (xs := us) (ys := vs) hbb hpo)
  clear hbb hpo hx5 hx6 hx7 hx8 hg9
  obtain ⟨hd2, s0, s1, s2⟩ := WG.out.po
  go_wp2_with fail
  clear hd2 s0 s1 s2
  refine (heldP_any _ _ m1 m2 _ _ 1 pl _ WG.out.o.r (by omega) hm1).mono ?_
  rintro e w13 ⟨rfl, hb8⟩
  rw [← HMG.out]
  (first | have HS := Lib.hid (HS.out.below hb8) | have HS := Lib.hid (HS.out.drew.below hb8) | have HS := Lib.hid ((HS.out.below (al1 _ _)).below hb8) | have HS := Lib.hid ((HS.out.below (al1 _ _)).drew.below hb8)); (first | have W0 := Lib.hid (W0.out.below hb8) | have W0 := Lib.hid (W0.out.drew.below hb8) | have W0 := Lib.hid ((W0.out.below (al1 _ _)).below hb8) | have W0 := Lib.hid ((W0.out.below (al1 _ _)).drew.below hb8)); (first | have WG := Lib.hid (WG.out.below hb8) | have WG := Lib.hid (WG.out.drew.below hb8) | have WG := Lib.hid ((WG.out.below (al1 _ _)).below hb8) | have WG := Lib.hid ((WG.out.below (al1 _ _)).drew.below hb8))
  clear hb8
  obtain ⟨hb0, r0, r1, r2, r3, r4, r5, r6, r7, r8⟩ := HS.out.1
  go_wp2_with fail
  clear r0 r1 r2 r3 r4 r5 r6 r7 r8
  refine (toRules_any p s c l st sk re fe ag _).mono ?_
  rintro e w14 ⟨rfl, hb⟩
  (first | have HS := Lib.hid (HS.out.below hb) | have HS := Lib.hid (HS.out.drew.below hb) | have HS := Lib.hid ((HS.out.below (al1 _ _)).below hb) | have HS := Lib.hid ((HS.out.below (al1 _ _)).drew.below hb)); (first | have W0 := Lib.hid (W0.out.below hb) | have W0 := Lib.hid (W0.out.drew.below hb) | have W0 := Lib.hid ((W0.out.below (al1 _ _)).below hb) | have W0 := Lib.hid ((W0.out.below (al1 _ _)).drew.below hb)); (first | have WG := Lib.hid (WG.out.below hb) | have WG := Lib.hid (WG.out.drew.below hb) | have WG := Lib.hid ((WG.out.below (al1 _ _)).below hb) | have WG := Lib.hid ((WG.out.below (al1 _ _)).drew.below hb))
  clear hb
  go_wp2_with fail
  refine (Hi.out _).mono ?_
  rintro e w15 ⟨f1, l1, j1, f2, l2, j2, rfl, ho, lt1, lt2, hc5, hc6, hb⟩
  (first | have HS := Lib.hid (HS.out.below hb) | have HS := Lib.hid (HS.out.drew.below hb) | have HS := Lib.hid ((HS.out.below (al1 _ _)).below hb) | have HS := Lib.hid ((HS.out.below (al1 _ _)).drew.below hb)); (first | have W0 := Lib.hid (W0.out.below hb) | have W0 := Lib.hid (W0.out.drew.below hb) | have W0 := Lib.hid ((W0.out.below (al1 _ _)).below hb) | have W0 := Lib.hid ((W0.out.below (al1 _ _)).drew.below hb)); (first | have WG := Lib.hid (WG.out.below hb) | have WG := Lib.hid (WG.out.drew.below hb) | have WG := Lib.hid ((WG.out.below (al1 _ _)).below hb) | have WG := Lib.hid ((WG.out.below (al1 _ _)).drew.below hb))
  clear hb
  have O := Lib.hid ho.r
  obtain ⟨hd1, r0, r1, r2⟩ := W0.out.po
  clear ho
  go_wp2_with fail
  clear hd1 r0 r1 r2
  refine (eqP_same _ _ _ _ _ _ _ _ _ _ _ us vs _ (O.out.alloc _) (W0.out.below (al1 _ _)).o.r).mono ?_
  rintro e w16 ⟨rfl, hb8⟩
  (first | have HS := Lib.hid (HS.out.below hb8) | have HS := Lib.hid (HS.out.drew.below hb8) | have HS := Lib.hid ((HS.out.below (al1 _ _)).below hb8) | have HS := Lib.hid ((HS.out.below (al1 _ _)).drew.below hb8)); (first | have WG := Lib.hid (WG.out.below hb8) | have WG := Lib.hid (WG.out.drew.below hb8) | have WG := Lib.hid ((WG.out.below (al1 _ _)).below hb8) | have WG := Lib.hid ((WG.out.below (al1 _ _)).drew.below hb8))
  clear hb8
  obtain ⟨hd2, s0, s1, s2⟩ := WG.out.po
  go_wp2_with fail
  clear hd2 s0 s1 s2
  refine (heldP_any _ _ m1 m2 _ _ 1 pl _ WG.out.o.r (by omega) hm1).mono ?_
  rintro e w17 ⟨rfl, hb8⟩
  rw [← HMG.out]
  (first | have HS := Lib.hid (HS.out.below hb8) | have HS := Lib.hid (HS.out.drew.below hb8) | have HS := Lib.hid ((HS.out.below (al1 _ _)).below hb8) | have HS := Lib.hid ((HS.out.below (al1 _ _)).drew.below hb8))
  clear hb8
  go_wp2_with fail
  go_ret
  exact ⟨rfl, HS.out.2⟩
theorem walk_FnExactPositionAt (x : RV) (hx : x.Fit) (n : Int) (hn : I64 n) (m : Int) (hm : I64 m) {w : World} : Calls Try.prog 6 #[x.val, .int .i64 n, .int .i64 m] w fun e w' => e = .returned (.bool true) ∧ Below w.heap.size w w' :=
  walk0_FnExactPositionAt _ _ _ _ _ _ _ _ _ n m w
namespace fnExactPositionAt
set_option maxHeartbeats 2000000 in
set_option maxRecDepth 100000 in
theorem lifted (os : Os) (started : os.Started) (H : Type) (enc : TypeId × Value → H) :
    ReturnsInHanded {} Try.checked os 6 .any (Rows.fnExactPositionAtSpec.pre6 enc Try.prog Try.f6 Rows.fnExactPositionAtRow.domain false) (Rows.fnExactPositionAtSpec.post enc Try.prog Try.f6 false true false false) := by
  refine returnsInHanded_of_change (C := Try.checked) own started (by kernel_rfl) Try.func6
    (ChangeSpec.witness6 (enc := enc) (C := Try.checked) false ⟨#[], #[.agg #[.int .i64 0, .int .i64 0, .bool false, .bool false, .bool false, .bool false, .bool false, .int .i64 0, .int .i64 0], .int .i64 0, .int .i64 0], []⟩ 8 (by kernel_rfl) (by kernel_rfl) (by kernel_rfl) (by kernel_rfl)) ?_
  intro W base args ds gs before hval0 hW hcnd _
  have hval : ∀ (j : Nat) t v, Try.f6.params[j]? = some t → args[j]? = some v → Value.okWide Try.prog W .any base t v := hval0
  have hW' := hW
  obtain ⟨p, q, hA0, hV, rfl, hfz, hnd⟩ := hW
  have hA : DataW.TrodAll enc Try.prog W 0 (fun _ => true) true Try.f6.params.toList args.toList ds p := hA0
  rw [Try.params6] at hA hval
  obtain ⟨v0, vs0, d0, ds0, p0, q0, hargs, rfl, rfl, h0, r0⟩ := trodAll_cons hA
  obtain ⟨v1, vs1, d1, ds1, p1, q1, rfl, rfl, rfl, h1, r1⟩ := trodAll_cons r0
  obtain ⟨v2, vs2, d2, ds2, p2, q2, rfl, rfl, rfl, h2, r2⟩ := trodAll_cons r1
  obtain ⟨rfl, rfl, rfl⟩ := trodAll_nil r2
  obtain rfl : args = #[v0, v1, v2] := by cases args; simp_all
  obtain ⟨rfl, rfl⟩ := trodVars_none hV
  have k0 := h0
  have lt0 : ∀ x ∈ p0, x.block < W.heap.size := by obtain ⟨m, hm⟩ := k0; exact DataW.trod_lt m _ _ _ hm
  obtain ⟨x0, rfl, w0⟩ := open_rules Try.underlying42 Try.underlying2 Try.underlying4 (by kernel_rfl) (by kernel_rfl) (hval 0 42 v0 rfl rfl) h0
  have k1 := h1
  have lt1 : ∀ x ∈ p1, x.block < W.heap.size := by obtain ⟨m, hm⟩ := k1; exact DataW.trod_lt m _ _ _ hm
  obtain ⟨a1, rfl, -, -, w1⟩ := open_int Try.underlying2 (hval 1 2 v1 rfl rfl) h1
  have k2 := h2
  have lt2 : ∀ x ∈ p2, x.block < W.heap.size := by obtain ⟨m, hm⟩ := k2; exact DataW.trod_lt m _ _ _ hm
  obtain ⟨a2, rfl, -, -, w2⟩ := open_int Try.underlying2 (hval 2 2 v2 rfl rfl) h2
  clear hA0 hval0
  refine (walk_FnExactPositionAt x0 w0 a1 (wf_i64 w1) a2 (wf_i64 w2) (w := W)).mono fun e W' ⟨he, bel⟩ => ?_
  subst he
  exact ⟨_, rfl, _, _, _, [], _, [], hW', trodAll_mk1 (shut_bool Try.underlying4 _), (trodAll_cons_mk (Below.trod laidOut (by kernel_rfl) (of_decide_eq_true (by kernel_rfl)) k0 bel lt0) (trodAll_cons_mk (Below.trod laidOut (by kernel_rfl) (of_decide_eq_true (by kernel_rfl)) k1 bel lt1) (trodAll_cons_mk (Below.trod laidOut (by kernel_rfl) (of_decide_eq_true (by kernel_rfl)) k2 bel lt2) trodAll_mk0))), rfl, bel.frame _, fun h => by cases h⟩

theorem proved : Rows.FnExactPositionAtSaid :=
  OpenClaim.holds_of_wide 6 Try.f6 rfl rfl rfl rfl rfl rfl rfl ⟨rfl, rfl, rfl, rfl, rfl⟩ rfl rfl rfl rfl rfl (by kernel_rfl) Try.func6 (by kernel_rfl)
    (of_decide_eq_true (by kernel_rfl)) (by unfold Func.isWrapper; first | (rw [if_pos (by decide +kernel)]; kernel_rfl) | (rw [if_neg (by decide +kernel)]; exact ⟨rfl, rfl⟩))
    (fun os started H enc _ => lifted os started H enc)
end fnExactPositionAt

set_option maxHeartbeats 8000000 in
set_option maxRecDepth 100000 in
theorem walk0_FnExactAtIndex (p s c l : Int) (st sk re fe ag : Bool) (i : Int) (hi : I64 i) (w : World) :
    Calls Try.prog 9 #[.agg #[.int .i64 p, .int .i64 s, .bool st, .bool sk, .bool re, .bool fe, .bool ag, .int .i64 c, .int .i64 l], .int .i64 i] w fun e w' => e = .returned (.bool true) ∧ Below w.heap.size w w' := by
  have HS := Lib.hid (rb_new p s c l st sk re fe ag w 42)
  obtain ⟨m1, m2, pl, cd, us, vs, hm1, hm2, hs, hi⟩ := at_ex p s c l st sk re fe ag i hi
  have Hs := Lib.hid hs
  have Hi := Lib.hid hi
  clear hs hi
  go_enter Try.func9, Try.ntmps9
  go_wp2_with fail
  refine (toRules_any p s c l st sk re fe ag _).mono ?_
  rintro e w1 ⟨rfl, hb⟩
  have HS := Lib.hid (HS.out.below hb)
  clear hb
  go_wp2_with fail
  refine (Hs.out _).mono ?_
  rintro e w2 ⟨a1, c1, b1, a2, c2, b2, rfl, ho, lt1, lt2, hc1, hc2, hb⟩
  have hq := HS.out.1.1
  have O := Lib.hid (ho.lower (C := w.heap.size + 1) (by omega))
  have HS := Lib.hid (HS.out.below hb)
  clear ho hb hq
  obtain ⟨hb0, r0, r1, r2, r3, r4, r5, r6, r7, r8⟩ := HS.out.1
  go_wp2_with fail
  clear r0 r1 r2 r3 r4 r5 r6 r7 r8
  have W0 := Lib.hid (wat_new 28 pl c1 c2 O.out lt1 lt2 (by omega))
  have HS := Lib.hid (HS.out.below (al1 _ (.cells #[.slice a1 m1 c1, .slice a2 m2 c2, .int .i64 pl] 28)))
  generalize hA : w2.heap.size = A at *
  generalize hW : w2.alloc (.cells #[.slice a1 m1 c1, .slice a2 m2 c2, .int .i64 pl] 28) = w3 at *
  clear hW hA O lt1 lt2
  refine (toRules_any p s c l st sk re fe ag _).mono ?_
  rintro e w4 ⟨rfl, hb⟩
  (first | have HS := Lib.hid (HS.out.below hb) | have HS := Lib.hid (HS.out.drew.below hb) | have HS := Lib.hid ((HS.out.below (al1 _ _)).below hb) | have HS := Lib.hid ((HS.out.below (al1 _ _)).drew.below hb)); (first | have W0 := Lib.hid (W0.out.below hb) | have W0 := Lib.hid (W0.out.drew.below hb) | have W0 := Lib.hid ((W0.out.below (al1 _ _)).below hb) | have W0 := Lib.hid ((W0.out.below (al1 _ _)).drew.below hb))
  clear hb
  go_wp2_with fail
  refine (Hi.out _).mono ?_
  rintro e w5 ⟨d1, e1, k1, d2, e2, k2, rfl, ho, lt1, lt2, hc3, hc4, hb⟩
  have O := Lib.hid (ho.lower (C := A + 1) W0.out.hi_le)
  (first | have HS := Lib.hid (HS.out.below hb) | have HS := Lib.hid (HS.out.drew.below hb) | have HS := Lib.hid ((HS.out.below (al1 _ _)).below hb) | have HS := Lib.hid ((HS.out.below (al1 _ _)).drew.below hb)); (first | have W0 := Lib.hid (W0.out.below hb) | have W0 := Lib.hid (W0.out.drew.below hb) | have W0 := Lib.hid ((W0.out.below (al1 _ _)).below hb) | have W0 := Lib.hid ((W0.out.below (al1 _ _)).drew.below hb))
  clear ho hb
  obtain ⟨hd1, r0, r1, r2⟩ := W0.out.po
  go_wp2_with fail
  clear hd1 r0 r1 r2
  have WG := Lib.hid (wat_new 28 pl e1 e2 O.out lt1 lt2 W0.out.hi_le)
  have HS := Lib.hid (HS.out.below (al1 _ (.cells #[.slice d1 m1 e1, .slice d2 m2 e2, .int .i64 pl] 28)))
  have W0 := Lib.hid (W0.out.below (al1 _ (.cells #[.slice d1 m1 e1, .slice d2 m2 e2, .int .i64 pl] 28)))
  generalize hG : w5.heap.size = G at *
  generalize hW : w5.alloc (.cells #[.slice d1 m1 e1, .slice d2 m2 e2, .int .i64 pl] 28) = w6 at *
  clear hW hG O lt1 lt2
  obtain ⟨MG, hMG⟩ : ∃ M : Int, M = ((1 + m1 + m2 : Nat) : Int) := ⟨_, rfl⟩
  have qg : ¬ MG < 0 := by omega
  have HMG := Lib.hid hMG
  clear hMG
  refine (eqP_same _ _ _ _ _ _ _ _ _ _ _ us vs _ WG.out.o.r W0.out.o.r).mono ?_
  rintro e w11 ⟨rfl, hb8⟩
  (first | have HS := Lib.hid (HS.out.below hb8) | have HS := Lib.hid (HS.out.drew.below hb8) | have HS := Lib.hid ((HS.out.below (al1 _ _)).below hb8) | have HS := Lib.hid ((HS.out.below (al1 _ _)).drew.below hb8)); (first | have W0 := Lib.hid (W0.out.below hb8) | have W0 := Lib.hid (W0.out.drew.below hb8) | have W0 := Lib.hid ((W0.out.below (al1 _ _)).below hb8) | have W0 := Lib.hid ((W0.out.below (al1 _ _)).drew.below hb8)); (first | have WG := Lib.hid (WG.out.below hb8) | have WG := Lib.hid (WG.out.drew.below hb8) | have WG := Lib.hid ((WG.out.below (al1 _ _)).below hb8) | have WG := Lib.hid ((WG.out.below (al1 _ _)).drew.below hb8))
  clear hb8
  obtain ⟨hd2, s0, s1, s2⟩ := WG.out.po
  go_wp2_with fail
  clear hd2 s0 s1 s2
  have hx1 := W0.out.lo_le
  have hx5 := WG.out.o.o1.new
  have hx6 := WG.out.o.o2.new
  have hx7 := WG.out.lt1
  have hx8 := WG.out.lt2
  have hg9 := WG.out.hi_le
  refine (markP_any (A + 1) k1 k2 _ _ m1 m2 e1 e2 1 pl us vs w11 WG.out.o (by omega) ⟨by omega, by omega⟩ (by omega) hm1).mono ?_
  rintro e w12 ⟨rfl, hbb, hpo⟩
  rw [← HMG.out]
  have hv1 : w.heap.size < k1 := by omega
  have hv2 : w.heap.size < k2 := by omega
  have hv3 : A + 1 ≤ k1 := by omega
  have hv4 : A + 1 ≤ k2 := by omega
  have HS := Lib.hid (HS.out.but2 hbb hv1 hv2)
  have W0 := Lib.hid (W0.out.but2 hbb (.inl hv3) (.inl hv4))
  have WG := Lib.hid (WG.out.mark (xs := us) (ys := vs) hbb hpo)
  clear hbb hpo hx5 hx6 hx7 hx8 hg9
  obtain ⟨hd2, s0, s1, s2⟩ := WG.out.po
  go_wp2_with fail
  clear hd2 s0 s1 s2
  refine (heldP_any _ _ m1 m2 _ _ 1 pl _ WG.out.o.r (by omega) hm1).mono ?_
  rintro e w13 ⟨rfl, hb8⟩
  rw [← HMG.out]
  (first | have HS := Lib.hid (HS.out.below hb8) | have HS := Lib.hid (HS.out.drew.below hb8) | have HS := Lib.hid ((HS.out.below (al1 _ _)).below hb8) | have HS := Lib.hid ((HS.out.below (al1 _ _)).drew.below hb8)); (first | have W0 := Lib.hid (W0.out.below hb8) | have W0 := Lib.hid (W0.out.drew.below hb8) | have W0 := Lib.hid ((W0.out.below (al1 _ _)).below hb8) | have W0 := Lib.hid ((W0.out.below (al1 _ _)).drew.below hb8)); (first | have WG := Lib.hid (WG.out.below hb8) | have WG := Lib.hid (WG.out.drew.below hb8) | have WG := Lib.hid ((WG.out.below (al1 _ _)).below hb8) | have WG := Lib.hid ((WG.out.below (al1 _ _)).drew.below hb8))
  clear hb8
  obtain ⟨hb0, r0, r1, r2, r3, r4, r5, r6, r7, r8⟩ := HS.out.1
  go_wp2_with fail
  clear r0 r1 r2 r3 r4 r5 r6 r7 r8
  refine (toRules_any p s c l st sk re fe ag _).mono ?_
  rintro e w14 ⟨rfl, hb⟩
  (first | have HS := Lib.hid (HS.out.below hb) | have HS := Lib.hid (HS.out.drew.below hb) | have HS := Lib.hid ((HS.out.below (al1 _ _)).below hb) | have HS := Lib.hid ((HS.out.below (al1 _ _)).drew.below hb)); (first | have W0 := Lib.hid (W0.out.below hb) | have W0 := Lib.hid (W0.out.drew.below hb) | have W0 := Lib.hid ((W0.out.below (al1 _ _)).below hb) | have W0 := Lib.hid ((W0.out.below (al1 _ _)).drew.below hb)); (first | have WG := Lib.hid (WG.out.below hb) | have WG := Lib.hid (WG.out.drew.below hb) | have WG := Lib.hid ((WG.out.below (al1 _ _)).below hb) | have WG := Lib.hid ((WG.out.below (al1 _ _)).drew.below hb))
  clear hb
  go_wp2_with fail
  refine (Hi.out _).mono ?_
  rintro e w15 ⟨f1, l1, j1, f2, l2, j2, rfl, ho, lt1, lt2, hc5, hc6, hb⟩
  (first | have HS := Lib.hid (HS.out.below hb) | have HS := Lib.hid (HS.out.drew.below hb) | have HS := Lib.hid ((HS.out.below (al1 _ _)).below hb) | have HS := Lib.hid ((HS.out.below (al1 _ _)).drew.below hb)); (first | have W0 := Lib.hid (W0.out.below hb) | have W0 := Lib.hid (W0.out.drew.below hb) | have W0 := Lib.hid ((W0.out.below (al1 _ _)).below hb) | have W0 := Lib.hid ((W0.out.below (al1 _ _)).drew.below hb)); (first | have WG := Lib.hid (WG.out.below hb) | have WG := Lib.hid (WG.out.drew.below hb) | have WG := Lib.hid ((WG.out.below (al1 _ _)).below hb) | have WG := Lib.hid ((WG.out.below (al1 _ _)).drew.below hb))
  clear hb
  have O := Lib.hid ho.r
  obtain ⟨hd1, r0, r1, r2⟩ := W0.out.po
  clear ho
  go_wp2_with fail
  clear hd1 r0 r1 r2
  refine (eqP_same _ _ _ _ _ _ _ _ _ _ _ us vs _ (O.out.alloc _) (W0.out.below (al1 _ _)).o.r).mono ?_
  rintro e w16 ⟨rfl, hb8⟩
  (first | have HS := Lib.hid (HS.out.below hb8) | have HS := Lib.hid (HS.out.drew.below hb8) | have HS := Lib.hid ((HS.out.below (al1 _ _)).below hb8) | have HS := Lib.hid ((HS.out.below (al1 _ _)).drew.below hb8)); (first | have WG := Lib.hid (WG.out.below hb8) | have WG := Lib.hid (WG.out.drew.below hb8) | have WG := Lib.hid ((WG.out.below (al1 _ _)).below hb8) | have WG := Lib.hid ((WG.out.below (al1 _ _)).drew.below hb8))
  clear hb8
  obtain ⟨hd2, s0, s1, s2⟩ := WG.out.po
  go_wp2_with fail
  clear hd2 s0 s1 s2
  refine (heldP_any _ _ m1 m2 _ _ 1 pl _ WG.out.o.r (by omega) hm1).mono ?_
  rintro e w17 ⟨rfl, hb8⟩
  rw [← HMG.out]
  (first | have HS := Lib.hid (HS.out.below hb8) | have HS := Lib.hid (HS.out.drew.below hb8) | have HS := Lib.hid ((HS.out.below (al1 _ _)).below hb8) | have HS := Lib.hid ((HS.out.below (al1 _ _)).drew.below hb8))
  clear hb8
  go_wp2_with fail
  go_ret
  exact ⟨rfl, HS.out.2⟩
theorem walk_FnExactAtIndex (x : RV) (hx : x.Fit) (i : Int) (hi : I64 i) {w : World} : Calls Try.prog 9 #[x.val, .int .i64 i] w fun e w' => e = .returned (.bool true) ∧ Below w.heap.size w w' :=
  walk0_FnExactAtIndex _ _ _ _ _ _ _ _ _ i hi w
namespace fnExactAtIndex
set_option maxHeartbeats 2000000 in
set_option maxRecDepth 100000 in
theorem lifted (os : Os) (started : os.Started) (H : Type) (enc : TypeId × Value → H) :
    ReturnsInHanded {} Try.checked os 9 .any (Rows.fnExactAtIndexSpec.pre6 enc Try.prog Try.f9 Rows.fnExactAtIndexRow.domain false) (Rows.fnExactAtIndexSpec.post enc Try.prog Try.f9 false true false false) := by
  refine returnsInHanded_of_change (C := Try.checked) own started (by kernel_rfl) Try.func9
    (ChangeSpec.witness6 (enc := enc) (C := Try.checked) false ⟨#[], #[.agg #[.int .i64 0, .int .i64 0, .bool false, .bool false, .bool false, .bool false, .bool false, .int .i64 0, .int .i64 0], .int .i64 0], []⟩ 8 (by kernel_rfl) (by kernel_rfl) (by kernel_rfl) (by kernel_rfl)) ?_
  intro W base args ds gs before hval0 hW hcnd _
  have hval : ∀ (j : Nat) t v, Try.f9.params[j]? = some t → args[j]? = some v → Value.okWide Try.prog W .any base t v := hval0
  have hW' := hW
  obtain ⟨p, q, hA0, hV, rfl, hfz, hnd⟩ := hW
  have hA : DataW.TrodAll enc Try.prog W 0 (fun _ => true) true Try.f9.params.toList args.toList ds p := hA0
  rw [Try.params9] at hA hval
  obtain ⟨v0, vs0, d0, ds0, p0, q0, hargs, rfl, rfl, h0, r0⟩ := trodAll_cons hA
  obtain ⟨v1, vs1, d1, ds1, p1, q1, rfl, rfl, rfl, h1, r1⟩ := trodAll_cons r0
  obtain ⟨rfl, rfl, rfl⟩ := trodAll_nil r1
  obtain rfl : args = #[v0, v1] := by cases args; simp_all
  obtain ⟨rfl, rfl⟩ := trodVars_none hV
  have k0 := h0
  have lt0 : ∀ x ∈ p0, x.block < W.heap.size := by obtain ⟨m, hm⟩ := k0; exact DataW.trod_lt m _ _ _ hm
  obtain ⟨x0, rfl, w0⟩ := open_rules Try.underlying42 Try.underlying2 Try.underlying4 (by kernel_rfl) (by kernel_rfl) (hval 0 42 v0 rfl rfl) h0
  have k1 := h1
  have lt1 : ∀ x ∈ p1, x.block < W.heap.size := by obtain ⟨m, hm⟩ := k1; exact DataW.trod_lt m _ _ _ hm
  obtain ⟨a1, rfl, -, -, w1⟩ := open_int Try.underlying2 (hval 1 2 v1 rfl rfl) h1
  clear hA0 hval0
  refine (walk_FnExactAtIndex x0 w0 a1 (wf_i64 w1) (w := W)).mono fun e W' ⟨he, bel⟩ => ?_
  subst he
  exact ⟨_, rfl, _, _, _, [], _, [], hW', trodAll_mk1 (shut_bool Try.underlying4 _), (trodAll_cons_mk (Below.trod laidOut (by kernel_rfl) (of_decide_eq_true (by kernel_rfl)) k0 bel lt0) (trodAll_cons_mk (Below.trod laidOut (by kernel_rfl) (of_decide_eq_true (by kernel_rfl)) k1 bel lt1) trodAll_mk0)), rfl, bel.frame _, fun h => by cases h⟩

theorem proved : Rows.FnExactAtIndexSaid :=
  OpenClaim.holds_of_wide 9 Try.f9 rfl rfl rfl rfl rfl rfl rfl ⟨rfl, rfl, rfl, rfl, rfl⟩ rfl rfl rfl rfl rfl (by kernel_rfl) Try.func9 (by kernel_rfl)
    (of_decide_eq_true (by kernel_rfl)) (by unfold Func.isWrapper; first | (rw [if_pos (by decide +kernel)]; kernel_rfl) | (rw [if_neg (by decide +kernel)]; exact ⟨rfl, rfl⟩))
    (fun os started H enc _ => lifted os started H enc)
end fnExactAtIndex

end Go.Proofs.Ythbgfkklejnhiaa
