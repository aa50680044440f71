/- SetField of the reference and of the program return the same, and so the law on it holds. No conditions. -/
import Derived.Test.YtihbaehfgjkajaaDoorSetField
import Derived.Test.YtihbaehfgjkajaaDoorSetSpec
import Derived.Test.YtihbaehfgjkajaaDoorStd
import Derived.Test.YtihbaehfgjkajaaDoorCards
import Derived.Test.YtihbaehfgjkajaaDoorTie
import Derived.Lay
import Derived.OpenVars
import Derived.Stop.Joined
import Derived.MakeChecks
import Derived.LaidMore
import Derived.SevenTiedAt
namespace Go.Proofs.YtihbaehfgjkajaaDoor
open Go.Joins Go.ChangeShapes Go.WideShapes Go.ChangeAt Go.RowKit Go.Deep
open Go.ChangeMaps (open_string shut_string)
set_option linter.unusedVariables false

theorem laid_FnExactSetField {W : World} (h : laidMet Tryd.prog Rows.fnExactSetFieldRow.laid W) : True := trivial
set_option maxHeartbeats 2000000 in
theorem walk_FnExactSetField (r : RV) (_hr : r.Fit) (s' : ByteArray) (hs : s'.size ≤ maxLen) (v : Int) (_hv : I64 v) (w : World) (_hL : True) : Calls Tryd.prog 6 #[r.val, .string s', .int .i64 v] w fun e w' => e = .returned (.bool true) ∧ Below w.heap.size w w' := by
  clear _hr _hv
  unfold maxLen at hs
  have RA := Lib.hid (rv_new r w 44)
  have HB0 := Lib.hid ((Below.refl w.heap.size w).alloc (Nat.le_refl _) (.cells #[.int .i64 r.p, .int .i64 r.s, .bool r.st, .bool r.sk, .bool r.re, .bool r.fe, .bool r.ag, .int .i64 r.c, .int .i64 r.l] 44))
  have hi0 : ∀ w, Calls Tryd.prog 12 #[.agg #[.int .i64 r.p, .int .i64 r.s, .bool r.st, .bool r.sk, .bool r.re, .bool r.fe, .bool r.ag, .int .i64 r.c, .int .i64 r.l], .string s', .int .i64 v] w fun e w' => e = .returned (.tuple #[(setV r (idxL flds s' 0) v).1.val, .int .i64 (setV r (idxL flds s' 0) v).2]) ∧ Below w.heap.size w w' := impl_setField r s' v
  have hs0 : ∀ w, Calls Tryd.prog 13 #[.agg #[.int .i64 r.p, .int .i64 r.s, .bool r.st, .bool r.sk, .bool r.re, .bool r.fe, .bool r.ag, .int .i64 r.c, .int .i64 r.l], .string s', .int .i64 v] w fun e w' => e = .returned (.tuple #[(setV r (idxL flds s' 0) v).1.val, .int .i64 (setV r (idxL flds s' 0) v).2]) ∧ Below w.heap.size w w' := spec_setField r s' v
  obtain ⟨⟨x, k⟩, hx⟩ : ∃ y, setV r (idxL flds s' 0) v = y := ⟨_, rfl⟩
  rw [hx] at hi0 hs0
  have HI := Lib.hid hi0
  have HS := Lib.hid hs0
  clear hi0 hs0 hx
  unfold RV.val at HI HS ⊢
  by_cases hl : 1048576 < s'.size
  · go_enter Tryd.func6, Tryd.ntmps6
    go_wp2
    go_ret
    exact ⟨rfl, HB0.out⟩
  · go_enter Tryd.func6, Tryd.ntmps6
    go_wp2_with fail
    refine (toRules_any r.p r.s r.c r.l r.st r.sk r.re r.fe r.ag _).mono ?_
    rintro e w1 ⟨rfl, hb1⟩
    have RA1 := RulesAt.below RA.out hb1
    have B1 := HB0.out.trans (hb1.mono (by simp))
    go_wp2_with fail
    refine (HS.out _).mono ?_
    rintro e w2 ⟨rfl, hb2⟩
    have RA2 := RulesAt.below RA1 hb2
    have B2 := B1.trans (hb2.mono B1.size)
    have RX := rv_new x w2 25
    have BX := B2.alloc B2.size (.cells #[.int .i64 x.p, .int .i64 x.s, .bool x.st, .bool x.sk, .bool x.re, .bool x.fe, .bool x.ag, .int .i64 x.c, .int .i64 x.l] 25)
    obtain ⟨hbk, d0, d1, d2, d3, d4, d5, d6, d7, d8⟩ := RulesAt.below RA2 ((Below.refl _ _).alloc (Nat.le_refl _) (.cells #[.int .i64 x.p, .int .i64 x.s, .bool x.st, .bool x.sk, .bool x.re, .bool x.fe, .bool x.ag, .int .i64 x.c, .int .i64 x.l] 25))
    clear RA1 RA2
    have RX := Lib.hid RX
    go_wp2_with fail
    refine (toRules_any r.p r.s r.c r.l r.st r.sk r.re r.fe r.ag _).mono ?_
    rintro e w3 ⟨rfl, hb3⟩
    have RX3 := Lib.hid (RulesAt.below RX.out hb3)
    have B3 := BX.trans (hb3.mono BX.size)
    clear d0 d1 d2 d3 d4 d5 d6 d7 d8
    go_wp2_with fail
    refine (HI.out _).mono ?_
    rintro e w4 ⟨rfl, hb4⟩
    have B4 := B3.trans (hb4.mono B3.size)
    have BY := B4.alloc B4.size (.cells #[.int .i64 x.p, .int .i64 x.s, .bool x.st, .bool x.sk, .bool x.re, .bool x.fe, .bool x.ag, .int .i64 x.c, .int .i64 x.l] 25)
    obtain ⟨hbk, d0, d1, d2, d3, d4, d5, d6, d7, d8⟩ := RulesAt.below (RulesAt.below RX3.out hb4) ((Below.refl _ _).alloc (Nat.le_refl _) (.cells #[.int .i64 x.p, .int .i64 x.s, .bool x.st, .bool x.sk, .bool x.re, .bool x.fe, .bool x.ag, .int .i64 x.c, .int .i64 x.l] 25))
    go_wp2_with fail
    refine (eqRules_same x.p x.s x.c x.l x.st x.sk x.re x.fe x.ag _).mono ?_
    rintro e w5 ⟨rfl, hb5⟩
    have B5 := BY.trans (hb5.mono BY.size)
    go_wp2_with fail
    go_ret
    exact ⟨rfl, B5⟩
namespace fnExactSetField
set_option maxRecDepth 100000 in
theorem lifted (os : Os) (started : os.Started) (H : Type) (enc : TypeId × Value → H) :
    ReturnsInHanded {} Tryd.checked os 6 .any (fun w args => (Rows.fnExactSetFieldSpec.pre enc Tryd.prog Tryd.f6 [] false w args ∧ laidMetH Tryd.prog Rows.fnExactSetFieldRow.laid w) ∧ sizedMet enc Tryd.prog Tryd.f6 (OpenSpec.ofChange Rows.fnExactSetFieldSpec) false w args) (Rows.fnExactSetFieldSpec.post enc Tryd.prog Tryd.f6 false true false false) := by
  refine returnsInHanded_of_change_and (C := Tryd.checked) (X := fun w _ => laidMetH Tryd.prog Rows.fnExactSetFieldRow.laid w) (fun _ _ _ hh h => h.of_heap hh) own started (by kernel_rfl) Tryd.func6
    (ChangeSpec.witness_shaped (enc := enc) (C := Tryd.checked) (os := os) (X := fun w _ => laidMetH Tryd.prog Rows.fnExactSetFieldRow.laid w) false (World.laidAll Tryd.prog os Rows.fnExactSetFieldRow.laid) #[.agg #[.int .i64 0, .int .i64 0, .bool false, .bool false, .bool false, .bool false, .bool false, .int .i64 0, .int .i64 0], .string ByteArray.empty, .int .i64 0] 8 (World.laidAll_os _ _ _)
      (World.shaped_of_ZipB (by kernel_rfl) (by kernel_rfl)) (by kernel_rfl) (by kernel_rfl) (by kernel_rfl)
      (by rw [MakeChecks.laidMetH_plain _ _ _ (by kernel_rfl)]; exact laidMet_laidAll _ (by kernel_rfl) (by kernel_rfl))) ?_
  intro W base args ds gs before hval0 hW _ _ hL0 _
  have hL : laidMet Tryd.prog Rows.fnExactSetFieldRow.laid W := by rw [← MakeChecks.laidMetH_plain _ _ _ (by kernel_rfl)]; exact hL0
  have hval : ∀ (j : Nat) t v, Tryd.f6.params[j]? = some t → args[j]? = some v → Value.okWide Tryd.prog W .any base t v := hval0
  have hW' := hW
  obtain ⟨p, q, hA0, hV, rfl, hfz, hnd⟩ := hW
  have hA : DataW.TrodAll enc Tryd.prog W 0 (fun _ => true) true Tryd.f6.params.toList args.toList ds p := hA0
  rw [Tryd.params6] at hA hval
  obtain ⟨v0, vs0, d0, ds0, p0, q0, hargs, rfl, rfl, h0, r0⟩ := trodAll_cons hA
  obtain ⟨v1, vs1, d1, ds1, p1, q1, rfl, rfl, rfl, h1, r1⟩ := trodAll_cons r0
  obtain ⟨v2, vs2, d2, ds2, p2, q2, rfl, rfl, rfl, h2, r2⟩ := trodAll_cons r1
  obtain ⟨rfl, rfl, rfl⟩ := trodAll_nil r2
  obtain rfl : args = #[v0, v1, v2] := by cases args; simp_all
  have hV1 := hV
  obtain ⟨g0, g1, rfl⟩ := vars_2 hV
  have k0 := h0
  have lt0 : ∀ x ∈ p0, x.block < W.heap.size := by obtain ⟨m, hm⟩ := k0; exact DataW.trod_lt m _ _ _ hm
  obtain ⟨x0, rfl, w0⟩ := open_rules Tryd.underlying44 Tryd.underlying2 Tryd.underlying4 (by kernel_rfl) (by kernel_rfl) (hval 0 44 v0 rfl rfl) h0
  have k1 := h1
  have lt1 : ∀ x ∈ p1, x.block < W.heap.size := by obtain ⟨m, hm⟩ := k1; exact DataW.trod_lt m _ _ _ hm
  obtain ⟨a1, rfl, -, -, w1⟩ := open_string Tryd.underlying9 (hval 1 9 v1 rfl rfl) h1
  have k2 := h2
  have lt2 : ∀ x ∈ p2, x.block < W.heap.size := by obtain ⟨m, hm⟩ := k2; exact DataW.trod_lt m _ _ _ hm
  obtain ⟨a2, rfl, -, -, w2⟩ := open_int Tryd.underlying2 (hval 2 2 v2 rfl rfl) h2
  clear hA0 hval0
  refine (walk_FnExactSetField x0 w0 a1 w1 a2 (wf_i64 w2) (w := W) (laid_FnExactSetField hL)).mono fun e W' ⟨he, bel⟩ => ?_
  subst he
  exact ⟨_, rfl, _, _, _, [], _, _, hW', trodAll_mk1 (shut_bool Tryd.underlying4 _), (trodAll_cons_mk (Below.trod laidOut (by kernel_rfl) (of_decide_eq_true (by kernel_rfl)) k0 bel lt0) (trodAll_cons_mk (Below.trod laidOut (by kernel_rfl) (of_decide_eq_true (by kernel_rfl)) k1 bel lt1) (trodAll_cons_mk (Below.trod laidOut (by kernel_rfl) (of_decide_eq_true (by kernel_rfl)) k2 bel lt2) trodAll_mk0))), Below.trodVars laidOut bel (by kernel_rfl) hV1, bel.frame _, fun h => by cases h⟩

theorem proved : Rows.FnExactSetFieldSaid :=
  OpenClaim.holds_of_wide 6 Tryd.f6 rfl rfl rfl rfl rfl rfl rfl ⟨rfl, rfl, rfl, rfl, rfl⟩ rfl rfl rfl rfl rfl (by kernel_rfl) Tryd.func6 (by kernel_rfl)
    (of_decide_eq_true (by kernel_rfl)) (by unfold Func.isWrapper; first | (rw [if_pos (by decide +kernel)]; kernel_rfl) | (rw [if_neg (by decide +kernel)]; exact ⟨rfl, rfl⟩))
    (fun os started H enc _ => lifted os started H enc)
theorem card_holds : Rows.FnExactSetFieldCardSaid :=
  Claim7.holds_tied_plain_at .later [] [.data, .data, .data, .sentinel, .sentinel, .sentinel, .sentinel] true (true, "e75c25b7d600ccc464b435a9159048a61288eee4c0a175dc15596e67716cecfd") true
    proved (fun _ h => by cases h) (by kernel_rfl) (fun _ h => by cases h) fnExactSetField_row_tie rfl ⟨rfl, rfl⟩ (by kernel_rfl) rfl
    (fun f fn hf hfn => by
      obtain rfl : f = 6 := Option.some.inj ((show Tryd.prog.funcNamed "loop.example/g00926/laws.FnExactSetField" = some 6 by kernel_rfl).symm.trans hf) |>.symm
      obtain rfl : fn = Tryd.f6 := (Option.some.inj (Tryd.func6.symm.trans hfn)).symm
      exact ⟨by kernel_rfl, fun j t ht => by
        rw [Tryd.params6] at ht
        have hm : t ∈ [44, 9, 2] := by simpa using Array.mem_of_getElem? ht
        have hall : ([44, 9, 2].all fun u => !Tryd.prog.wantsStandIn u) = true := by kernel_rfl
        exact (show Tryd.prog.wantsStandIn t = false by simpa using List.all_eq_true.1 hall t hm)⟩)
    (by kernel_rfl)
end fnExactSetField

end Go.Proofs.YtihbaehfgjkajaaDoor
