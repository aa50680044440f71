/- FieldNames of the reference and of the program return the same names in memory of their own, and so the law on it holds. No conditions. -/
import Derived.Test.YtihbaehfgjkajaaDoorRes
import Derived.Test.YtihbaehfgjkajaaDoorCards
import Derived.Test.YtihbaehfgjkajaaDoorTie
import Derived.Lay
import Derived.OpenVars
import Derived.Stop.Joined
import Derived.MakeChecks
import Derived.LaidMore
import Derived.SevenTiedAt
namespace Go.Proofs.YtihbaehfgjkajaaDoor
open Go.Joins Go.ChangeShapes Go.WideShapes Go.ChangeAt Go.RowKit Go.Deep
open Go.ChangeMaps (open_string shut_string)
set_option linter.unusedVariables false

theorem laid_FnExactFieldNames {W : World} (h : laidMet Tryd.prog Rows.fnExactFieldNamesRow.laid W) : True := trivial
set_option maxHeartbeats 2000000 in
theorem walk_FnExactFieldNames (w : World) (_hL : True) : Calls Tryd.prog 4 #[] w fun e w' => e = .returned (.bool true) ∧ Below w.heap.size w w' := by
  go_enter Tryd.func4, Tryd.ntmps4
  go_wp2_with fail
  refine (flds_any _).mono ?_
  rintro e w1 ⟨rfl, b1, l1, r1⟩
  go_wp2_with fail
  refine (impl_fnames _).mono ?_
  rintro e w2 ⟨v, rfl, o2, b2⟩
  obtain ⟨a2, c2, k2, rfl, O2⟩ := out_own o2 rfl (by decide) b2.size
  have hk2 := O2.new
  have hz2 := b2.size
  have fr2 := (O2.free (by decide))
  have B2 : Below w.heap.size w w2 := b1.trans (b2.mono (by omega))
  have R1 := Lib.hid (row_of_t (r1.below b2) (by decide))
  have R2 := Lib.hid O2.row
  have A2 := Lib.hid O2.at_b
  have F2 := Lib.hid fr2.2
  have l2 := fr2.1
  clear r1 o2 O2 fr2
  go_wp2_with fail
  refine (eq_same _ _ _ _ 9 flds _ rfl R2.out R1.out).mono ?_
  rintro e w3 ⟨rfl, b3⟩
  have B3 : Below w.heap.size w w3 := B2.trans (b3.mono (by omega))
  have l3 := b3.size
  go_wp2_with fail
  refine (marks_opt k2 _ c2 9 1 flds _ rfl (R2.out.below b3) A2.out (fun _ o => by rw [b3.frozen (p := ⟨k2, o, none⟩) l2]; exact F2.out o) (by decide) (by decide)).mono ?_
  rintro e w4 ⟨rfl, b4, r4⟩
  have l4 := b4.size
  have B4 : Below w.heap.size w w4 := But.below B3 b4 (by omega) (by omega)
  have R4 := Lib.hid r4
  have R14 := Lib.hid ((R1.out.below b3).but b4 (fun g o h => by cases h; omega))
  clear r4
  go_wp2_with fail
  refine (held_any _ c2 9 1 _ R4.out (by decide) (by decide)).mono ?_
  rintro e w5 ⟨rfl, b5⟩
  have l5 := b5.size
  have B5 : Below w.heap.size w w5 := B4.trans (b5.mono (by omega))
  go_wp2_with fail
  refine (impl_fnames _).mono ?_
  rintro e w6 ⟨v, rfl, o6, b6⟩
  obtain ⟨a6, c6, k6, rfl, O6⟩ := out_own o6 rfl (by decide) b6.size
  have hz6 := b6.size
  have B6 : Below w.heap.size w w6 := B5.trans (b6.mono (by omega))
  have R6 := Lib.hid O6.row
  clear o6 O6
  go_wp2_with fail
  refine (eq_same _ _ _ _ 9 flds _ rfl R6.out ((R14.out.below b5).below b6)).mono ?_
  rintro e w7 ⟨rfl, b7⟩
  have l7 := b7.size
  have B7 : Below w.heap.size w w7 := B6.trans (b7.mono (by omega))
  go_wp2_with fail
  refine (held_any _ c2 9 1 _ (((R4.out.below b5).below b6).below b7) (by decide) (by decide)).mono ?_
  rintro e w8 ⟨rfl, b8⟩
  have B8 : Below w.heap.size w w8 := B7.trans (b8.mono (by omega))
  go_wp2_with fail
  go_ret
  exact ⟨rfl, B8⟩
namespace fnExactFieldNames
set_option maxRecDepth 100000 in
theorem lifted (os : Os) (started : os.Started) (H : Type) (enc : TypeId × Value → H) :
    ReturnsInHanded {} Tryd.checked os 4 .any (fun w args => (Rows.fnExactFieldNamesSpec.pre enc Tryd.prog Tryd.f4 [] false w args ∧ laidMetH Tryd.prog Rows.fnExactFieldNamesRow.laid w) ∧ sizedMet enc Tryd.prog Tryd.f4 (OpenSpec.ofChange Rows.fnExactFieldNamesSpec) false w args) (Rows.fnExactFieldNamesSpec.post enc Tryd.prog Tryd.f4 false true false false) := by
  refine returnsInHanded_of_change_and (C := Tryd.checked) (X := fun w _ => laidMetH Tryd.prog Rows.fnExactFieldNamesRow.laid w) (fun _ _ _ hh h => h.of_heap hh) own started (by kernel_rfl) Tryd.func4
    (ChangeSpec.witness_shaped (enc := enc) (C := Tryd.checked) (os := os) (X := fun w _ => laidMetH Tryd.prog Rows.fnExactFieldNamesRow.laid w) false (World.laidAll Tryd.prog os Rows.fnExactFieldNamesRow.laid) #[] 8 (World.laidAll_os _ _ _)
      (World.shaped_of_ZipB (by kernel_rfl) (by kernel_rfl)) (by kernel_rfl) (by kernel_rfl) (by kernel_rfl)
      (by rw [MakeChecks.laidMetH_plain _ _ _ (by kernel_rfl)]; exact laidMet_laidAll _ (by kernel_rfl) (by kernel_rfl))) ?_
  intro W base args ds gs before hval0 hW _ _ hL0 _
  have hL : laidMet Tryd.prog Rows.fnExactFieldNamesRow.laid W := by rw [← MakeChecks.laidMetH_plain _ _ _ (by kernel_rfl)]; exact hL0
  have hval : ∀ (j : Nat) t v, Tryd.f4.params[j]? = some t → args[j]? = some v → Value.okWide Tryd.prog W .any base t v := hval0
  have hW' := hW
  obtain ⟨p, q, hA0, hV, rfl, hfz, hnd⟩ := hW
  have hA : DataW.TrodAll enc Tryd.prog W 0 (fun _ => true) true Tryd.f4.params.toList args.toList ds p := hA0
  rw [Tryd.params4] at hA hval
  obtain ⟨rfl, rfl, rfl⟩ := trodAll_none hA
  have hV1 := hV
  obtain ⟨g0, g1, rfl⟩ := vars_2 hV
  clear hA0 hval0
  refine (walk_FnExactFieldNames  (w := W) (laid_FnExactFieldNames hL)).mono fun e W' ⟨he, bel⟩ => ?_
  subst he
  exact ⟨_, rfl, _, _, _, [], _, _, hW', trodAll_mk1 (shut_bool Tryd.underlying4 _), rfl, Below.trodVars laidOut bel (by kernel_rfl) hV1, bel.frame _, fun h => by cases h⟩

theorem proved : Rows.FnExactFieldNamesSaid :=
  OpenClaim.holds_of_wide 4 Tryd.f4 rfl rfl rfl rfl rfl rfl rfl ⟨rfl, rfl, rfl, rfl, rfl⟩ rfl rfl rfl rfl rfl (by kernel_rfl) Tryd.func4 (by kernel_rfl)
    (of_decide_eq_true (by kernel_rfl)) (by unfold Func.isWrapper; first | (rw [if_pos (by decide +kernel)]; kernel_rfl) | (rw [if_neg (by decide +kernel)]; exact ⟨rfl, rfl⟩))
    (fun os started H enc _ => lifted os started H enc)
theorem card_holds : Rows.FnExactFieldNamesCardSaid :=
  Claim7.holds_tied_plain_at .later [] [.data, .data, .data, .sentinel, .sentinel, .sentinel, .sentinel] true (true, "e75c25b7d600ccc464b435a9159048a61288eee4c0a175dc15596e67716cecfd") true
    proved (fun _ h => by cases h) (by kernel_rfl) (fun _ h => by cases h) fnExactFieldNames_row_tie rfl ⟨rfl, rfl⟩ (by kernel_rfl) rfl
    (fun f fn hf hfn => by
      obtain rfl : f = 4 := Option.some.inj ((show Tryd.prog.funcNamed "loop.example/g00926/laws.FnExactFieldNames" = some 4 by kernel_rfl).symm.trans hf) |>.symm
      obtain rfl : fn = Tryd.f4 := (Option.some.inj (Tryd.func4.symm.trans hfn)).symm
      exact ⟨by kernel_rfl, fun j t ht => by
        rw [Tryd.params4] at ht
        have hm : t ∈ [] := by simpa using Array.mem_of_getElem? ht
        have hall : ([].all fun u => !Tryd.prog.wantsStandIn u) = true := by kernel_rfl
        exact (show Tryd.prog.wantsStandIn t = false by simpa using List.all_eq_true.1 hall t hm)⟩)
    (by kernel_rfl)
end fnExactFieldNames

end Go.Proofs.YtihbaehfgjkajaaDoor
