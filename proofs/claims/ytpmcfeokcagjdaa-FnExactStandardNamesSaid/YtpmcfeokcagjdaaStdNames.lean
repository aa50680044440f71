/- StandardNames of the reference and of the program return the same names in memory of their own, and so the law on it holds. No conditions. -/
import Derived.Test.YtpmcfeokcagjdaaMark
import Derived.Test.YtpmcfeokcagjdaaDraw
namespace Go.Proofs.Ytpmcfeokcagjdaa
open Go.Joins Go.ChangeShapes Go.WideShapes Go.ChangeAt Go.RowKit Go.Deep
open Go.ChangeMaps (open_string shut_string)
set_option linter.unusedVariables false

/-- A new slice of four names. -/
def NamesP (w : World) (e : Ending) (w' : World) : Prop :=
  e = .returned (.slice (some ⟨w.heap.size, 0, none⟩) 4 4) ∧ Below w.heap.size w w' ∧ w.heap.size < w'.heap.size ∧ RowS w' (some ⟨w.heap.size, 0, none⟩) names4 ∧ ∀ o, w'.frozen? ⟨w.heap.size, o, none⟩ = false
theorem spec_names (w : World) : Calls Try.prog 30 #[] w (NamesP w) := by
  go_enter Try.func30, Try.ntmps30
  go_wp2
  go_ret
  refine ⟨rfl, (Below.refl _ _).alloc (Nat.le_refl _) _, by simp, ⟨by decide, .inr ⟨_, 0, rfl, by simp, ?_⟩⟩, fun o => by go_simp⟩
  intro i t ht
  have hi : i < 4 := (List.getElem?_eq_some_iff.1 ht).1
  match i, hi with
  | 0, _ => cases ht; go_simp
  | 1, _ => cases ht; go_simp
  | 2, _ => cases ht; go_simp
  | 3, _ => cases ht; go_simp
theorem impl_names (w : World) : Calls Try.prog 31 #[] w (NamesP w) := by
  go_enter Try.func31, Try.ntmps31
  go_wp2
  go_ret
  refine ⟨rfl, (Below.refl _ _).alloc (Nat.le_refl _) _, by simp, ⟨by decide, .inr ⟨_, 0, rfl, by simp, ?_⟩⟩, fun o => by go_simp⟩
  intro i t ht
  have hi : i < 4 := (List.getElem?_eq_some_iff.1 ht).1
  match i, hi with
  | 0, _ => cases ht; go_simp
  | 1, _ => cases ht; go_simp
  | 2, _ => cases ht; go_simp
  | 3, _ => cases ht; go_simp

set_option maxHeartbeats 2000000 in
theorem walk_FnExactStandardNames (w : World) : Calls Try.prog 7 #[] w fun e w' => e = .returned (.bool true) ∧ Below w.heap.size w w' := by
  go_enter Try.func7, Try.ntmps7
  go_wp2_with fail
  refine (spec_names _).mono ?_
  rintro e w1 ⟨rfl, b1, l1, r1, -⟩
  go_wp2_with fail
  refine (impl_names _).mono ?_
  rintro e w2 ⟨rfl, b2, l2, r2, f2⟩
  have B2 : Below w.heap.size w w2 := b1.trans (b2.mono (by omega))
  have R1 := Lib.hid (r1.below b2)
  have R2 := Lib.hid r2
  have F2 := Lib.hid f2
  clear r1 r2 f2
  go_wp2_with fail
  refine (eq_same _ _ _ _ 4 names4 _ rfl R2.out R1.out).mono ?_
  rintro e w3 ⟨rfl, b3⟩
  have B3 : Below w.heap.size w w3 := B2.trans (b3.mono (by omega))
  have l3 := b3.size
  go_wp2_with fail
  refine (marks_any w1.heap.size _ 4 4 1 names4 _ rfl (R2.out.below b3) (fun g o h => by cases h; rfl) (fun o => by rw [b3.frozen (p := ⟨w1.heap.size, o, none⟩) l2]; exact F2.out o) (by decide) (by decide)).mono ?_
  rintro e w4 ⟨rfl, b4, r4⟩
  have l4 := b4.size
  have B4 : Below w.heap.size w w4 := But.below B3 b4 (by omega) (by omega)
  have R4 := Lib.hid r4
  have R14 := Lib.hid ((R1.out.below b3).but b4 (fun g o h => by cases h; omega))
  clear r4
  go_wp2_with fail
  refine (held_any _ 4 4 1 _ R4.out (by decide) (by decide)).mono ?_
  rintro e w5 ⟨rfl, b5⟩
  have l5 := b5.size
  have B5 : Below w.heap.size w w5 := B4.trans (b5.mono (by omega))
  go_wp2_with fail
  refine (impl_names _).mono ?_
  rintro e w6 ⟨rfl, b6, l6, r6, -⟩
  have B6 : Below w.heap.size w w6 := B5.trans (b6.mono (by omega))
  have R6 := Lib.hid r6
  clear r6
  go_wp2_with fail
  refine (eq_same _ _ _ _ 4 names4 _ rfl R6.out ((R14.out.below b5).below b6)).mono ?_
  rintro e w7 ⟨rfl, b7⟩
  have l7 := b7.size
  have B7 : Below w.heap.size w w7 := B6.trans (b7.mono (by omega))
  go_wp2_with fail
  refine (held_any _ 4 4 1 _ (((R4.out.below b5).below b6).below b7) (by decide) (by decide)).mono ?_
  rintro e w8 ⟨rfl, b8⟩
  have B8 : Below w.heap.size w w8 := B7.trans (b8.mono (by omega))
  go_wp2_with fail
  go_ret
  exact ⟨rfl, B8⟩
namespace fnExactStandardNames
set_option maxRecDepth 100000 in
theorem lifted (os : Os) (started : os.Started) (H : Type) (enc : TypeId × Value → H) :
    ReturnsInHanded {} Try.checked os 7 .any (Rows.fnExactStandardNamesSpec.pre6 enc Try.prog Try.f7 Rows.fnExactStandardNamesRow.domain false) (Rows.fnExactStandardNamesSpec.post enc Try.prog Try.f7 false true false false) := by
  refine returnsInHanded_of_change (C := Try.checked) own started (by kernel_rfl) Try.func7
    (ChangeSpec.witness6 (enc := enc) (C := Try.checked) false ⟨#[], #[], []⟩ 8 (by kernel_rfl) (by kernel_rfl) (by kernel_rfl) (by kernel_rfl)) ?_
  intro W base args ds gs before hval0 hW hcnd _
  have hval : ∀ (j : Nat) t v, Try.f7.params[j]? = some t → args[j]? = some v → Value.okWide Try.prog W .any base t v := hval0
  have hW' := hW
  obtain ⟨p, q, hA0, hV, rfl, hfz, hnd⟩ := hW
  have hA : DataW.TrodAll enc Try.prog W 0 (fun _ => true) true Try.f7.params.toList args.toList ds p := hA0
  rw [Try.params7] at hA hval
  obtain ⟨rfl, rfl, rfl⟩ := trodAll_none hA
  obtain ⟨rfl, rfl⟩ := trodVars_none hV
  clear hA0 hval0
  refine (walk_FnExactStandardNames  (w := W)).mono fun e W' ⟨he, bel⟩ => ?_
  subst he
  exact ⟨_, rfl, _, _, _, [], _, [], hW', trodAll_mk1 (shut_bool Try.underlying4 _), rfl, rfl, bel.frame _, fun h => by cases h⟩

theorem proved : Rows.FnExactStandardNamesSaid :=
  OpenClaim.holds_of_wide 7 Try.f7 rfl rfl rfl rfl rfl rfl rfl ⟨rfl, rfl, rfl, rfl, rfl⟩ rfl rfl rfl rfl rfl (by kernel_rfl) Try.func7 (by kernel_rfl)
    (of_decide_eq_true (by kernel_rfl)) (by unfold Func.isWrapper; first | (rw [if_pos (by decide +kernel)]; kernel_rfl) | (rw [if_neg (by decide +kernel)]; exact ⟨rfl, rfl⟩))
    (fun os started H enc _ => lifted os started H enc)
end fnExactStandardNames

end Go.Proofs.Ytpmcfeokcagjdaa
