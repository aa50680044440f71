/- The law on MovesText: for all arguments the program answers as the reference and leaves its argument alone (over the table of powers of ten as the library's text lays it). No conditions. -/
import Derived.Test.YtmoilphgibigkaaDoorMtI
import Derived.Test.YtmoilphgibigkaaDoorMtS
import Derived.Test.YtmoilphgibigkaaDoorOpenI
namespace Go.Proofs.YtmoilphgibigkaaDoor
open Go.Joins Go.ChangeShapes Go.WideShapes Go.ChangeAt Go.RowKit Go.Deep
set_option linter.unusedVariables false

theorem laid_FnExactMovesText {W : World} (h : laidMet Tryd.prog Rows.fnExactMovesTextRow.laid W) : PowTab W :=
  pow_of_reads (Lib.laidMet.reads h (.tail _ (.tail _ (.head _))))
set_option maxHeartbeats 4000000 in
theorem walk_FnExactMovesText (q : IV) {w : World} (hq : q.In w) (hL : PowTab w) : Calls Tryd.prog 3 #[q.val] w fun e w' => e = .returned (.bool true) ∧ Below w.heap.size w w' := by
  obtain ⟨a, n, c, xs⟩ := q
  obtain ⟨h1, h2, h3⟩ := hq
  show Calls Tryd.prog 3 #[.slice a n c] w _
  change xs.length = n at h2
  change n ≤ _ at h3
  have HL := Lib.hid hL
  clear hL
  by_cases hsz : (1048576 : Int) < (n : Int)
  · clear h1 h2
    go_enter Tryd.func3, Tryd.ntmps3
    go_wp2_with fail
    go_ret
    exact ⟨rfl, Below.refl _ _⟩
  · have H := Lib.hid (h1 (by show xs.length ≤ _; omega))
    have Hn := Lib.hid h2
    have h2' := h2
    have HT := Lib.hid (fun (u : World) (hu : Below w.heap.size w u) => toRow_any a c n xs u h2' (H.out.below hu))
    have hn : n ≤ 1048576 := by omega
    clear h1 h2 h2'
    obtain ⟨v, hv⟩ : ∃ v : ByteArray, (⟨(mtV xs).toArray⟩ : ByteArray) = v := ⟨_, rfl⟩
    have Hv := Lib.hid hv
    clear hv
    go_enter Tryd.func3, Tryd.ntmps3
    go_wp2_with fail
    refine (HT.out _ (Below.refl _ _)).mono ?_
    rintro e w1 ⟨g1, rfl, o1, l1, b1⟩
    have B1 := Lib.hid b1
    have R1 := Lib.hid o1.row
    clear b1 o1
    go_wp2_with fail
    refine (specMt_any _ _ _ xs _ Hn.out R1.out).mono ?_
    rintro e w2 ⟨rfl, b2⟩
    rw [Hv.out]
    have B2 := Lib.hid (B1.out.trans (b2.mono B1.out.size))
    clear b2
    go_wp2_with fail
    refine (HT.out _ B2.out).mono ?_
    rintro e w3 ⟨g3, rfl, o3, l3, b3⟩
    have B3 := Lib.hid (B2.out.trans (b3.mono B2.out.size))
    have R3 := Lib.hid o3.row
    clear b3 o3
    go_wp2_with fail
    refine (implMt_any _ _ _ xs _ Hn.out R3.out (HL.out.below B3.out)).mono ?_
    rintro e w4 ⟨rfl, b4⟩
    rw [Hv.out]
    have B4 := Lib.hid (B3.out.trans (b4.mono B3.out.size))
    have R4 := Lib.hid (R3.out.below b4)
    clear b4
    go_wp2_with fail
    refine (HT.out _ B4.out).mono ?_
    rintro e w5 ⟨g5, rfl, o5, l5, b5⟩
    have B5 := Lib.hid (B4.out.trans (b5.mono B4.out.size))
    have R5 := Lib.hid o5.row
    have R6 := Lib.hid (R4.out.below b5)
    clear b5 o5
    go_wp2_with fail
    refine (eqN_same _ _ _ _ _ xs _ Hn.out R6.out R5.out).mono ?_
    rintro e w6 ⟨rfl, b6⟩
    have B6 := Lib.hid (B5.out.trans (b6.mono B5.out.size))
    clear b6
    go_wp2_with fail
    go_ret
    exact ⟨rfl, B6.out⟩
namespace fnExactMovesText
set_option maxHeartbeats 2000000 in
set_option maxRecDepth 100000 in
theorem lifted (os : Os) (started : os.Started) (H : Type) (enc : TypeId × Value → H) :
    ReturnsInHanded {} Tryd.checked os 3 .any (fun w args => (Rows.fnExactMovesTextSpec.pre enc Tryd.prog Tryd.f3 [] false w args ∧ laidMetH Tryd.prog Rows.fnExactMovesTextRow.laid w) ∧ sizedMet enc Tryd.prog Tryd.f3 (OpenSpec.ofChange Rows.fnExactMovesTextSpec) false w args) (Rows.fnExactMovesTextSpec.post enc Tryd.prog Tryd.f3 false true false false) := by
  refine returnsInHanded_of_change_and (C := Tryd.checked) (X := fun w _ => laidMetH Tryd.prog Rows.fnExactMovesTextRow.laid w) (fun _ _ _ hh h => h.of_heap hh) own started (by kernel_rfl) Tryd.func3
    (ChangeSpec.witness_shaped (enc := enc) (C := Tryd.checked) (os := os) (X := fun w _ => laidMetH Tryd.prog Rows.fnExactMovesTextRow.laid w) false (World.laidAll Tryd.prog os Rows.fnExactMovesTextRow.laid) #[.slice none 0 0] 8 (World.laidAll_os _ _ _)
      (World.shaped_of_ZipB (by kernel_rfl) (by kernel_rfl)) (by kernel_rfl) (by kernel_rfl) (by kernel_rfl)
      (by rw [MakeChecks.laidMetH_plain _ _ _ (by kernel_rfl)]; exact laidMet_laidAll _ (by kernel_rfl) (by kernel_rfl))) ?_
  intro W base args ds gs before hval0 hW _ _ hL0 _
  have hL : laidMet Tryd.prog Rows.fnExactMovesTextRow.laid W := by rw [← MakeChecks.laidMetH_plain _ _ _ (by kernel_rfl)]; exact hL0
  have hval : ∀ (j : Nat) t v, Tryd.f3.params[j]? = some t → args[j]? = some v → Value.okWide Tryd.prog W .any base t v := hval0
  have hW' := hW
  obtain ⟨p, q, hA0, hV, rfl, hfz, hnd⟩ := hW
  have hA : DataW.TrodAll enc Tryd.prog W 0 (fun _ => true) true Tryd.f3.params.toList args.toList ds p := hA0
  rw [Tryd.params3] at hA hval
  obtain ⟨v0, vs0, d0, ds0, p0, q0, hargs, rfl, rfl, h0, r0⟩ := trodAll_cons hA
  obtain ⟨rfl, rfl, rfl⟩ := trodAll_nil r0
  obtain rfl : args = #[v0] := by cases args; simp_all
  obtain ⟨rfl, rfl⟩ := trodVars_none hV
  have k0 := h0
  have lt0 : ∀ x ∈ p0, x.block < W.heap.size := by obtain ⟨m, hm⟩ := k0; exact DataW.trod_lt m _ _ _ hm
  obtain ⟨x0, rfl, w0⟩ := open_nums Tryd.underlying22 Tryd.underlying2 (by kernel_rfl) (hval 0 22 v0 rfl rfl) h0
  clear hA0 hval0
  refine (walk_FnExactMovesText x0 w0 (w := W) (laid_FnExactMovesText hL)).mono fun e W' ⟨he, bel⟩ => ?_
  subst he
  exact ⟨_, rfl, _, _, _, [], _, [], hW', trodAll_mk1 (shut_bool Tryd.underlying4 _), (trodAll_cons_mk (Below.trod laidOut (by kernel_rfl) (of_decide_eq_true (by kernel_rfl)) k0 bel lt0) trodAll_mk0), rfl, bel.frame _, fun h => by cases h⟩

theorem proved : Rows.FnExactMovesTextSaid :=
  OpenClaim.holds_of_wide 3 Tryd.f3 rfl rfl rfl rfl rfl rfl rfl ⟨rfl, rfl, rfl, rfl, rfl⟩ rfl rfl rfl rfl rfl (by kernel_rfl) Tryd.func3 (by kernel_rfl)
    (of_decide_eq_true (by kernel_rfl)) (by unfold Func.isWrapper; first | (rw [if_pos (by decide +kernel)]; kernel_rfl) | (rw [if_neg (by decide +kernel)]; exact ⟨rfl, rfl⟩))
    (fun os started H enc _ => lifted os started H enc)
theorem card_holds : Rows.FnExactMovesTextCardSaid :=
  Claim7.holds_tied_plain_at .later [] [.data, .data, .data] true (true, "e5b0a0f95b9008ec316957421f58e5eaaa8bf16998caff30577cdaa57eaba64a") false
    proved (fun _ h => by cases h) (by kernel_rfl) (fun _ h => by cases h) fnExactMovesText_row_tie rfl ⟨rfl, rfl⟩ (by kernel_rfl) rfl
    (fun f fn hf hfn => by
      obtain rfl : f = 3 := Option.some.inj ((show Tryd.prog.funcNamed "loop.example/g00926/laws.FnExactMovesText" = some 3 by kernel_rfl).symm.trans hf) |>.symm
      obtain rfl : fn = Tryd.f3 := (Option.some.inj (Tryd.func3.symm.trans hfn)).symm
      exact ⟨by kernel_rfl, fun j t ht => by
        rw [Tryd.params3] at ht
        have hm : t ∈ [22] := by simpa using Array.mem_of_getElem? ht
        have hall : ([22].all fun u => !Tryd.prog.wantsStandIn u) = true := by kernel_rfl
        exact (show Tryd.prog.wantsStandIn t = false by simpa using List.all_eq_true.1 hall t hm)⟩)
    (by kernel_rfl)
end fnExactMovesText

end Go.Proofs.YtmoilphgibigkaaDoor
