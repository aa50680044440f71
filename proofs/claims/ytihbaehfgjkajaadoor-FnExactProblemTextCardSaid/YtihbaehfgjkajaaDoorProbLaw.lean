/- ProblemText of the reference and of the program return the same, and so the law on it holds (over the program's six errors and the table of powers of ten as the program's text lays them). No conditions. -/
import Derived.Test.YtihbaehfgjkajaaDoorProbS
namespace Go.Proofs.YtihbaehfgjkajaaDoor
open Go.Joins Go.ChangeShapes Go.WideShapes Go.ChangeAt Go.RowKit Go.Deep
open Go.ChangeMaps (open_string shut_string)
set_option linter.unusedVariables false

section
variable {H : Type} {enc : TypeId × Value → H} {P : Program} {w : World} {base : Nat} {spare : Nat → Bool} {held : Bool}
theorem open_problem {r : Reach} {b0 : Nat} {t i s : TypeId} {f0 f1 f2 : Field} {v : Value} {d : DataW H} {ps : List MemPlace} (hs : P.underlying t = some (.struct #[f0, f1, f2]))
    (hi : P.underlying i = some (.int .i64)) (hst : P.underlying s = some .string)
    (hone : (oneCellFields P #[f0, f1, f2] && decide (f0.type = i) && decide (f1.type = i) && decide (f2.type = s)) = true) (hC : P.cellsOf t = 3)
    (hv : Value.okWide P w r b0 t v) (h : DataW.Trod enc P w base spare held t v d ps) : ∃ (k n : Int) (x : ByteArray), v = .agg #[.int .i64 k, .int .i64 n, .string x] ∧ I64 k ∧ I64 n ∧ x.size ≤ maxLen := by
  simp only [Bool.and_eq_true, decide_eq_true_eq] at hone
  obtain ⟨⟨⟨hone, t0⟩, t1⟩, t2⟩ := hone
  obtain ⟨v0, v1, v2, y0, y1, y2, m, rfl, _, _, g0, g1, g2⟩ := open_agg3 hs hone hC hv h
  rw [t0] at g0
  rw [t1] at g1
  rw [t2] at g2
  obtain ⟨k, rfl, wk⟩ := cell_int hi g0
  obtain ⟨n, rfl, wn⟩ := cell_int hi g1
  obtain ⟨x, e, _, wx⟩ := DataW.trod_string hst g2
  simp at e
  subst e
  exact ⟨k, n, x, rfl, wk, wn, wx⟩
end

def probT (k n : Int) (word : ByteArray) : ByteArray := if 1 ≤ k ∧ k ≤ 6 then pText n word (msgs.getD (k - 1).toNat ⟨#[]⟩) else ⟨#[]⟩
theorem impl_prob (k n : Int) (hn : I64 n) (word : ByteArray) (hw : word.size ≤ 2000000) (w : World) (hp : PowTab w) (hS : Sents w) :
    Calls Tryd.prog 35 #[.agg #[.int .i64 k, .int .i64 n, .string word]] w fun e w' => e = .returned (.string (probT k n word)) ∧ Below w.heap.size w w' := by
  by_cases h : 1 ≤ k ∧ k ≤ 6
  · rcases (by omega : k = 1 ∨ k = 2 ∨ k = 3 ∨ k = 4 ∨ k = 5 ∨ k = 6) with rfl | rfl | rfl | rfl | rfl | rfl
    · exact impl_prob_1 n hn word hw w hp hS
    · exact impl_prob_2 n hn word hw w hp hS
    · exact impl_prob_3 n hn word hw w hp hS
    · exact impl_prob_4 n hn word hw w hp hS
    · exact impl_prob_5 n hn word hw w hp hS
    · exact impl_prob_6 n hn word hw w hp hS
  · rw [show probT k n word = ⟨#[]⟩ from if_neg h]
    exact impl_prob_bad k n word h w hS
theorem spec_prob (k n : Int) (hn : I64 n) (word : ByteArray) (hw : word.size ≤ 2000000) (w : World) :
    Calls Tryd.prog 33 #[.agg #[.int .i64 k, .int .i64 n, .string word]] w fun e w' => e = .returned (.string (probT k n word)) ∧ Below w.heap.size w w' := by
  by_cases h : 1 ≤ k ∧ k ≤ 6
  · rcases (by omega : k = 1 ∨ k = 2 ∨ k = 3 ∨ k = 4 ∨ k = 5 ∨ k = 6) with rfl | rfl | rfl | rfl | rfl | rfl
    · exact spec_prob_1 n hn word hw w
    · exact spec_prob_2 n hn word hw w
    · exact spec_prob_3 n hn word hw w
    · exact spec_prob_4 n hn word hw w
    · exact spec_prob_5 n hn word hw w
    · exact spec_prob_6 n hn word hw w
  · rw [show probT k n word = ⟨#[]⟩ from if_neg h]
    exact spec_prob_bad k n word h w
theorem toProb_any (k n : Int) (word : ByteArray) (w : World) :
    Calls Tryd.prog 34 #[.agg #[.int .i64 k, .int .i64 n, .string word]] w fun e w' => e = .returned (.agg #[.int .i64 k, .int .i64 n, .string word]) ∧ Below w.heap.size w w' := by
  go_enter Tryd.func34, Tryd.ntmps34
  go_wp2
  exact bodyPost_ret (v := .agg #[.int .i64 k, .int .i64 n, .string word]) (by simp [results, Tryd.results34, go_sem]) rfl ⟨rfl, (by repeat (first | exact Below.refl _ _ | assumption | (refine Below.drew ?_) | (refine Below.setCell ?_ (by first | omega | (simp; done) | (simp; omega)) _) | (refine Below.alloc ?_ (by first | omega | (simp; done) | (simp; omega)) _) | (refine Below.trans ?_ (Below.mono (by assumption) (by first | omega | (simp; done) | (simp; omega))))))⟩
def leftZ (x : ByteArray) : Int := if 1048576 < x.size then -1 else 1048576 - (x.size : Int)
theorem sz_any (k n : Int) (x : ByteArray) (hx : x.size ≤ maxLen) (w : World) :
    Calls Tryd.prog 32 #[.agg #[.int .i64 k, .int .i64 n, .string x], .int .i64 1048576] w fun e w' => e = .returned (.int .i64 (leftZ x)) ∧ Below w.heap.size w w' := by
  unfold maxLen at hx
  have hwr : IntKind.i64.wrap (1048576 - (x.size : Int)) = 1048576 - (x.size : Int) := by
    simp [IntKind.wrap, IntKind.bits, IntKind.signed]
    omega
  by_cases h : 1048576 < x.size
  · rw [show leftZ x = -1 from if_pos h]
    have h2 : 1048576 - (x.size : Int) < 0 := by omega
    go_enter Tryd.func32, Tryd.ntmps32
    go_wp2
    go_ret
    exact ⟨rfl, (by repeat (first | exact Below.refl _ _ | assumption | (refine Below.drew ?_) | (refine Below.setCell ?_ (by first | omega | (simp; done) | (simp; omega)) _) | (refine Below.alloc ?_ (by first | omega | (simp; done) | (simp; omega)) _) | (refine Below.trans ?_ (Below.mono (by assumption) (by first | omega | (simp; done) | (simp; omega))))))⟩
  · rw [show leftZ x = 1048576 - (x.size : Int) from if_neg h]
    have h2 : ¬ 1048576 - (x.size : Int) < 0 := by omega
    go_enter Tryd.func32, Tryd.ntmps32
    go_wp2
    go_ret
    exact ⟨rfl, (by repeat (first | exact Below.refl _ _ | assumption | (refine Below.drew ?_) | (refine Below.setCell ?_ (by first | omega | (simp; done) | (simp; omega)) _) | (refine Below.alloc ?_ (by first | omega | (simp; done) | (simp; omega)) _) | (refine Below.trans ?_ (Below.mono (by assumption) (by first | omega | (simp; done) | (simp; omega))))))⟩

structure ProbL (w : World) : Prop where
  pow : PowTab w
  sen : Sents w
theorem laid_FnExactProblemText {W : World} (h : laidMet Tryd.prog Rows.fnExactProblemTextRow.laid W) : ProbL W :=
  have h3 := h.tail.tail.tail
  ⟨pow_of_reads (Lib.laidMet.reads h (.tail _ (.tail _ (.head _)))),
   ⟨sent_of h3 (by kernel_rfl) (by kernel_rfl), sent_of h3.tail (by kernel_rfl) (by kernel_rfl), sent_of h3.tail.tail (by kernel_rfl) (by kernel_rfl), sent_of h3.tail.tail.tail (by kernel_rfl) (by kernel_rfl), sent_of h3.tail.tail.tail.tail (by kernel_rfl) (by kernel_rfl), sent_of h3.tail.tail.tail.tail.tail (by kernel_rfl) (by kernel_rfl)⟩⟩

set_option maxHeartbeats 2000000 in
theorem walk_FnExactProblemText (k n : Int) (x : ByteArray) (hf : I64 k ∧ I64 n ∧ x.size ≤ maxLen) (w : World) (hL : ProbL w) : Calls Tryd.prog 8 #[.agg #[.int .i64 k, .int .i64 n, .string x]] w fun e w' => e = .returned (.bool true) ∧ Below w.heap.size w w' := by
  obtain ⟨_, hn, hx⟩ := hf
  have B0 := (Below.refl w.heap.size w).alloc (Nat.le_refl _) (.cells #[.int .i64 k, .int .i64 n, .string x] 52)
  have e0 : (w.alloc (.cells #[.int .i64 k, .int .i64 n, .string x] 52)).cell? ⟨w.heap.size, 0, none⟩ = some (.int .i64 k) := by go_simp
  have e1 : (w.alloc (.cells #[.int .i64 k, .int .i64 n, .string x] 52)).cell? ⟨w.heap.size, 1, none⟩ = some (.int .i64 n) := by go_simp
  have e2 : (w.alloc (.cells #[.int .i64 k, .int .i64 n, .string x] 52)).cell? ⟨w.heap.size, 2, none⟩ = some (.string x) := by go_simp
  have HB := Lib.hid B0
  have HL := Lib.hid (show ProbL _ from ⟨hL.pow.below B0, hL.sen.below B0⟩)
  have E := Lib.hid (show _ ∧ _ ∧ _ from ⟨e0, e1, e2⟩)
  obtain ⟨l, hl⟩ : ∃ l, leftZ x = l := ⟨_, rfl⟩
  obtain ⟨T, hT⟩ : ∃ T, probT k n x = T := ⟨_, rfl⟩
  have HT := Lib.hid hT
  have HLL := Lib.hid hl
  clear B0 e0 e1 e2 hL hT hl
  have step : ∀ (w1 w' : World), (w1.cell? ⟨w.heap.size, 0, none⟩ = some (.int .i64 k) ∧ w1.cell? ⟨w.heap.size, 1, none⟩ = some (.int .i64 n) ∧ w1.cell? ⟨w.heap.size, 2, none⟩ = some (.string x)) → Below w1.heap.size w1 w' → (w'.cell? ⟨w.heap.size, 0, none⟩ = some (.int .i64 k) ∧ w'.cell? ⟨w.heap.size, 1, none⟩ = some (.int .i64 n) ∧ w'.cell? ⟨w.heap.size, 2, none⟩ = some (.string x)) := fun w1 w' h b => by
    obtain ⟨h0, h1, h2⟩ := h
    exact ⟨by rw [b.cell (World.block_lt_of_cell? w1 _ h0)]; exact h0, by rw [b.cell (World.block_lt_of_cell? w1 _ h1)]; exact h1, by rw [b.cell (World.block_lt_of_cell? w1 _ h2)]; exact h2⟩
  have ST := Lib.hid step
  clear step
  by_cases hbig : 1048576 < x.size
  · have hlv : l = -1 := by rw [← HLL.out]; exact if_pos hbig
    subst hlv
    go_enter Tryd.func8, Tryd.ntmps8
    go_wp2_with fail
    refine (sz_any k n x hx _).mono ?_
    rintro e w1 ⟨rfl, hb1⟩
    rw [HLL.out]
    have B1 := HB.out.trans (hb1.mono (by simp))
    go_wp2_with fail
    go_ret
    exact ⟨rfl, B1⟩
  · have hlv : ¬ l < 0 := by
      have : leftZ x = 1048576 - (x.size : Int) := if_neg hbig
      rw [← HLL.out, this]
      omega
    have hw : x.size ≤ 2000000 := by omega
    go_enter Tryd.func8, Tryd.ntmps8
    go_wp2_with fail
    refine (sz_any k n x hx _).mono ?_
    rintro e w1 ⟨rfl, hb1⟩
    rw [HLL.out]
    have E1 := ST.out _ _ E.out hb1
    have HB1 := Lib.hid (HB.out.trans (hb1.mono (by simp)))
    have L1 := Lib.hid (show ProbL w1 from ⟨HL.out.pow.below hb1, HL.out.sen.below hb1⟩)
    have EE1 := Lib.hid E1
    obtain ⟨c0, c1, c2⟩ := E1
    go_wp2_with fail
    refine (toProb_any k n x _).mono ?_
    rintro e w2 ⟨rfl, hb2⟩
    clear c0 c1 c2
    go_wp2_with fail
    refine (spec_prob k n hn x hw _).mono ?_
    rintro e w3 ⟨rfl, hb3⟩
    rw [HT.out]
    have b13 := hb2.trans (hb3.mono hb2.size)
    obtain ⟨c0, c1, c2⟩ := ST.out _ _ EE1.out b13
    have HB3 := Lib.hid (HB1.out.trans (b13.mono HB1.out.size))
    have L3 := Lib.hid (show ProbL w3 from ⟨L1.out.pow.below b13, L1.out.sen.below b13⟩)
    go_wp2_with fail
    refine (toProb_any k n x _).mono ?_
    rintro e w4 ⟨rfl, hb4⟩
    clear c0 c1 c2
    go_wp2_with fail
    refine (impl_prob k n hn x hw _ (L3.out.pow.below hb4) (L3.out.sen.below hb4)).mono ?_
    rintro e w5 ⟨rfl, hb5⟩
    rw [HT.out]
    have B5 := HB3.out.trans ((hb4.trans (hb5.mono hb4.size)).mono HB3.out.size)
    go_wp2_with fail
    go_ret
    exact ⟨rfl, B5⟩
namespace fnExactProblemText
set_option maxHeartbeats 2000000 in
set_option maxRecDepth 100000 in
theorem lifted (os : Os) (started : os.Started) (H : Type) (enc : TypeId × Value → H) :
    ReturnsInHanded {} Tryd.checked os 8 .any (fun w args => (Rows.fnExactProblemTextSpec.pre enc Tryd.prog Tryd.f8 [] false w args ∧ laidMetH Tryd.prog Rows.fnExactProblemTextRow.laid w) ∧ sizedMet enc Tryd.prog Tryd.f8 (OpenSpec.ofChange Rows.fnExactProblemTextSpec) false w args) (Rows.fnExactProblemTextSpec.post enc Tryd.prog Tryd.f8 false true false false) := by
  refine returnsInHanded_of_change_and (C := Tryd.checked) (X := fun w _ => laidMetH Tryd.prog Rows.fnExactProblemTextRow.laid w) (fun _ _ _ hh h => h.of_heap hh) own started (by kernel_rfl) Tryd.func8
    (ChangeSpec.witness_shaped (enc := enc) (C := Tryd.checked) (os := os) (X := fun w _ => laidMetH Tryd.prog Rows.fnExactProblemTextRow.laid w) false (World.laidAll Tryd.prog os Rows.fnExactProblemTextRow.laid) #[.agg #[.int .i64 0, .int .i64 0, .string ByteArray.empty]] 8 (World.laidAll_os _ _ _)
      (World.shaped_of_ZipB (by kernel_rfl) (by kernel_rfl)) (by kernel_rfl) (by kernel_rfl) (by kernel_rfl)
      (by rw [MakeChecks.laidMetH_plain _ _ _ (by kernel_rfl)]; exact laidMet_laidAll _ (by kernel_rfl) (by kernel_rfl))) ?_
  intro W base args ds gs before hval0 hW _ _ hL0 _
  have hL : laidMet Tryd.prog Rows.fnExactProblemTextRow.laid W := by rw [← MakeChecks.laidMetH_plain _ _ _ (by kernel_rfl)]; exact hL0
  have hval : ∀ (j : Nat) t v, Tryd.f8.params[j]? = some t → args[j]? = some v → Value.okWide Tryd.prog W .any base t v := hval0
  have hW' := hW
  obtain ⟨p, q, hA0, hV, rfl, hfz, hnd⟩ := hW
  have hA : DataW.TrodAll enc Tryd.prog W 0 (fun _ => true) true Tryd.f8.params.toList args.toList ds p := hA0
  rw [Tryd.params8] at hA hval
  obtain ⟨v0, vs0, d0, ds0, p0, q0, hargs, rfl, rfl, h0, r0⟩ := trodAll_cons hA
  obtain ⟨rfl, rfl, rfl⟩ := trodAll_nil r0
  obtain rfl : args = #[v0] := by cases args; simp_all
  have hV1 := hV
  obtain ⟨g0, g1, g2, g3, g4, g5, rfl⟩ := vars_6 hV
  have k0 := h0
  have lt0 : ∀ x ∈ p0, x.block < W.heap.size := by obtain ⟨m, hm⟩ := k0; exact DataW.trod_lt m _ _ _ hm
  obtain ⟨pk0, pn0, px0, rfl, w0⟩ := open_problem Tryd.underlying52 Tryd.underlying2 Tryd.underlying9 (by kernel_rfl) (by kernel_rfl) (hval 0 52 v0 rfl rfl) h0
  clear hA0 hval0
  refine (walk_FnExactProblemText pk0 pn0 px0 w0 (w := W) (laid_FnExactProblemText hL)).mono fun e W' ⟨he, bel⟩ => ?_
  subst he
  exact ⟨_, rfl, _, _, _, [], _, _, hW', trodAll_mk1 (shut_bool Tryd.underlying4 _), (trodAll_cons_mk (Below.trod laidOut (by kernel_rfl) (of_decide_eq_true (by kernel_rfl)) k0 bel lt0) trodAll_mk0), Below.trodVars laidOut bel (by kernel_rfl) hV1, bel.frame _, fun h => by cases h⟩

theorem proved : Rows.FnExactProblemTextSaid :=
  OpenClaim.holds_of_wide 8 Tryd.f8 rfl rfl rfl rfl rfl rfl rfl ⟨rfl, rfl, rfl, rfl, rfl⟩ rfl rfl rfl rfl rfl (by kernel_rfl) Tryd.func8 (by kernel_rfl)
    (of_decide_eq_true (by kernel_rfl)) (by unfold Func.isWrapper; first | (rw [if_pos (by decide +kernel)]; kernel_rfl) | (rw [if_neg (by decide +kernel)]; exact ⟨rfl, rfl⟩))
    (fun os started H enc _ => lifted os started H enc)
theorem card_holds : Rows.FnExactProblemTextCardSaid :=
  Claim7.holds_tied_plain_at .later [] [.data, .data, .data, .sentinel, .sentinel, .sentinel, .sentinel, .sentinel, .sentinel] true (true, "e75c25b7d600ccc464b435a9159048a61288eee4c0a175dc15596e67716cecfd") true
    proved (fun _ h => by cases h) (by kernel_rfl) (fun _ h => by cases h) fnExactProblemText_row_tie rfl ⟨rfl, rfl⟩ (by kernel_rfl) rfl
    (fun f fn hf hfn => by
      obtain rfl : f = 8 := Option.some.inj ((show Tryd.prog.funcNamed "loop.example/g00926/laws.FnExactProblemText" = some 8 by kernel_rfl).symm.trans hf) |>.symm
      obtain rfl : fn = Tryd.f8 := (Option.some.inj (Tryd.func8.symm.trans hfn)).symm
      exact ⟨by kernel_rfl, fun j t ht => by
        rw [Tryd.params8] at ht
        have hm : t ∈ [52] := by simpa using Array.mem_of_getElem? ht
        have hall : ([52].all fun u => !Tryd.prog.wantsStandIn u) = true := by kernel_rfl
        exact (show Tryd.prog.wantsStandIn t = false by simpa using List.all_eq_true.1 hall t hm)⟩)
    (by kernel_rfl)
end fnExactProblemText

end Go.Proofs.YtihbaehfgjkajaaDoor
