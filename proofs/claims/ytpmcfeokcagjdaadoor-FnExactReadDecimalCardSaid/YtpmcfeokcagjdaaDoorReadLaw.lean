/- ReadDecimal of the reference and of the program return the same, and so the law on it holds (over the library's two errors and its tables as its text lays them). No conditions. -/
import Derived.Test.YtpmcfeokcagjdaaDoorDecLaw
import Derived.Test.YtpmcfeokcagjdaaDoorRead
namespace Go.Proofs.YtpmcfeokcagjdaaDoor
open Go.Joins Go.ChangeShapes Go.WideShapes Go.ChangeAt Go.RowKit Go.Deep
open Go.ChangeMaps (open_string shut_string)
set_option linter.unusedVariables false

/-- What the two variables hold: an error each. -/
def ErrAt (w : World) (g : Nat) : Prop := ∃ te pe, w.cell? ⟨g, 0, none⟩ = some (.iface te pe)
theorem ErrAt.below {w w' : World} {g : Nat} (h : ErrAt w g) (k : Below w.heap.size w w') : ErrAt w' g := by
  obtain ⟨te, pe, h⟩ := h
  exact ⟨te, pe, by rw [k.cell (World.block_lt_of_cell? w _ h)]; exact h⟩
theorem err_of_reads {W : World} {name : String} {g : Nat} {nm : String} {d : DataW Unit} {ms : Array (String × TypeId)} (hn : Tryd.prog.globalNamed name = some g) (hy : (Tryd.prog.globals[g]?).map (·.type) = some 32)
    (hu : Tryd.prog.underlying 32 = some (.interface ms)) (h : Lib.VarReads Tryd.prog W name (.iface nm d)) : ErrAt W g := by
  obtain ⟨g', t, cs, fuel, p, hg, hty, hvar, hd⟩ := h
  obtain rfl := Option.some.inj (hn.symm.trans hg)
  obtain rfl := Option.some.inj (hy.symm.trans hty)
  obtain ⟨f', u, v, hcs, _⟩ := iface_of_trod hu hd
  have := World.var?_cell hg hvar 0
  refine ⟨u, v, ?_⟩
  rw [this, ← Array.getElem?_toList, hcs]
  rfl

structure ReadL (w : World) : Prop where
  pow : PowTab w
  syn : ErrAt w 2
  ran : ErrAt w 3
theorem ReadL.below {w w' : World} (h : ReadL w) (k : Below w.heap.size w w') : ReadL w' := ⟨h.pow.below k, h.syn.below k, h.ran.below k⟩
theorem laid_FnExactReadDecimal {W : World} (h : laidMet Tryd.prog Rows.fnExactReadDecimalRow.laid W) : ReadL W :=
  ⟨pow_of_reads (Lib.laidMet.reads h (.tail _ (.tail _ (.head _)))),
   err_of_reads (by kernel_rfl) (by kernel_rfl) Tryd.underlying32 (Lib.laidMet.reads h (.tail _ (.tail _ (.tail _ (.tail _ (.head _)))))),
   err_of_reads (by kernel_rfl) (by kernel_rfl) Tryd.underlying32 (Lib.laidMet.reads h (.tail _ (.tail _ (.tail _ (.head _)))))⟩

theorem no_parse {l : List UInt8} (h : ∀ n, Lib.parseIntB 64 l ≠ .ok n) : ∀ n, ¬ Reads l n := fun n k => h n (by rw [← k.2]; exact parse_itoa n k.1)
theorem one_parse {l : List UInt8} {u n : Int} (h : Lib.parseIntB 64 l = .ok u) (k : Reads l n) : n = u := by
  have := parse_itoa n k.1
  rw [k.2, h] at this
  cases this
  rfl

/-- The parse of the library: its result. -/
def ParseP (s : ByteArray) (w : World) (e : Ending) (w' : World) : Prop :=
  Below w.heap.size w w' ∧ ((∃ u, Lib.parseIntB 64 s.data.toList = .ok u ∧ e = .returned (.tuple #[.int .i64 u, .nilIface])) ∨
    ((∀ n, Lib.parseIntB 64 s.data.toList ≠ .ok n) ∧ ∃ x t v, e = .returned (.tuple #[.int .i64 x, .iface t v])))
theorem parse_any (s : ByteArray) (hs : s.size ≤ 1048576) (w : World) (hL : ReadL w) :
    Calls Tryd.prog 16 #[.string s, .int .i64 10, .int .i64 64] w (ParseP s w) := by
  rcases h : Lib.parseIntB 64 s.data.toList with u | _ | _
  · refine (Tryd.strconv_ParseInt_10_at64_ok s (by omega) u h w).mono fun e w' ⟨he, hw⟩ => ?_
    refine ⟨?_, .inl ⟨u, h, he⟩⟩
    rcases hw with rfl | ⟨t, rfl⟩
    · exact Below.refl _ _
    · exact Lib.bytesWorld_below w _ t
  · obtain ⟨te, pe, hc⟩ := hL.syn
    refine (Tryd.strconv_ParseInt_10_at64_syntax s (by omega) h _ w hc (.inr ⟨te, pe, rfl⟩)).mono fun e w' ⟨N, he, _, _, hb⟩ => ?_
    exact ⟨hb, .inr ⟨(fun n => by rw [h]; intro x; cases x), _, _, _, he⟩⟩
  · obtain ⟨te, pe, hc⟩ := hL.ran
    refine (Tryd.strconv_ParseInt_10_at64_range s (by omega) h _ w hc (.inr ⟨te, pe, rfl⟩)).mono fun e w' ⟨N, he, _, _, hb⟩ => ?_
    exact ⟨hb, .inr ⟨(fun n => by rw [h]; intro x; cases x), _, _, _, he⟩⟩

set_option maxHeartbeats 4000000 in
theorem impl_read (s : ByteArray) (hs : s.size ≤ 1048576) (v : Int) (b : Bool) (hv : ReadV s.data.toList v b) (w : World) (hL : ReadL w) :
    Calls Tryd.prog 11 #[.string s] w fun e w' => e = .returned (.tuple #[.int .i64 v, .bool b]) ∧ Below w.heap.size w w' := by
  have Hv := Lib.hid hv
  have HL := Lib.hid hL
  clear hv hL
  go_enter Tryd.func11, Tryd.ntmps11
  go_wp2_with fail
  refine (parse_any s hs _ HL.out).mono ?_
  rintro e w1 ⟨hb1, ⟨u, hu, rfl⟩ | ⟨hno, x, t, y, rfl⟩⟩
  · have hbd := Lib.parseIntB_bounds hu
    have hu1 : -9223372036854775808 ≤ u := by
      have : ((2 ^ (64 - 1) : Nat) : Int) = 9223372036854775808 := by decide
      omega
    have hu2 : u ≤ 9223372036854775807 := by
      have : ((2 ^ (64 - 1) : Nat) : Int) = 9223372036854775808 := by decide
      omega
    have Hu := Lib.hid hu
    clear hu hbd
    by_cases h18 : -1000000000000000000 < u ∧ u < 1000000000000000000
    · obtain ⟨g1, g2⟩ := h18
      go_wp2_with fail
      refine (impl_dec u ⟨hu1, hu2⟩ _ (HL.out.below hb1).pow).mono ?_
      rintro e w2 ⟨rfl, hb2⟩
      have HB : Below w.heap.size w w2 := hb1.trans (hb2.mono hb1.size)
      by_cases he : Lib.itoa u = s.data.toList
      · have hA : (⟨(Lib.itoa u).toArray⟩ : ByteArray) = s := bytes_ext (by rw [he])
        obtain ⟨rfl, rfl⟩ := fin_true Hv.out ⟨⟨g1, g2⟩, he⟩
        rw [hA]
        clear hA he
        go_wp2_with fail
        go_ret2
        exact ⟨rfl, HB⟩
      · obtain ⟨A, hA⟩ : ∃ A : ByteArray, (⟨(Lib.itoa u).toArray⟩ : ByteArray) = A := ⟨_, rfl⟩
        have hne2 : (A.toList == s.toList) = false := by
          rw [beq_eq_false_iff_ne]
          intro h
          apply he
          rw [ByteArray.toList_eq, ByteArray.toList_eq] at h
          rw [← h, ← hA]
        obtain ⟨rfl, rfl⟩ := fin_false Hv.out (fun n k => he (by rw [← one_parse Hu.out k]; exact k.2))
        rw [hA]
        clear hA he
        go_wp2_with fail
        go_ret2
        exact ⟨rfl, HB⟩
    · obtain ⟨rfl, rfl⟩ := fin_false Hv.out (fun n k => h18 (by rw [← one_parse Hu.out k]; exact k.1))
      by_cases g1 : u ≤ -1000000000000000000
      · clear h18
        go_wp2_with fail
        go_ret2
        exact ⟨rfl, hb1⟩
      · have g2 : 1000000000000000000 ≤ u := by omega
        clear h18
        go_wp2_with fail
        go_ret2
        exact ⟨rfl, hb1⟩
  · obtain ⟨rfl, rfl⟩ := fin_false Hv.out (no_parse hno)
    clear hno
    go_wp2_with fail
    go_ret2
    exact ⟨rfl, hb1⟩

theorem spec_read (s : ByteArray) (hs : s.size ≤ 1048576) (v : Int) (b : Bool) (hv : ReadV s.data.toList v b) (w : World) :
    Calls Tryd.prog 10 #[.string s] w fun e w' => e = .returned (.tuple #[.int .i64 v, .bool b]) ∧ Below w.heap.size w w' := by
  have Hv := Lib.hid hv
  clear hv
  go_enter Tryd.func10, Tryd.ntmps10
  go_wp2_with (go_at_call 15; refine (num_any _ hs v b Hv.out _).mono ?_; rintro e w1 ⟨rfl, hb1⟩; obtain ⟨hc1, hf1⟩ := bcell hb1; have hs1 := hb1.size; (try simp at hs1); (try have hz1 : w.heap.size < w1.heap.size := by omega); (try have hy1 : w.heap.size + 1 < w1.heap.size := by omega); (try have hx1 := fun o => hc1 w.heap.size o (by first | omega | (simp; done) | (simp; omega))); (try have hv1 := fun o => hc1 (w.heap.size + 1) o (by first | omega | (simp; done) | (simp; omega))))
  go_ret2
  exact ⟨rfl, hb1⟩

theorem walk_FnExactReadDecimal (s : ByteArray) (hs : s.size ≤ maxLen) (w : World) (hL : ReadL w) :
    Calls Tryd.prog 5 #[.string s] w fun e w' => e = .returned (.bool true) ∧ Below w.heap.size w w' := by
  unfold maxLen at hs
  have HL := Lib.hid hL
  clear hL
  by_cases hl : 1048576 < s.size
  · go_enter Tryd.func5, Tryd.ntmps5
    go_wp2
    go_ret
    exact ⟨rfl, Below.refl _ _⟩
  · have hsz : s.size ≤ 1048576 := by omega
    obtain ⟨v, b, hv⟩ : ∃ v b, ReadV s.data.toList v b := by
      by_cases h : ∃ n, Reads s.data.toList n
      · obtain ⟨n, h⟩ := h
        exact ⟨n, true, .inl ⟨rfl, h⟩⟩
      · exact ⟨0, false, .inr ⟨rfl, rfl, fun n k => h ⟨n, k⟩⟩⟩
    have Hv := Lib.hid hv
    clear hv
    go_enter Tryd.func5, Tryd.ntmps5
    go_wp2_with (first | (go_at_call 10; refine (spec_read _ hsz v b Hv.out _).mono ?_; rintro e w1 ⟨rfl, hb1⟩; obtain ⟨hc1, hf1⟩ := bcell hb1; have hs1 := hb1.size; (try simp at hs1); (try have hz1 : w.heap.size < w1.heap.size := by omega); (try have hy1 : w.heap.size + 1 < w1.heap.size := by omega); (try have hx1 := fun o => hc1 w.heap.size o (by first | omega | (simp; done) | (simp; omega))); (try have hv1 := fun o => hc1 (w.heap.size + 1) o (by first | omega | (simp; done) | (simp; omega)))) | (go_at_call 11; refine (impl_read _ hsz v b Hv.out _ (HL.out.below hb1)).mono ?_; rintro e w2 ⟨rfl, hb2⟩; obtain ⟨hc2, hf2⟩ := bcell hb2; have hs2 := hb2.size; (try simp at hs2); (try have hz2 : w.heap.size < w2.heap.size := by omega); (try have hy2 : w.heap.size + 1 < w2.heap.size := by omega); (try have hx2 := fun o => hc2 w.heap.size o (by first | omega | (simp; done) | (simp; omega))); (try have hv2 := fun o => hc2 (w.heap.size + 1) o (by first | omega | (simp; done) | (simp; omega))); (try have hq21 : w1.heap.size < w2.heap.size := by omega)))
    go_ret
    exact ⟨rfl, (by repeat (first | exact Below.refl _ _ | assumption | (refine Below.drew ?_) | (refine Below.setCell ?_ (by first | omega | (simp; done) | (simp; omega)) _) | (refine Below.alloc ?_ (by first | omega | (simp; done) | (simp; omega)) _) | (refine Below.trans ?_ (Below.mono (by assumption) (by first | omega | (simp; done) | (simp; omega))))))⟩
namespace fnExactReadDecimal
set_option maxRecDepth 100000 in
theorem lifted (os : Os) (started : os.Started) (H : Type) (enc : TypeId × Value → H) :
    ReturnsInHanded {} Tryd.checked os 5 .any (fun w args => (Rows.fnExactReadDecimalSpec.pre enc Tryd.prog Tryd.f5 [] false w args ∧ laidMetH Tryd.prog Rows.fnExactReadDecimalRow.laid w) ∧ sizedMet enc Tryd.prog Tryd.f5 (OpenSpec.ofChange Rows.fnExactReadDecimalSpec) false w args) (Rows.fnExactReadDecimalSpec.post enc Tryd.prog Tryd.f5 false true false false) := by
  refine returnsInHanded_of_change_and (C := Tryd.checked) (X := fun w _ => laidMetH Tryd.prog Rows.fnExactReadDecimalRow.laid w) (fun _ _ _ hh h => h.of_heap hh) own started (by kernel_rfl) Tryd.func5
    (ChangeSpec.witness_shaped (enc := enc) (C := Tryd.checked) (os := os) (X := fun w _ => laidMetH Tryd.prog Rows.fnExactReadDecimalRow.laid w) false (World.laidAll Tryd.prog os Rows.fnExactReadDecimalRow.laid) #[.string ByteArray.empty] 8 (World.laidAll_os _ _ _)
      (World.shaped_of_ZipB (by kernel_rfl) (by kernel_rfl)) (by kernel_rfl) (by kernel_rfl) (by kernel_rfl)
      (by rw [MakeChecks.laidMetH_plain _ _ _ (by kernel_rfl)]; exact laidMet_laidAll _ (by kernel_rfl) (by kernel_rfl))) ?_
  intro W base args ds gs before hval0 hW _ _ hL0 _
  have hL : laidMet Tryd.prog Rows.fnExactReadDecimalRow.laid W := by rw [← MakeChecks.laidMetH_plain _ _ _ (by kernel_rfl)]; exact hL0
  have hval : ∀ (j : Nat) t v, Tryd.f5.params[j]? = some t → args[j]? = some v → Value.okWide Tryd.prog W .any base t v := hval0
  have hW' := hW
  obtain ⟨p, q, hA0, hV, rfl, hfz, hnd⟩ := hW
  have hA : DataW.TrodAll enc Tryd.prog W 0 (fun _ => true) true Tryd.f5.params.toList args.toList ds p := hA0
  rw [Tryd.params5] at hA hval
  obtain ⟨v0, vs0, d0, ds0, p0, q0, hargs, rfl, rfl, h0, r0⟩ := trodAll_cons hA
  obtain ⟨rfl, rfl, rfl⟩ := trodAll_nil r0
  obtain rfl : args = #[v0] := by cases args; simp_all
  obtain ⟨rfl, rfl⟩ := trodVars_none hV
  have k0 := h0
  have lt0 : ∀ x ∈ p0, x.block < W.heap.size := by obtain ⟨m, hm⟩ := k0; exact DataW.trod_lt m _ _ _ hm
  obtain ⟨a0, rfl, -, -, w0⟩ := open_string Tryd.underlying9 (hval 0 9 v0 rfl rfl) h0
  clear hA0 hval0
  refine (walk_FnExactReadDecimal a0 w0 (w := W) (laid_FnExactReadDecimal hL)).mono fun e W' ⟨he, bel⟩ => ?_
  subst he
  exact ⟨_, rfl, _, _, _, [], _, [], hW', trodAll_mk1 (shut_bool Tryd.underlying4 _), (trodAll_cons_mk (Below.trod laidOut (by kernel_rfl) (of_decide_eq_true (by kernel_rfl)) k0 bel lt0) trodAll_mk0), rfl, bel.frame _, fun h => by cases h⟩

theorem proved : Rows.FnExactReadDecimalSaid :=
  OpenClaim.holds_of_wide 5 Tryd.f5 rfl rfl rfl rfl rfl rfl rfl ⟨rfl, rfl, rfl, rfl, rfl⟩ rfl rfl rfl rfl rfl (by kernel_rfl) Tryd.func5 (by kernel_rfl)
    (of_decide_eq_true (by kernel_rfl)) (by unfold Func.isWrapper; first | (rw [if_pos (by decide +kernel)]; kernel_rfl) | (rw [if_neg (by decide +kernel)]; exact ⟨rfl, rfl⟩))
    (fun os started H enc _ => lifted os started H enc)
theorem card_holds : Rows.FnExactReadDecimalCardSaid :=
  Claim7.holds_tied_plain_at .later [] [.data, .data, .data, .sentinel, .sentinel] true (true, "7c30e71b1ae2032887e23313c8cafa3cd5fac1a8225d239a0896dcfd2e430439") true
    proved (fun _ h => by cases h) (by kernel_rfl) (fun _ h => by cases h) fnExactReadDecimal_row_tie rfl ⟨rfl, rfl⟩ (by kernel_rfl) rfl
    (fun f fn hf hfn => by
      obtain rfl : f = 5 := Option.some.inj ((show Tryd.prog.funcNamed "loop.example/g00926/laws.FnExactReadDecimal" = some 5 by kernel_rfl).symm.trans hf) |>.symm
      obtain rfl : fn = Tryd.f5 := (Option.some.inj (Tryd.func5.symm.trans hfn)).symm
      exact ⟨by kernel_rfl, fun j t ht => by
        rw [Tryd.params5] at ht
        have hm : t ∈ [9] := by simpa using Array.mem_of_getElem? ht
        have hall : ([9].all fun u => !Tryd.prog.wantsStandIn u) = true := by kernel_rfl
        exact (show Tryd.prog.wantsStandIn t = false by simpa using List.all_eq_true.1 hall t hm)⟩)
    (by kernel_rfl)
end fnExactReadDecimal

end Go.Proofs.YtpmcfeokcagjdaaDoor
