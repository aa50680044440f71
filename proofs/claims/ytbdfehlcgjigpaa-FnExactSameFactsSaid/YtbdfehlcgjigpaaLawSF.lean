/- The law on SameFacts. No conditions. -/
import Derived.Test.YtbdfehlcgjigpaaFac
import Derived.Test.YtbdfehlcgjigpaaOpenP
namespace Go.Proofs.Ytbdfehlcgjigpaa
open Go.Joins Go.ChangeShapes Go.WideShapes Go.ChangeAt Go.RowKit Go.Deep
set_option linter.unusedVariables false

theorem implSF_any (a d : Option Addr) (c1 c2 n m : Nat) (xs ys : List F3) (w : World) (hn : xs.length = n) (hm : ys.length = m) (h1 : RowF w a xs) (h2 : RowF w d ys) :
    Calls Try.prog 21 #[.slice a n c1, .slice d m c2] w (Still (.bool (decide (xs = ys))) w) := by
  have H1 := Lib.hid h1
  have H2 := Lib.hid h2
  have Hn := Lib.hid hn
  have Hm := Lib.hid hm
  clear h1 h2 hn hm
  go_enter Try.func21, Try.ntmps21
  go_wp2_with fail
  refine (equalF_any a d c1 c2 n m xs ys _ Hn.out Hm.out H1.out H2.out).mono ?_
  rintro e u ⟨rfl, q, rfl⟩
  go_wp2_with fail
  go_ret
  exact ⟨rfl, q, rfl⟩
/-- A row of facts that came in. -/
structure FW (w : World) (a : Option Addr) (n : Nat) (fs : List F3) : Prop where
  r : n ≤ 1048576 → RowF w a fs
  l : fs.length = n
  m : n ≤ 9223372036854775807
structure FV where
  a : Option Addr
  n : Nat
  c : Nat
  fs : List F3
def FV.val (q : FV) : Value := .slice q.a q.n q.c
def FV.In (q : FV) (w : World) : Prop := FW w q.a q.n q.fs
section
variable {H : Type} {enc : TypeId × Value → H} {P : Program} {w : World} {base : Nat}
theorem open_facts {r : Reach} {b0 : Nat} {t e i : TypeId} {f0 f1 f2 : Field} {v : Value} {d : DataW H} {ps : List MemPlace} (ht : P.underlying t = some (.slice e)) (he : P.underlying e = some (.struct #[f0, f1, f2])) (hi : P.underlying i = some (.int .i64))
    (hone : (oneCellFields P #[f0, f1, f2] && decide (f0.type = i) && decide (f1.type = i) && decide (f2.type = i)) = true) (hC : P.cellsOf e = 3)
    (hv : Value.okWide P w r b0 t v) (h : DataW.Trod enc P w base (fun _ => true) true t v d ps) : ∃ q : FV, v = q.val ∧ q.In w := by
  simp only [Bool.and_eq_true, decide_eq_true_eq] at hone
  obtain ⟨⟨⟨hone, t0⟩, t1⟩, t2⟩ := hone
  obtain ⟨a, len, cap, rfl⟩ := okWide_slice ht hv
  obtain ⟨fuel, hf⟩ := h
  rcases open_slice ht hf with ⟨hcs, _⟩ | ⟨x, l, c, m, n, D, Pl, hcs, hb, hl, hm, hmm, -, hx⟩
  · simp [Value.cells] at hcs
    obtain ⟨rfl, rfl, rfl⟩ := hcs
    exact ⟨⟨none, 0, 0, []⟩, rfl, ⟨fun _ => ⟨by simp, .inl rfl⟩, rfl, by simp⟩⟩
  · simp [Value.cells] at hcs
    obtain ⟨rfl, rfl, rfl⟩ := hcs
    simp at hmm
    subst hmm
    unfold maxLen at hm
    have each : ∀ j, j < len → ∃ y : F3, w.cell? (x.add (j * 3)) = some (.int .i64 y.1) ∧ w.cell? (x.add (j * 3 + 1)) = some (.int .i64 y.2.1) ∧ w.cell? (x.add (j * 3 + 2)) = some (.int .i64 y.2.2) := by
      intro j hj
      obtain ⟨cs', h1, h2⟩ := hx j (by omega)
      rw [hC] at h1
      obtain ⟨_, hlen, hcell⟩ := World.cells?_some h1
      obtain ⟨y0, y1, y2, k, _, _, g0, g1, g2⟩ := trod_struct3 he h2
      obtain ⟨o0, k0⟩ := hone_of hone 0 f0 rfl
      obtain ⟨o1, k1⟩ := hone_of hone 1 f1 rfl
      obtain ⟨o2, k2⟩ := hone_of hone 2 f2 rfl
      match cs', hlen with
      | [v0, v1, v2], _ =>
        have e0 := hcell 0 (by omega)
        have e1 := hcell 1 (by omega)
        have e2 := hcell 2 (by omega)
        rw [add_add] at e0 e1 e2
        have q0 : DataW.trod enc P w base (fun _ => true) true k f0.type [v0] = some y0 := by simpa [o0, k0] using g0
        have q1 : DataW.trod enc P w base (fun _ => true) true k f1.type [v1] = some y1 := by simpa [o1, k1] using g1
        have q2 : DataW.trod enc P w base (fun _ => true) true k f2.type [v2] = some y2 := by simpa [o2, k2] using g2
        rw [t0] at q0
        rw [t1] at q1
        rw [t2] at q2
        obtain ⟨m0, rfl, -⟩ := cell_int hi q0
        obtain ⟨m1, rfl, -⟩ := cell_int hi q1
        obtain ⟨m2, rfl, -⟩ := cell_int hi q2
        exact ⟨(m0, m1, m2), by simpa using e0, by simpa using e1, by simpa using e2⟩
    obtain ⟨q, hq⟩ := choose_lt each
    refine ⟨⟨some x, len, m, (List.range len).map q⟩, rfl, ⟨fun hn => ⟨by simpa using hn, ?_⟩, by simp, show len ≤ 9223372036854775807 by omega⟩⟩
    by_cases h0 : len = 0
    · exact .inl (by rw [h0]; rfl)
    · obtain ⟨b, off, spot⟩ := x
      have hc := (hq 0 (by omega)).1
      have hspot : spot = none := by simpa [Addr.add] using World.cell?_spot hc
      subst hspot
      refine .inr ⟨b, off, rfl, by simpa [Addr.add] using World.block_lt_of_cell? w _ hc, fun j hj => ?_⟩
      simp only [List.length_map, List.length_range] at hj
      have ea : (⟨b, off + j, none⟩ : Addr) = (⟨b, off, none⟩ : Addr).add j := by
        by_cases h : j = 0 <;> simp [Addr.add, h]
      rw [ea]
      obtain ⟨k, hk, hj3⟩ : ∃ k, k < len ∧ (j = k * 3 ∨ j = k * 3 + 1 ∨ j = k * 3 + 2) := ⟨j / 3, by omega, by omega⟩
      have hat : ((List.range len).map q)[k]? = some (q k) := by simp [hk]
      obtain ⟨c0, c1, c2⟩ := hq k hk
      rcases hj3 with rfl | rfl | rfl
      · rw [fcell0 hat]
        exact c0
      · rw [fcell1 hat]
        exact c1
      · rw [fcell2 hat]
        exact c2
end
set_option maxHeartbeats 1000000 in
set_option maxRecDepth 100000 in
theorem walk0_FnExactSameFacts (a d : Option Addr) (n cn m cm : Nat) (xs ys : List F3) (w : World) (h1 : FW w a n xs) (h2 : FW w d m ys) :
    Calls Try.prog 5 #[.slice a n cn, .slice d m cm] w fun e w' => e = .returned (.bool true) ∧ Below w.heap.size w w' := by
  have hm1 := h1.m
  have hm2 := h2.m
  have W1 := Lib.hid h1
  have W2 := Lib.hid h2
  clear h1 h2
  by_cases hs : (n : Int) ≤ 1048576
  · have E1 : Hid (szF 1048576 n = 1048576 - n) := Lib.hid (if_pos hs)
    have q0 : 0 ≤ 1048576 - (n : Int) := by omega
    by_cases ht : (m : Int) ≤ 1048576 - n
    · have E2 : Hid (szF (1048576 - n) m = 1048576 - n - m) := Lib.hid (if_pos ht)
      have q1 : 0 ≤ 1048576 - (n : Int) - m := by omega
      have R1 := Lib.hid (W1.out.r (by omega))
      have R2 := Lib.hid (W2.out.r (by omega))
      have L1 := Lib.hid W1.out.l
      have L2 := Lib.hid W2.out.l
      clear W1 W2
      go_enter Try.func5, Try.ntmps5
      go_wp2_with fail
      refine (szFs_any a cn n 1048576 (by omega) (by omega) hm1 _).mono ?_
      rintro e w1 ⟨rfl, rfl⟩
      rw [E1.out]
      go_wp2_with fail
      refine (szFs_any d cm m _ q0 (by omega) hm2 _).mono ?_
      rintro e w1 ⟨rfl, rfl⟩
      rw [E2.out]
      go_wp2_with fail
      refine (toFacts_any a cn n xs _ L1.out R1.out).mono ?_
      rintro e u1 ⟨g1, rfl, r1, b1⟩
      have B := Lib.hid b1
      have A1 := Lib.hid r1
      clear r1 b1
      go_wp2_with fail
      refine (toFacts_any d cm m ys _ L2.out (R2.out.below B.out)).mono ?_
      rintro e u2 ⟨g2, rfl, r2, b2⟩
      have A1 := Lib.hid (A1.out.below b2)
      have A2 := Lib.hid r2
      have B := Lib.hid (B.out.trans (Below.mono b2 B.out.size))
      clear r2 b2
      go_wp2_with fail
      refine (specSF_any _ _ _ _ n m xs ys _ L1.out L2.out A1.out A2.out).mono ?_
      rintro e u3 ⟨rfl, q, rfl⟩
      generalize hv : decide (xs = ys) = v
      have Hv := Lib.hid hv
      have B := Lib.hid (below_dn B.out q)
      clear hv A1 A2
      generalize u2.drewN q = u4 at *
      go_wp2_with fail
      refine (toFacts_any a cn n xs _ L1.out (R1.out.below B.out)).mono ?_
      rintro e u5 ⟨g3, rfl, r3, b3⟩
      have A3 := Lib.hid r3
      have B := Lib.hid (B.out.trans (Below.mono b3 B.out.size))
      clear r3 b3
      go_wp2_with fail
      refine (toFacts_any d cm m ys _ L2.out (R2.out.below B.out)).mono ?_
      rintro e u6 ⟨g4, rfl, r4, b4⟩
      have A3 := Lib.hid (A3.out.below b4)
      have A4 := Lib.hid r4
      have B := Lib.hid (B.out.trans (Below.mono b4 B.out.size))
      clear r4 b4
      go_wp2_with fail
      refine (implSF_any _ _ _ _ n m xs ys _ L1.out L2.out A3.out A4.out).mono ?_
      rintro e u7 ⟨rfl, q2, rfl⟩
      rw [Hv.out]
      have A3 := Lib.hid (A3.out.below (below_dn (Below.refl _ _) q2))
      have A4 := Lib.hid (A4.out.below (below_dn (Below.refl _ _) q2))
      have B := Lib.hid (below_dn B.out q2)
      generalize u6.drewN q2 = u8 at *
      go_wp2_with fail
      refine (toFacts_any a cn n xs _ L1.out (R1.out.below B.out)).mono ?_
      rintro e u9 ⟨g5, rfl, r5, b5⟩
      have A3 := Lib.hid (A3.out.below b5)
      have A4 := Lib.hid (A4.out.below b5)
      have A5 := Lib.hid r5
      have B := Lib.hid (B.out.trans (Below.mono b5 B.out.size))
      clear r5 b5
      go_wp2_with fail
      refine (eqFs_same _ _ _ _ n xs _ L1.out A3.out A5.out).mono ?_
      rintro e u10 ⟨rfl, b6⟩
      have A4 := Lib.hid (A4.out.below b6)
      have B := Lib.hid (B.out.trans (Below.mono b6 B.out.size))
      clear b6 A3 A5
      go_wp2_with fail
      refine (toFacts_any d cm m ys _ L2.out (R2.out.below B.out)).mono ?_
      rintro e u11 ⟨g6, rfl, r7, b7⟩
      have A4 := Lib.hid (A4.out.below b7)
      have A6 := Lib.hid r7
      have B := Lib.hid (B.out.trans (Below.mono b7 B.out.size))
      clear r7 b7
      go_wp2_with fail
      refine (eqFs_same _ _ _ _ m ys _ L2.out A4.out A6.out).mono ?_
      rintro e u12 ⟨rfl, b8⟩
      have B := Lib.hid (B.out.trans (Below.mono b8 B.out.size))
      clear b8
      go_wp2_with fail
      go_ret
      exact ⟨rfl, B.out⟩
    · have E2 : Hid (szF (1048576 - n) m = -1) := Lib.hid (if_neg ht)
      go_enter Try.func5, Try.ntmps5
      go_wp2_with fail
      refine (szFs_any a cn n 1048576 (by omega) (by omega) hm1 _).mono ?_
      rintro e w1 ⟨rfl, rfl⟩
      rw [E1.out]
      go_wp2_with fail
      refine (szFs_any d cm m _ q0 (by omega) hm2 _).mono ?_
      rintro e w1 ⟨rfl, rfl⟩
      rw [E2.out]
      go_wp2_with fail
      go_ret
      exact ⟨rfl, Below.refl _ _⟩
  · have E1 : Hid (szF 1048576 n = -1) := Lib.hid (if_neg hs)
    go_enter Try.func5, Try.ntmps5
    go_wp2_with fail
    refine (szFs_any a cn n 1048576 (by omega) (by omega) hm1 _).mono ?_
    rintro e w1 ⟨rfl, rfl⟩
    rw [E1.out]
    go_wp2_with fail
    go_ret
    exact ⟨rfl, Below.refl _ _⟩
theorem walk_FnExactSameFacts (x : FV) {w : World} (hx : x.In w) (y : FV) (hy : y.In w) : Calls Try.prog 5 #[x.val, y.val] w fun e w' => e = .returned (.bool true) ∧ Below w.heap.size w w' :=
  walk0_FnExactSameFacts _ _ _ _ _ _ _ _ w hx hy
namespace fnExactSameFacts
set_option maxHeartbeats 2000000 in
set_option maxRecDepth 100000 in
theorem lifted (os : Os) (started : os.Started) (H : Type) (enc : TypeId × Value → H) :
    ReturnsInHanded {} Try.checked os 5 .any (Rows.fnExactSameFactsSpec.pre6 enc Try.prog Try.f5 Rows.fnExactSameFactsRow.domain false) (Rows.fnExactSameFactsSpec.post enc Try.prog Try.f5 false true false false) := by
  refine returnsInHanded_of_change (C := Try.checked) own started (by kernel_rfl) Try.func5
    (ChangeSpec.witness6 (enc := enc) (C := Try.checked) false ⟨#[], #[.slice none 0 0, .slice none 0 0], []⟩ 8 (by kernel_rfl) (by kernel_rfl) (by kernel_rfl) (by kernel_rfl)) ?_
  intro W base args ds gs before hval0 hW hcnd _
  have hval : ∀ (j : Nat) t v, Try.f5.params[j]? = some t → args[j]? = some v → Value.okWide Try.prog W .any base t v := hval0
  have hW' := hW
  obtain ⟨p, q, hA0, hV, rfl, hfz, hnd⟩ := hW
  have hA : DataW.TrodAll enc Try.prog W 0 (fun _ => true) true Try.f5.params.toList args.toList ds p := hA0
  rw [Try.params5] at hA hval
  obtain ⟨v0, vs0, d0, ds0, p0, q0, hargs, rfl, rfl, h0, r0⟩ := trodAll_cons hA
  obtain ⟨v1, vs1, d1, ds1, p1, q1, rfl, rfl, rfl, h1, r1⟩ := trodAll_cons r0
  obtain ⟨rfl, rfl, rfl⟩ := trodAll_nil r1
  obtain rfl : args = #[v0, v1] := by cases args; simp_all
  obtain ⟨rfl, rfl⟩ := trodVars_none hV
  have k0 := h0
  have lt0 : ∀ x ∈ p0, x.block < W.heap.size := by obtain ⟨m, hm⟩ := k0; exact DataW.trod_lt m _ _ _ hm
  obtain ⟨x0, rfl, w0⟩ := open_facts Try.underlying41 Try.underlying68 Try.underlying2 (by kernel_rfl) (by kernel_rfl) (hval 0 41 v0 rfl rfl) h0
  have k1 := h1
  have lt1 : ∀ x ∈ p1, x.block < W.heap.size := by obtain ⟨m, hm⟩ := k1; exact DataW.trod_lt m _ _ _ hm
  obtain ⟨x1, rfl, w1⟩ := open_facts Try.underlying41 Try.underlying68 Try.underlying2 (by kernel_rfl) (by kernel_rfl) (hval 1 41 v1 rfl rfl) h1
  clear hA0 hval0
  refine (walk_FnExactSameFacts x0 w0 x1 w1 (w := W)).mono fun e W' ⟨he, bel⟩ => ?_
  subst he
  exact ⟨_, rfl, _, _, _, [], _, [], hW', trodAll_mk1 (shut_bool Try.underlying4 _), (trodAll_cons_mk (Below.trod laidOut (by kernel_rfl) (of_decide_eq_true (by kernel_rfl)) k0 bel lt0) (trodAll_cons_mk (Below.trod laidOut (by kernel_rfl) (of_decide_eq_true (by kernel_rfl)) k1 bel lt1) trodAll_mk0)), rfl, bel.frame _, fun h => by cases h⟩

theorem proved : Rows.FnExactSameFactsSaid :=
  OpenClaim.holds_of_wide 5 Try.f5 rfl rfl rfl rfl rfl rfl rfl ⟨rfl, rfl, rfl, rfl, rfl⟩ rfl rfl rfl rfl rfl (by kernel_rfl) Try.func5 (by kernel_rfl)
    (of_decide_eq_true (by kernel_rfl)) (by unfold Func.isWrapper; first | (rw [if_pos (by decide +kernel)]; kernel_rfl) | (rw [if_neg (by decide +kernel)]; exact ⟨rfl, rfl⟩))
    (fun os started H enc _ => lifted os started H enc)
end fnExactSameFacts

end Go.Proofs.Ytbdfehlcgjigpaa
