/- The laws on NextSeeds and LastSeeds: for all arguments the program answers as the reference, in memory of its own, and leaves its argument alone. No conditions. -/
import Derived.Test.YtcgckpnkmmjljaaNx
import Derived.Test.YtcgckpnkmmjljaaLawUn
import Derived.Test.YtcgckpnkmmjljaaOpenI
namespace Go.Proofs.Ytcgckpnkmmjljaa
open Go.Joins Go.ChangeShapes Go.WideShapes Go.ChangeAt Go.RowKit Go.Deep
set_option linter.unusedVariables false

theorem by_len (xs : List Int) (d : Int) : (byL xs d).length ≤ 16 := by
  rcases hk : okD xs with _ | _
  · rw [(by_no hk).1]; simp
  · rcases hk2 : byK xs d with _ | _
    · rw [(by_out hk hk2).1]; simp
    · obtain ⟨ys, P, rfl, hD⟩ := okD_parts hk
      have hbk := byK_eq hD d
      rw [hk2, eq_comm, Bool.and_eq_true, decide_eq_true_eq, decide_eq_true_eq] at hbk
      obtain ⟨R, hR⟩ : ∃ R : Nat, (rk ys : Int) + d = (R : Int) := ⟨((rk ys : Int) + d).toNat, by omega⟩
      have e := by_in hk hk2
      rw [(rk_yes hD).1, vals_tot, vals_len, hD.len, Int.toNat_natCast, hR, Int.toNat_natCast, show P + 1 - 1 = P by omega] at e
      rw [e.1, vals_len, (unr_is P (sm ys) R (by omega)).1]
      have := hD.p15
      omega
set_option maxHeartbeats 4000000 in
theorem walk_FnExactNextSeeds (q : IV) {w : World} (hq : q.In w) : Calls Try.prog 9 #[q.val] w fun e w' => e = .returned (.bool true) ∧ Below w.heap.size w w' := by
  obtain ⟨a, n, c, xs⟩ := q
  obtain ⟨h1, h2, h3⟩ := hq
  show Calls Try.prog 9 #[.slice a n c] w _
  change xs.length = n at h2
  change n ≤ _ at h3
  by_cases hsz : (1048576 : Int) < (n : Int)
  · clear h1 h2
    go_enter Try.func9, Try.ntmps9
    go_wp2_with fail
    go_ret
    exact ⟨rfl, Below.refl _ _⟩
  · have H := Lib.hid (h1 (by show xs.length ≤ _; omega))
    have Hn := Lib.hid h2
    have h2' := h2
    have HT := Lib.hid (fun (u : World) (hu : Below w.heap.size w u) => toRow_any a c n xs u h2' (H.out.below hu))
    have HS := Lib.hid (fun (a : Option Addr) (c : Nat) (u : World) (hr : RowN u a xs) => specNx_any a c n xs u h2' hr)
    have HI := Lib.hid (fun (a : Option Addr) (u : World) (hr : RowN u a xs) => implNx_any a n n xs u h2' hr (Nat.le_refl _))
    have hl16 := by_len xs 1
    have hn : n ≤ 1048576 := by omega
    generalize byL xs 1 = L at *
    generalize byC xs 1 = cd at *
    generalize hm : L.length = m at *
    have Hm := Lib.hid hm
    clear h1 h2 h2' hm
    go_enter Try.func9, Try.ntmps9
    go_wp2_with fail
    refine (HT.out _ (Below.refl _ _)).mono ?_
    rintro e w1 ⟨g1, rfl, o1, l1, b1⟩
    have B1 := Lib.hid b1
    have R1 := Lib.hid o1.row
    clear b1 o1
    go_wp2_with fail
    refine (HS.out _ _ _ R1.out).mono ?_
    rintro e w2 ⟨a0, c0, b0, rfl, o0, l0, b2⟩
    have B2 := Lib.hid (B1.out.trans (b2.mono B1.out.size))
    have O0 := Lib.hid o0
    have L0 := Lib.hid l0
    clear b2 o0 l0
    go_wp2_with fail
    refine (HT.out _ B2.out).mono ?_
    rintro e w3 ⟨gx, rfl, ox, lx, b3⟩
    have B3 := Lib.hid (B2.out.trans (b3.mono B2.out.size))
    have R0 := Lib.hid (O0.out.row.below b3)
    have OX := Lib.hid ox
    have NEX := Lib.hid (out_ne O0.out L0.out ox)
    have hgx : w.heap.size ≤ gx := Nat.le_trans B2.out.size ox.new
    clear b3 ox
    go_wp2_with fail
    refine (HI.out _ _ OX.out.row).mono ?_
    rintro e w4 ⟨a1, c1, b1, rfl, o1, l1', b4⟩
    have B4 := Lib.hid (B3.out.trans (b4.mono B3.out.size))
    have NE1 := Lib.hid (out_ne (O0.out.below (Below.refl _ _)) (fun h => Nat.lt_of_lt_of_le (L0.out h) (Nat.le_trans OX.out.new (Nat.le_of_lt lx))) o1)
    have hb1 : gx < b1 := Nat.lt_of_lt_of_le lx o1.new
    have R0 := Lib.hid (R0.out.below b4)
    have OX := Lib.hid (OX.out.below b4)
    have lx : gx < w4.heap.size := Nat.lt_of_lt_of_le lx b4.size
    have O1 := Lib.hid o1
    clear b4 o1 l1'
    go_wp2_with fail
    refine (eqN_same a1 a0 c1 c0 m L _ Hm.out O1.out.row R0.out).mono ?_
    rintro e w5 ⟨rfl, b5⟩
    have B5 := Lib.hid (B4.out.trans (b5.mono B4.out.size))
    have R0 := Lib.hid (R0.out.below b5)
    have OX := Lib.hid (OX.out.below b5)
    have O1 := Lib.hid (O1.out.below b5)
    clear b5
    go_wp2_with fail
    refine (HT.out _ B5.out).mono ?_
    rintro e w6 ⟨g6, rfl, o6, l6, b6⟩
    have B6 := Lib.hid (B5.out.trans (b6.mono B5.out.size))
    have R6 := Lib.hid o6.row
    have R0 := Lib.hid (R0.out.below b6)
    have OX := Lib.hid (OX.out.below b6)
    have O1 := Lib.hid (O1.out.below b6)
    clear b6 o6
    go_wp2_with fail
    refine (eqN_same _ _ _ _ n xs _ Hn.out OX.out.row R6.out).mono ?_
    rintro e w7 ⟨rfl, b7⟩
    have B7 := Lib.hid (B6.out.trans (b7.mono B6.out.size))
    have R0 := Lib.hid (R0.out.below b7)
    have OX := Lib.hid (OX.out.below b7)
    have O1 := Lib.hid (O1.out.below b7)
    clear b7
    obtain ⟨K, hK⟩ : ∃ M : Int, M = ((1 + n : Nat) : Int) := ⟨_, rfl⟩
    obtain ⟨M, hM⟩ : ∃ M : Int, M = ((1 + m : Nat) : Int) := ⟨_, rfl⟩
    have qk : ¬ K < 0 := by omega
    have qg : ¬ M < 0 := by omega
    have HK := Lib.hid hK
    have HM := Lib.hid hM
    clear hK hM
    go_wp2_with fail
    refine (marksN_any _ gx _ n n 1 xs _ Hn.out OX.out (by omega)).mono ?_
    rintro e w8 ⟨rfl, hbut, o8⟩
    rw [← HK.out]
    have B8 := Lib.hid (hbut.below B7.out hgx B7.out.size)
    have R0 := Lib.hid (row_but R0.out hbut NEX.out)
    have O1 := Lib.hid (O1.out.but hbut (by omega))
    clear hbut o8
    go_wp2_with fail
    refine (eqN_same a1 a0 c1 c0 m L _ Hm.out (by first | exact O1.out.row | exact O1.out.row.below (Below.refl _ _).drew) (by first | exact R0.out | exact R0.out.below (Below.refl _ _).drew)).mono ?_
    rintro e w9 ⟨rfl, b9⟩
    have B9 := Lib.hid (by first | exact B8.out.trans (b9.mono B8.out.size) | exact B8.out.drew.trans (b9.mono B8.out.size) : Below w.heap.size w w9)
    have R0 := Lib.hid (by first | exact R0.out.below b9 | exact (R0.out.below (Below.refl _ _).drew).below b9 : RowN w9 a0 L)
    have O1 := Lib.hid (by first | exact O1.out.below b9 | exact (O1.out.below (Below.refl _ _).drew).below b9 : OutN w9 _ a1 b1 L)
    clear b9
    go_wp2_with fail
    refine (marksN_any _ b1 a1 c1 m 1 L _ Hm.out O1.out (by omega)).mono ?_
    rintro e w10 ⟨rfl, hbut, o10⟩
    rw [← HM.out]
    have B10 := Lib.hid (hbut.below B9.out (by omega) B9.out.size)
    have R0 := Lib.hid (row_but R0.out hbut NE1.out)
    have GM := Lib.hid o10
    clear hbut o10
    go_wp2_with fail
    refine (heldN_any a1 c1 m 1 _ GM.out.row (by omega)).mono ?_
    rintro e w11 ⟨rfl, b11⟩
    rw [← HM.out]
    have B11 := Lib.hid (B10.out.trans (b11.mono B10.out.size))
    have R0 := Lib.hid (R0.out.below b11)
    have GM := Lib.hid (GM.out.below b11)
    clear b11
    go_wp2_with fail
    refine (HT.out _ B11.out).mono ?_
    rintro e w12 ⟨g12, rfl, o12, l12, b12⟩
    have B12 := Lib.hid (B11.out.trans (b12.mono B11.out.size))
    have R0 := Lib.hid (R0.out.below b12)
    have GM := Lib.hid (GM.out.below b12)
    have R12 := Lib.hid o12.row
    clear b12 o12
    go_wp2_with fail
    refine (HI.out _ _ R12.out).mono ?_
    rintro e w13 ⟨a2, c2, b2, rfl, o13, l13, b13⟩
    have B13 := Lib.hid (B12.out.trans (b13.mono B12.out.size))
    have R0 := Lib.hid (R0.out.below b13)
    have GM := Lib.hid (GM.out.below b13)
    have R2 := Lib.hid o13.row
    clear b13 o13 l13
    go_wp2_with fail
    refine (eqN_same a2 a0 c2 c0 m L _ Hm.out R2.out R0.out).mono ?_
    rintro e w14 ⟨rfl, b14⟩
    have B14 := Lib.hid (B13.out.trans (b14.mono B13.out.size))
    have GM := Lib.hid (GM.out.below b14)
    clear b14
    go_wp2_with fail
    refine (heldN_any a1 c1 m 1 _ GM.out.row (by omega)).mono ?_
    rintro e w15 ⟨rfl, b15⟩
    rw [← HM.out]
    have B15 := Lib.hid (B14.out.trans (b15.mono B14.out.size))
    clear b15
    go_wp2_with fail
    go_ret
    exact ⟨rfl, B15.out⟩
namespace fnExactNextSeeds
set_option maxHeartbeats 2000000 in
set_option maxRecDepth 100000 in
theorem lifted (os : Os) (started : os.Started) (H : Type) (enc : TypeId × Value → H) :
    ReturnsInHanded {} Try.checked os 9 .any (Rows.fnExactNextSeedsSpec.pre6 enc Try.prog Try.f9 Rows.fnExactNextSeedsRow.domain false) (Rows.fnExactNextSeedsSpec.post enc Try.prog Try.f9 false true false false) := by
  refine returnsInHanded_of_change (C := Try.checked) own started (by kernel_rfl) Try.func9
    (ChangeSpec.witness6 (enc := enc) (C := Try.checked) false ⟨#[], #[.slice none 0 0], []⟩ 8 (by kernel_rfl) (by kernel_rfl) (by kernel_rfl) (by kernel_rfl)) ?_
  intro W base args ds gs before hval0 hW hcnd _
  have hval : ∀ (j : Nat) t v, Try.f9.params[j]? = some t → args[j]? = some v → Value.okWide Try.prog W .any base t v := hval0
  have hW' := hW
  obtain ⟨p, q, hA0, hV, rfl, hfz, hnd⟩ := hW
  have hA : DataW.TrodAll enc Try.prog W 0 (fun _ => true) true Try.f9.params.toList args.toList ds p := hA0
  rw [Try.params9] at hA hval
  obtain ⟨v0, vs0, d0, ds0, p0, q0, hargs, rfl, rfl, h0, r0⟩ := trodAll_cons hA
  obtain ⟨rfl, rfl, rfl⟩ := trodAll_nil r0
  obtain rfl : args = #[v0] := by cases args; simp_all
  obtain ⟨rfl, rfl⟩ := trodVars_none hV
  have k0 := h0
  have lt0 : ∀ x ∈ p0, x.block < W.heap.size := by obtain ⟨m, hm⟩ := k0; exact DataW.trod_lt m _ _ _ hm
  obtain ⟨x0, rfl, w0⟩ := open_nums Try.underlying24 Try.underlying2 (by kernel_rfl) (hval 0 24 v0 rfl rfl) h0
  clear hA0 hval0
  refine (walk_FnExactNextSeeds x0 w0 (w := W)).mono fun e W' ⟨he, bel⟩ => ?_
  subst he
  exact ⟨_, rfl, _, _, _, [], _, [], hW', trodAll_mk1 (shut_bool Try.underlying4 _), (trodAll_cons_mk (Below.trod laidOut (by kernel_rfl) (of_decide_eq_true (by kernel_rfl)) k0 bel lt0) trodAll_mk0), rfl, bel.frame _, fun h => by cases h⟩

theorem proved : Rows.FnExactNextSeedsSaid :=
  OpenClaim.holds_of_wide 9 Try.f9 rfl rfl rfl rfl rfl rfl rfl ⟨rfl, rfl, rfl, rfl, rfl⟩ rfl rfl rfl rfl rfl (by kernel_rfl) Try.func9 (by kernel_rfl)
    (of_decide_eq_true (by kernel_rfl)) (by unfold Func.isWrapper; first | (rw [if_pos (by decide +kernel)]; kernel_rfl) | (rw [if_neg (by decide +kernel)]; exact ⟨rfl, rfl⟩))
    (fun os started H enc _ => lifted os started H enc)
end fnExactNextSeeds

set_option maxHeartbeats 4000000 in
theorem walk_FnExactLastSeeds (q : IV) {w : World} (hq : q.In w) : Calls Try.prog 10 #[q.val] w fun e w' => e = .returned (.bool true) ∧ Below w.heap.size w w' := by
  obtain ⟨a, n, c, xs⟩ := q
  obtain ⟨h1, h2, h3⟩ := hq
  show Calls Try.prog 10 #[.slice a n c] w _
  change xs.length = n at h2
  change n ≤ _ at h3
  by_cases hsz : (1048576 : Int) < (n : Int)
  · clear h1 h2
    go_enter Try.func10, Try.ntmps10
    go_wp2_with fail
    go_ret
    exact ⟨rfl, Below.refl _ _⟩
  · have H := Lib.hid (h1 (by show xs.length ≤ _; omega))
    have Hn := Lib.hid h2
    have h2' := h2
    have HT := Lib.hid (fun (u : World) (hu : Below w.heap.size w u) => toRow_any a c n xs u h2' (H.out.below hu))
    have HS := Lib.hid (fun (a : Option Addr) (c : Nat) (u : World) (hr : RowN u a xs) => specLs_any a c n xs u h2' hr)
    have HI := Lib.hid (fun (a : Option Addr) (u : World) (hr : RowN u a xs) => implLs_any a n n xs u h2' hr (Nat.le_refl _))
    have hl16 := by_len xs (-1)
    have hn : n ≤ 1048576 := by omega
    generalize byL xs (-1) = L at *
    generalize byC xs (-1) = cd at *
    generalize hm : L.length = m at *
    have Hm := Lib.hid hm
    clear h1 h2 h2' hm
    go_enter Try.func10, Try.ntmps10
    go_wp2_with fail
    refine (HT.out _ (Below.refl _ _)).mono ?_
    rintro e w1 ⟨g1, rfl, o1, l1, b1⟩
    have B1 := Lib.hid b1
    have R1 := Lib.hid o1.row
    clear b1 o1
    go_wp2_with fail
    refine (HS.out _ _ _ R1.out).mono ?_
    rintro e w2 ⟨a0, c0, b0, rfl, o0, l0, b2⟩
    have B2 := Lib.hid (B1.out.trans (b2.mono B1.out.size))
    have O0 := Lib.hid o0
    have L0 := Lib.hid l0
    clear b2 o0 l0
    go_wp2_with fail
    refine (HT.out _ B2.out).mono ?_
    rintro e w3 ⟨gx, rfl, ox, lx, b3⟩
    have B3 := Lib.hid (B2.out.trans (b3.mono B2.out.size))
    have R0 := Lib.hid (O0.out.row.below b3)
    have OX := Lib.hid ox
    have NEX := Lib.hid (out_ne O0.out L0.out ox)
    have hgx : w.heap.size ≤ gx := Nat.le_trans B2.out.size ox.new
    clear b3 ox
    go_wp2_with fail
    refine (HI.out _ _ OX.out.row).mono ?_
    rintro e w4 ⟨a1, c1, b1, rfl, o1, l1', b4⟩
    have B4 := Lib.hid (B3.out.trans (b4.mono B3.out.size))
    have NE1 := Lib.hid (out_ne (O0.out.below (Below.refl _ _)) (fun h => Nat.lt_of_lt_of_le (L0.out h) (Nat.le_trans OX.out.new (Nat.le_of_lt lx))) o1)
    have hb1 : gx < b1 := Nat.lt_of_lt_of_le lx o1.new
    have R0 := Lib.hid (R0.out.below b4)
    have OX := Lib.hid (OX.out.below b4)
    have lx : gx < w4.heap.size := Nat.lt_of_lt_of_le lx b4.size
    have O1 := Lib.hid o1
    clear b4 o1 l1'
    go_wp2_with fail
    refine (eqN_same a1 a0 c1 c0 m L _ Hm.out O1.out.row R0.out).mono ?_
    rintro e w5 ⟨rfl, b5⟩
    have B5 := Lib.hid (B4.out.trans (b5.mono B4.out.size))
    have R0 := Lib.hid (R0.out.below b5)
    have OX := Lib.hid (OX.out.below b5)
    have O1 := Lib.hid (O1.out.below b5)
    clear b5
    go_wp2_with fail
    refine (HT.out _ B5.out).mono ?_
    rintro e w6 ⟨g6, rfl, o6, l6, b6⟩
    have B6 := Lib.hid (B5.out.trans (b6.mono B5.out.size))
    have R6 := Lib.hid o6.row
    have R0 := Lib.hid (R0.out.below b6)
    have OX := Lib.hid (OX.out.below b6)
    have O1 := Lib.hid (O1.out.below b6)
    clear b6 o6
    go_wp2_with fail
    refine (eqN_same _ _ _ _ n xs _ Hn.out OX.out.row R6.out).mono ?_
    rintro e w7 ⟨rfl, b7⟩
    have B7 := Lib.hid (B6.out.trans (b7.mono B6.out.size))
    have R0 := Lib.hid (R0.out.below b7)
    have OX := Lib.hid (OX.out.below b7)
    have O1 := Lib.hid (O1.out.below b7)
    clear b7
    obtain ⟨K, hK⟩ : ∃ M : Int, M = ((1 + n : Nat) : Int) := ⟨_, rfl⟩
    obtain ⟨M, hM⟩ : ∃ M : Int, M = ((1 + m : Nat) : Int) := ⟨_, rfl⟩
    have qk : ¬ K < 0 := by omega
    have qg : ¬ M < 0 := by omega
    have HK := Lib.hid hK
    have HM := Lib.hid hM
    clear hK hM
    go_wp2_with fail
    refine (marksN_any _ gx _ n n 1 xs _ Hn.out OX.out (by omega)).mono ?_
    rintro e w8 ⟨rfl, hbut, o8⟩
    rw [← HK.out]
    have B8 := Lib.hid (hbut.below B7.out hgx B7.out.size)
    have R0 := Lib.hid (row_but R0.out hbut NEX.out)
    have O1 := Lib.hid (O1.out.but hbut (by omega))
    clear hbut o8
    go_wp2_with fail
    refine (eqN_same a1 a0 c1 c0 m L _ Hm.out (by first | exact O1.out.row | exact O1.out.row.below (Below.refl _ _).drew) (by first | exact R0.out | exact R0.out.below (Below.refl _ _).drew)).mono ?_
    rintro e w9 ⟨rfl, b9⟩
    have B9 := Lib.hid (by first | exact B8.out.trans (b9.mono B8.out.size) | exact B8.out.drew.trans (b9.mono B8.out.size) : Below w.heap.size w w9)
    have R0 := Lib.hid (by first | exact R0.out.below b9 | exact (R0.out.below (Below.refl _ _).drew).below b9 : RowN w9 a0 L)
    have O1 := Lib.hid (by first | exact O1.out.below b9 | exact (O1.out.below (Below.refl _ _).drew).below b9 : OutN w9 _ a1 b1 L)
    clear b9
    go_wp2_with fail
    refine (marksN_any _ b1 a1 c1 m 1 L _ Hm.out O1.out (by omega)).mono ?_
    rintro e w10 ⟨rfl, hbut, o10⟩
    rw [← HM.out]
    have B10 := Lib.hid (hbut.below B9.out (by omega) B9.out.size)
    have R0 := Lib.hid (row_but R0.out hbut NE1.out)
    have GM := Lib.hid o10
    clear hbut o10
    go_wp2_with fail
    refine (heldN_any a1 c1 m 1 _ GM.out.row (by omega)).mono ?_
    rintro e w11 ⟨rfl, b11⟩
    rw [← HM.out]
    have B11 := Lib.hid (B10.out.trans (b11.mono B10.out.size))
    have R0 := Lib.hid (R0.out.below b11)
    have GM := Lib.hid (GM.out.below b11)
    clear b11
    go_wp2_with fail
    refine (HT.out _ B11.out).mono ?_
    rintro e w12 ⟨g12, rfl, o12, l12, b12⟩
    have B12 := Lib.hid (B11.out.trans (b12.mono B11.out.size))
    have R0 := Lib.hid (R0.out.below b12)
    have GM := Lib.hid (GM.out.below b12)
    have R12 := Lib.hid o12.row
    clear b12 o12
    go_wp2_with fail
    refine (HI.out _ _ R12.out).mono ?_
    rintro e w13 ⟨a2, c2, b2, rfl, o13, l13, b13⟩
    have B13 := Lib.hid (B12.out.trans (b13.mono B12.out.size))
    have R0 := Lib.hid (R0.out.below b13)
    have GM := Lib.hid (GM.out.below b13)
    have R2 := Lib.hid o13.row
    clear b13 o13 l13
    go_wp2_with fail
    refine (eqN_same a2 a0 c2 c0 m L _ Hm.out R2.out R0.out).mono ?_
    rintro e w14 ⟨rfl, b14⟩
    have B14 := Lib.hid (B13.out.trans (b14.mono B13.out.size))
    have GM := Lib.hid (GM.out.below b14)
    clear b14
    go_wp2_with fail
    refine (heldN_any a1 c1 m 1 _ GM.out.row (by omega)).mono ?_
    rintro e w15 ⟨rfl, b15⟩
    rw [← HM.out]
    have B15 := Lib.hid (B14.out.trans (b15.mono B14.out.size))
    clear b15
    go_wp2_with fail
    go_ret
    exact ⟨rfl, B15.out⟩
namespace fnExactLastSeeds
set_option maxHeartbeats 2000000 in
set_option maxRecDepth 100000 in
theorem lifted (os : Os) (started : os.Started) (H : Type) (enc : TypeId × Value → H) :
    ReturnsInHanded {} Try.checked os 10 .any (Rows.fnExactLastSeedsSpec.pre6 enc Try.prog Try.f10 Rows.fnExactLastSeedsRow.domain false) (Rows.fnExactLastSeedsSpec.post enc Try.prog Try.f10 false true false false) := by
  refine returnsInHanded_of_change (C := Try.checked) own started (by kernel_rfl) Try.func10
    (ChangeSpec.witness6 (enc := enc) (C := Try.checked) false ⟨#[], #[.slice none 0 0], []⟩ 8 (by kernel_rfl) (by kernel_rfl) (by kernel_rfl) (by kernel_rfl)) ?_
  intro W base args ds gs before hval0 hW hcnd _
  have hval : ∀ (j : Nat) t v, Try.f10.params[j]? = some t → args[j]? = some v → Value.okWide Try.prog W .any base t v := hval0
  have hW' := hW
  obtain ⟨p, q, hA0, hV, rfl, hfz, hnd⟩ := hW
  have hA : DataW.TrodAll enc Try.prog W 0 (fun _ => true) true Try.f10.params.toList args.toList ds p := hA0
  rw [Try.params10] at hA hval
  obtain ⟨v0, vs0, d0, ds0, p0, q0, hargs, rfl, rfl, h0, r0⟩ := trodAll_cons hA
  obtain ⟨rfl, rfl, rfl⟩ := trodAll_nil r0
  obtain rfl : args = #[v0] := by cases args; simp_all
  obtain ⟨rfl, rfl⟩ := trodVars_none hV
  have k0 := h0
  have lt0 : ∀ x ∈ p0, x.block < W.heap.size := by obtain ⟨m, hm⟩ := k0; exact DataW.trod_lt m _ _ _ hm
  obtain ⟨x0, rfl, w0⟩ := open_nums Try.underlying24 Try.underlying2 (by kernel_rfl) (hval 0 24 v0 rfl rfl) h0
  clear hA0 hval0
  refine (walk_FnExactLastSeeds x0 w0 (w := W)).mono fun e W' ⟨he, bel⟩ => ?_
  subst he
  exact ⟨_, rfl, _, _, _, [], _, [], hW', trodAll_mk1 (shut_bool Try.underlying4 _), (trodAll_cons_mk (Below.trod laidOut (by kernel_rfl) (of_decide_eq_true (by kernel_rfl)) k0 bel lt0) trodAll_mk0), rfl, bel.frame _, fun h => by cases h⟩

theorem proved : Rows.FnExactLastSeedsSaid :=
  OpenClaim.holds_of_wide 10 Try.f10 rfl rfl rfl rfl rfl rfl rfl ⟨rfl, rfl, rfl, rfl, rfl⟩ rfl rfl rfl rfl rfl (by kernel_rfl) Try.func10 (by kernel_rfl)
    (of_decide_eq_true (by kernel_rfl)) (by unfold Func.isWrapper; first | (rw [if_pos (by decide +kernel)]; kernel_rfl) | (rw [if_neg (by decide +kernel)]; exact ⟨rfl, rfl⟩))
    (fun os started H enc _ => lifted os started H enc)
end fnExactLastSeeds

end Go.Proofs.Ytcgckpnkmmjljaa
