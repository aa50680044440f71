/- The law on UnrankSeeds: for all arguments the program answers as the reference, in memory of its own. No conditions. -/
import Derived.Test.YtcgckpnkmmjljaaUn
namespace Go.Proofs.Ytcgckpnkmmjljaa
open Go.Joins Go.ChangeShapes Go.WideShapes Go.ChangeAt Go.RowKit Go.Deep
set_option linter.unusedVariables false

/-- A row stays while another block is written. -/
theorem row_but {w w' : World} {a : Option Addr} {L : List Int} {b : Nat} (h : RowN w a L) (k : But b w w') (hb : L ≠ [] → ∀ g o, a = some ⟨g, o, none⟩ → g ≠ b) : RowN w' a L := by
  by_cases hne : L = []
  · subst hne; exact rowN_nil _ _
  · exact h.but k (hb hne)
/-- A row of a call's own lies behind the ones before. -/
theorem out_ne {w u : World} {a a' : Option Addr} {L L' : List Int} {B B' b b' : Nat} (h : OutN w B a b L) (hl : L ≠ [] → b < B') (h' : OutN u B' a' b' L') : L ≠ [] → ∀ g o, a = some ⟨g, o, none⟩ → g ≠ b' := by
  intro hne g o e
  rw [h.at_b g o e]
  have h1 := hl hne
  have h2 := h'.new
  omega
set_option maxHeartbeats 4000000 in
theorem walk_FnExactUnrankSeeds (s : Int) (hs : I64 s) (p : Int) (hp : I64 p) (r : Int) (hr : I64 r) {w : World} : Calls Try.prog 8 #[.int .i64 s, .int .i64 p, .int .i64 r] w fun e w' => e = .returned (.bool true) ∧ Below w.heap.size w w' := by
  have HS := Lib.hid (fun u : World => specUn_any s p r u)
  have HI := Lib.hid (fun u : World => implUn_any s p r u)
  have hlen : (unL s p r).length ≤ 16 := by
    unfold unL
    split
    · rename_i hk
      unfold unK at hk
      rw [Bool.and_eq_true, Bool.and_eq_true, decide_eq_true_eq, decide_eq_true_eq] at hk
      obtain ⟨S, P, rfl, rfl, hS, hP, hf⟩ := cn_parts hk.1
      obtain ⟨h1, h2⟩ := hk.2
      rw [Int.toNat_natCast, show ((P : Int) + 1).toNat = P + 1 by omega] at h2
      rw [vals_len, Int.toNat_natCast, show ((P : Int) + 1 - 1).toNat = P by omega, (unr_is P S r.toNat (by omega)).1]
      omega
    · simp
  generalize unL s p r = L at *
  generalize unC s p r = cd at *
  generalize hn : L.length = n at *
  have Hn := Lib.hid hn
  clear hn hs hp hr
  go_enter Try.func8, Try.ntmps8
  go_wp2_with fail
  refine (HS.out _).mono ?_
  rintro e w1 ⟨a0, c0, b0, rfl, o0, l0, b1⟩
  have B1 := Lib.hid b1
  have O0 := Lib.hid o0
  have L0 := Lib.hid l0
  clear b1 o0 l0
  go_wp2_with fail
  refine (HI.out _).mono ?_
  rintro e w2 ⟨a1, c1, b1, rfl, o1, l1, b2⟩
  have B2 := Lib.hid (B1.out.trans (b2.mono B1.out.size))
  have R0 := Lib.hid (O0.out.row.below b2)
  have O1 := Lib.hid o1
  have L1 := Lib.hid l1
  have HNE := Lib.hid (out_ne O0.out L0.out o1)
  have HB1 := Lib.hid (show w.heap.size ≤ b1 from Nat.le_trans B1.out.size o1.new)
  clear b2 o1 l1
  go_wp2_with fail
  refine (eqN_same a1 a0 c1 c0 n L _ Hn.out O1.out.row R0.out).mono ?_
  rintro e w3 ⟨rfl, b3⟩
  have B3 := Lib.hid (B2.out.trans (b3.mono B2.out.size))
  have R0 := Lib.hid (R0.out.below b3)
  have O1 := Lib.hid (O1.out.below b3)
  clear b3
  go_wp2_with fail
  refine (marksN_any _ b1 a1 c1 n 1 L _ Hn.out O1.out (by omega)).mono ?_
  rintro e w4 ⟨rfl, hbut, o4⟩
  have B4 := Lib.hid (hbut.below B3.out HB1.out B3.out.size)
  have R0 := Lib.hid (row_but R0.out hbut HNE.out)
  have GM := Lib.hid o4
  obtain ⟨M, hM⟩ : ∃ M : Int, M = ((1 + n : Nat) : Int) := ⟨_, rfl⟩
  have qg : ¬ M < 0 := by omega
  have HM := Lib.hid hM
  rw [← hM]
  clear hbut o4 hM
  go_wp2_with fail
  refine (heldN_any a1 c1 n 1 _ GM.out.row (by omega)).mono ?_
  rintro e w5 ⟨rfl, b5⟩
  rw [← HM.out]
  have B5 := Lib.hid (B4.out.trans (b5.mono B4.out.size))
  have R0 := Lib.hid (R0.out.below b5)
  have GM := Lib.hid (GM.out.below b5)
  clear b5
  go_wp2_with fail
  refine (HI.out _).mono ?_
  rintro e w6 ⟨a2, c2, b2, rfl, o2, l2, b6⟩
  have B6 := Lib.hid (B5.out.trans (b6.mono B5.out.size))
  have R0 := Lib.hid (R0.out.below b6)
  have GM := Lib.hid (GM.out.below b6)
  have R2 := Lib.hid o2.row
  clear b6 o2 l2
  go_wp2_with fail
  refine (eqN_same a2 a0 c2 c0 n L _ Hn.out R2.out R0.out).mono ?_
  rintro e w7 ⟨rfl, b7⟩
  have B7 := Lib.hid (B6.out.trans (b7.mono B6.out.size))
  have GM := Lib.hid (GM.out.below b7)
  clear b7
  go_wp2_with fail
  refine (heldN_any a1 c1 n 1 _ GM.out.row (by omega)).mono ?_
  rintro e w8 ⟨rfl, b8⟩
  rw [← HM.out]
  have B8 := Lib.hid (B7.out.trans (b8.mono B7.out.size))
  clear b8
  go_wp2_with fail
  go_ret
  exact ⟨rfl, B8.out⟩
namespace fnExactUnrankSeeds
set_option maxHeartbeats 2000000 in
set_option maxRecDepth 100000 in
theorem lifted (os : Os) (started : os.Started) (H : Type) (enc : TypeId × Value → H) :
    ReturnsInHanded {} Try.checked os 8 .any (Rows.fnExactUnrankSeedsSpec.pre6 enc Try.prog Try.f8 Rows.fnExactUnrankSeedsRow.domain false) (Rows.fnExactUnrankSeedsSpec.post enc Try.prog Try.f8 false true false false) := by
  refine returnsInHanded_of_change (C := Try.checked) own started (by kernel_rfl) Try.func8
    (ChangeSpec.witness6 (enc := enc) (C := Try.checked) false ⟨#[], #[.int .i64 0, .int .i64 0, .int .i64 0], []⟩ 8 (by kernel_rfl) (by kernel_rfl) (by kernel_rfl) (by kernel_rfl)) ?_
  intro W base args ds gs before hval0 hW hcnd _
  have hval : ∀ (j : Nat) t v, Try.f8.params[j]? = some t → args[j]? = some v → Value.okWide Try.prog W .any base t v := hval0
  have hW' := hW
  obtain ⟨p, q, hA0, hV, rfl, hfz, hnd⟩ := hW
  have hA : DataW.TrodAll enc Try.prog W 0 (fun _ => true) true Try.f8.params.toList args.toList ds p := hA0
  rw [Try.params8] at hA hval
  obtain ⟨v0, vs0, d0, ds0, p0, q0, hargs, rfl, rfl, h0, r0⟩ := trodAll_cons hA
  obtain ⟨v1, vs1, d1, ds1, p1, q1, rfl, rfl, rfl, h1, r1⟩ := trodAll_cons r0
  obtain ⟨v2, vs2, d2, ds2, p2, q2, rfl, rfl, rfl, h2, r2⟩ := trodAll_cons r1
  obtain ⟨rfl, rfl, rfl⟩ := trodAll_nil r2
  obtain rfl : args = #[v0, v1, v2] := by cases args; simp_all
  obtain ⟨rfl, rfl⟩ := trodVars_none hV
  have k0 := h0
  have lt0 : ∀ x ∈ p0, x.block < W.heap.size := by obtain ⟨m, hm⟩ := k0; exact DataW.trod_lt m _ _ _ hm
  obtain ⟨a0, rfl, -, -, w0⟩ := open_int Try.underlying2 (hval 0 2 v0 rfl rfl) h0
  have k1 := h1
  have lt1 : ∀ x ∈ p1, x.block < W.heap.size := by obtain ⟨m, hm⟩ := k1; exact DataW.trod_lt m _ _ _ hm
  obtain ⟨a1, rfl, -, -, w1⟩ := open_int Try.underlying2 (hval 1 2 v1 rfl rfl) h1
  have k2 := h2
  have lt2 : ∀ x ∈ p2, x.block < W.heap.size := by obtain ⟨m, hm⟩ := k2; exact DataW.trod_lt m _ _ _ hm
  obtain ⟨a2, rfl, -, -, w2⟩ := open_int Try.underlying2 (hval 2 2 v2 rfl rfl) h2
  clear hA0 hval0
  refine (walk_FnExactUnrankSeeds a0 (wf_i64 w0) a1 (wf_i64 w1) a2 (wf_i64 w2) (w := W)).mono fun e W' ⟨he, bel⟩ => ?_
  subst he
  exact ⟨_, rfl, _, _, _, [], _, [], hW', trodAll_mk1 (shut_bool Try.underlying4 _), (trodAll_cons_mk (Below.trod laidOut (by kernel_rfl) (of_decide_eq_true (by kernel_rfl)) k0 bel lt0) (trodAll_cons_mk (Below.trod laidOut (by kernel_rfl) (of_decide_eq_true (by kernel_rfl)) k1 bel lt1) (trodAll_cons_mk (Below.trod laidOut (by kernel_rfl) (of_decide_eq_true (by kernel_rfl)) k2 bel lt2) trodAll_mk0))), rfl, bel.frame _, fun h => by cases h⟩

theorem proved : Rows.FnExactUnrankSeedsSaid :=
  OpenClaim.holds_of_wide 8 Try.f8 rfl rfl rfl rfl rfl rfl rfl ⟨rfl, rfl, rfl, rfl, rfl⟩ rfl rfl rfl rfl rfl (by kernel_rfl) Try.func8 (by kernel_rfl)
    (of_decide_eq_true (by kernel_rfl)) (by unfold Func.isWrapper; first | (rw [if_pos (by decide +kernel)]; kernel_rfl) | (rw [if_neg (by decide +kernel)]; exact ⟨rfl, rfl⟩))
    (fun os started H enc _ => lifted os started H enc)
end fnExactUnrankSeeds

end Go.Proofs.Ytcgckpnkmmjljaa
