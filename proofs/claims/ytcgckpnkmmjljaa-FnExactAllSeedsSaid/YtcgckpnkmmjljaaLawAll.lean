/- The law on AllSeeds: for all arguments the program answers as the reference, in memory of its own. No conditions. -/
import Derived.Test.YtcgckpnkmmjljaaAll
namespace Go.Proofs.Ytcgckpnkmmjljaa
open Go.Joins Go.ChangeShapes Go.WideShapes Go.ChangeAt Go.RowKit Go.Deep
set_option linter.unusedVariables false

theorem OutN.keepB {w u : World} {lo b B : Nat} {a : Option Addr} {xs : List Int} (h : OutN w lo a b xs) (hb : b < B) (k : Below B w u) : OutN u lo a b xs := by
  refine ⟨?_, h.at_b, h.new, fun hn => ?_⟩
  · obtain ⟨hl, h1 | ⟨g, o, ha, hg, hx⟩⟩ := h.row
    · exact ⟨hl, .inl h1⟩
    · have e := h.at_b g o ha
      subst e
      exact ⟨hl, .inr ⟨g, o, ha, Nat.lt_of_lt_of_le hg k.size, fun i x hi => (World.cell?_of_block (a := ⟨g, o + i, none⟩) (k.block g hb)).trans (hx i x hi)⟩⟩
  · obtain ⟨h1, h2⟩ := h.free hn
    exact ⟨Nat.lt_of_lt_of_le h1 k.size, fun o => (World.frozen?_of_block (a := ⟨b, o, none⟩) (k.block b hb)).trans (h2 o)⟩
theorem Gr.keepB {w u : World} {lo p n B : Nat} {v : Value} {G C : Nat → Nat} {L : Nat → List Int} (h : Gr w lo v p n G C L) (hv : ∀ q, v.ownBlock = some q → q < B) (hG : ∀ i, i < n → G i < B) (k : Below B w u) : Gr u lo v p n G C L := by
  refine ⟨?_, fun i hi => ⟨(h.it i hi).1.keepB (hG i hi) k, Nat.lt_of_lt_of_le (h.it i hi).2.1 k.size, (h.it i hi).2.2⟩, h.ne, h.pw⟩
  obtain ⟨h1, h2 | ⟨g, cap, cur, hv', hb, hg, hr⟩⟩ := h.own
  · exact ⟨h1, .inl h2⟩
  · exact ⟨h1, .inr ⟨g, cap, cur, hv', hb, by rw [k.block g (hv g (by rw [hv']; rfl))]; exact hg, hr⟩⟩
/-- Both sides give the same. -/
theorem all_ex (s p : Int) : ∃ (cd : Int) (q n : Nat) (L : Nat → List Int), n ≤ 3000 ∧ q ≤ 16 ∧ (∀ u, Calls Try.prog 35 #[.int .i64 s, .int .i64 p] u (AlP cd q n L u)) ∧ ∀ u, Calls Try.prog 25 #[.int .i64 s, .int .i64 p] u (AlP cd q n L u) := by
  rcases hk : cnK s p with _ | _
  · exact ⟨2, 0, 0, fun _ => [], by omega, by omega, fun u => specAll_no s p u hk 0 _, fun u => implAll_no s p u hk 0 _⟩
  · obtain ⟨S, P, rfl, rfl, hS, hP, hf⟩ := cn_parts hk
    by_cases hb : cnt S (P + 1) ≤ 3000
    · exact ⟨0, P + 1, cnt S (P + 1), fun i => vals (unr P S i), hb, by omega, fun u => specAll_yes S P u hS hP hb, fun u => implAll_yes S P u hS hP hb⟩
    · exact ⟨5, 0, 0, fun _ => [], by omega, by omega, fun u => specAll_big S P u hS hP hf (by omega) 0 _, fun u => implAll_big S P u hS hP hf (by omega) 0 _⟩
set_option maxHeartbeats 4000000 in
theorem walk_FnExactAllSeeds (s : Int) (hs : I64 s) (p : Int) (hp : I64 p) {w : World} : Calls Try.prog 11 #[.int .i64 s, .int .i64 p] w fun e w' => e = .returned (.bool true) ∧ Below w.heap.size w w' := by
  obtain ⟨cd, q, n, L, hn, hq, hS, hI⟩ := all_ex s p
  have HS := Lib.hid hS
  have HI := Lib.hid hI
  have hnq : n * q ≤ 3000 * 16 := Nat.mul_le_mul hn hq
  clear hS hI hs hp
  go_enter Try.func11, Try.ntmps11
  go_wp2_with fail
  refine (HS.out _).mono ?_
  rintro e w1 ⟨v0, G0, C0, rfl, g0, b1⟩
  have B1 := Lib.hid b1
  have R0 := Lib.hid g0
  have HV : Hid (∀ k, v0.ownBlock = some k → k < w1.heap.size) := Lib.hid (fun k hk => (g0.own.lt k hk).2)
  have HG : Hid (∀ i, i < n → G0 i < w1.heap.size) := Lib.hid (fun i hi => (g0.it i hi).2.1)
  clear b1 g0
  go_wp2_with fail
  refine (HI.out _).mono ?_
  rintro e w2 ⟨v1, G1, C1, rfl, g1, b2⟩
  have B2 := Lib.hid (B1.out.trans (b2.mono B1.out.size))
  have R0 := Lib.hid (R0.out.below b2)
  have R1 := Lib.hid g1
  have hB1 := b2.size
  clear b2 g1
  go_wp2_with fail
  refine (eqSS_same _ _ q n v1 v0 G1 C1 G0 C0 L _ hn (by omega) R1.out R0.out).mono ?_
  rintro e w3 ⟨rfl, b3⟩
  have B3 := Lib.hid (B2.out.trans (b3.mono B2.out.size))
  have R0 := Lib.hid (R0.out.below b3)
  have R1 := Lib.hid (R1.out.below b3)
  have hB3 := Nat.le_trans hB1 b3.size
  clear b3
  obtain ⟨M, hM⟩ : ∃ M : Int, M = ((1 + n * q : Nat) : Int) := ⟨_, rfl⟩
  have qg : ¬ M < 0 := by omega
  have HM := Lib.hid hM
  clear hM
  go_wp2_with fail
  refine (markSS_any w1.heap.size q n 1 v1 G1 C1 L _ hn (by omega) (by omega) R1.out hB3).mono ?_
  rintro e w4 ⟨rfl, b4, g4⟩
  rw [← HM.out]
  have B4 := Lib.hid (B3.out.trans (b4.mono B1.out.size))
  have R0 := Lib.hid (R0.out.keepB HV.out HG.out b4)
  have R1 := Lib.hid g4
  clear b4 g4
  go_wp2_with fail
  refine (heldSS_any _ q n 1 v1 G1 C1 _ hn (by omega) (by omega) R1.out).mono ?_
  rintro e w5 ⟨rfl, b5⟩
  rw [← HM.out]
  have B5 := Lib.hid (B4.out.trans (b5.mono B4.out.size))
  have R0 := Lib.hid (R0.out.below b5)
  have R1 := Lib.hid (R1.out.below b5)
  clear b5
  go_wp2_with fail
  refine (HI.out _).mono ?_
  rintro e w6 ⟨v2, G2, C2, rfl, g6, b6⟩
  have B6 := Lib.hid (B5.out.trans (b6.mono B5.out.size))
  have R0 := Lib.hid (R0.out.below b6)
  have R1 := Lib.hid (R1.out.below b6)
  have R2 := Lib.hid g6
  clear b6 g6
  go_wp2_with fail
  refine (eqSS_same _ _ q n v2 v0 G2 C2 G0 C0 L _ hn (by omega) R2.out R0.out).mono ?_
  rintro e w7 ⟨rfl, b7⟩
  have B7 := Lib.hid (B6.out.trans (b7.mono B6.out.size))
  have R1 := Lib.hid (R1.out.below b7)
  clear b7
  go_wp2_with fail
  refine (heldSS_any _ q n 1 v1 G1 C1 _ hn (by omega) (by omega) R1.out).mono ?_
  rintro e w8 ⟨rfl, b8⟩
  rw [← HM.out]
  have B8 := Lib.hid (B7.out.trans (b8.mono B7.out.size))
  clear b8
  go_wp2_with fail
  go_ret
  exact ⟨rfl, B8.out⟩
namespace fnExactAllSeeds
set_option maxHeartbeats 2000000 in
set_option maxRecDepth 100000 in
theorem lifted (os : Os) (started : os.Started) (H : Type) (enc : TypeId × Value → H) :
    ReturnsInHanded {} Try.checked os 11 .any (Rows.fnExactAllSeedsSpec.pre6 enc Try.prog Try.f11 Rows.fnExactAllSeedsRow.domain false) (Rows.fnExactAllSeedsSpec.post enc Try.prog Try.f11 false true false false) := by
  refine returnsInHanded_of_change (C := Try.checked) own started (by kernel_rfl) Try.func11
    (ChangeSpec.witness6 (enc := enc) (C := Try.checked) false ⟨#[], #[.int .i64 0, .int .i64 0], []⟩ 8 (by kernel_rfl) (by kernel_rfl) (by kernel_rfl) (by kernel_rfl)) ?_
  intro W base args ds gs before hval0 hW hcnd _
  have hval : ∀ (j : Nat) t v, Try.f11.params[j]? = some t → args[j]? = some v → Value.okWide Try.prog W .any base t v := hval0
  have hW' := hW
  obtain ⟨p, q, hA0, hV, rfl, hfz, hnd⟩ := hW
  have hA : DataW.TrodAll enc Try.prog W 0 (fun _ => true) true Try.f11.params.toList args.toList ds p := hA0
  rw [Try.params11] at hA hval
  obtain ⟨v0, vs0, d0, ds0, p0, q0, hargs, rfl, rfl, h0, r0⟩ := trodAll_cons hA
  obtain ⟨v1, vs1, d1, ds1, p1, q1, rfl, rfl, rfl, h1, r1⟩ := trodAll_cons r0
  obtain ⟨rfl, rfl, rfl⟩ := trodAll_nil r1
  obtain rfl : args = #[v0, v1] := by cases args; simp_all
  obtain ⟨rfl, rfl⟩ := trodVars_none hV
  have k0 := h0
  have lt0 : ∀ x ∈ p0, x.block < W.heap.size := by obtain ⟨m, hm⟩ := k0; exact DataW.trod_lt m _ _ _ hm
  obtain ⟨a0, rfl, -, -, w0⟩ := open_int Try.underlying2 (hval 0 2 v0 rfl rfl) h0
  have k1 := h1
  have lt1 : ∀ x ∈ p1, x.block < W.heap.size := by obtain ⟨m, hm⟩ := k1; exact DataW.trod_lt m _ _ _ hm
  obtain ⟨a1, rfl, -, -, w1⟩ := open_int Try.underlying2 (hval 1 2 v1 rfl rfl) h1
  clear hA0 hval0
  refine (walk_FnExactAllSeeds a0 (wf_i64 w0) a1 (wf_i64 w1) (w := W)).mono fun e W' ⟨he, bel⟩ => ?_
  subst he
  exact ⟨_, rfl, _, _, _, [], _, [], hW', trodAll_mk1 (shut_bool Try.underlying4 _), (trodAll_cons_mk (Below.trod laidOut (by kernel_rfl) (of_decide_eq_true (by kernel_rfl)) k0 bel lt0) (trodAll_cons_mk (Below.trod laidOut (by kernel_rfl) (of_decide_eq_true (by kernel_rfl)) k1 bel lt1) trodAll_mk0)), rfl, bel.frame _, fun h => by cases h⟩

theorem proved : Rows.FnExactAllSeedsSaid :=
  OpenClaim.holds_of_wide 11 Try.f11 rfl rfl rfl rfl rfl rfl rfl ⟨rfl, rfl, rfl, rfl, rfl⟩ rfl rfl rfl rfl rfl (by kernel_rfl) Try.func11 (by kernel_rfl)
    (of_decide_eq_true (by kernel_rfl)) (by unfold Func.isWrapper; first | (rw [if_pos (by decide +kernel)]; kernel_rfl) | (rw [if_neg (by decide +kernel)]; exact ⟨rfl, rfl⟩))
    (fun os started H enc _ => lifted os started H enc)
end fnExactAllSeeds

end Go.Proofs.Ytcgckpnkmmjljaa
