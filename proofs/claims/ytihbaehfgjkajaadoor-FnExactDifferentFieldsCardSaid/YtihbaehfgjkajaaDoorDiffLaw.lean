/- DifferentFields of the reference and of the program return the same names in memory of their own, and so the law on it holds. No conditions. -/
import Derived.Test.YtihbaehfgjkajaaDoorDiffS
import Derived.Test.YtihbaehfgjkajaaDoorRes
import Derived.Test.YtihbaehfgjkajaaDoorCards
import Derived.Test.YtihbaehfgjkajaaDoorTie
import Derived.Lay
import Derived.OpenVars
import Derived.Stop.Joined
import Derived.MakeChecks
import Derived.LaidMore
import Derived.SevenTiedAt
namespace Go.Proofs.YtihbaehfgjkajaaDoor
open Go.Joins Go.ChangeShapes Go.WideShapes Go.ChangeAt Go.RowKit Go.Deep
open Go.ChangeMaps (open_string shut_string)
set_option linter.unusedVariables false

theorem laid_FnExactDifferentFields {W : World} (h : laidMet Tryd.prog Rows.fnExactDifferentFieldsRow.laid W) : True := trivial
def DiffO (xs : List ByteArray) (n : Nat) (k : Int) (w : World) (e : Ending) (w' : World) : Prop :=
  ∃ a c b, e = .returned (.tuple #[.slice a n c, .int .i64 k]) ∧ OutS xs n w.heap.size a b w' ∧ Below w.heap.size w w'
theorem diff_out {ok : Bool} {a b : RV} {xs : List ByteArray} {n : Nat} {k : Int} {w w' : World} {e : Ending} (hxs : (if ok then diffK a b 9 else []) = xs) (hn : xs.length = n) (hk : (if ok then 0 else 1 : Int) = k)
    (h : DiffP ok (diffK a b 9) w e w') : DiffO xs n k w e w' := by
  obtain ⟨v, rfl, ho, hb⟩ := h
  rw [hxs, hn] at ho
  rw [hk]
  have hle : n ≤ 9 := by
    rw [← hn, ← hxs]
    split
    · exact diffK_len a b 9
    · simp
  obtain ⟨a1, c1, k1, rfl, O⟩ := out_own ho hn (by omega) hb.size
  exact ⟨_, _, _, rfl, O, hb⟩

set_option maxHeartbeats 8000000 in
set_option maxRecDepth 100000 in
theorem walk_FnExactDifferentFields (a : RV) (_ha : a.Fit) (b : RV) (_hb : b.Fit) (w : World) (_hL : True) : Calls Tryd.prog 9 #[a.val, b.val] w fun e w' => e = .returned (.bool true) ∧ Below w.heap.size w w' := by
  clear _ha _hb
  unfold RV.val
  obtain ⟨xs, hxs⟩ : ∃ xs, (if (a.ok && b.ok) then diffK a b 9 else []) = xs := ⟨_, rfl⟩
  obtain ⟨n, hn⟩ : ∃ n, xs.length = n := ⟨_, rfl⟩
  obtain ⟨k, hk⟩ : ∃ k : Int, (if (a.ok && b.ok) then 0 else 1 : Int) = k := ⟨_, rfl⟩
  have hn9 : n ≤ 9 := by
    rw [← hn, ← hxs]
    split
    · exact diffK_len a b 9
    · simp
  have hi0 : ∀ w, Calls Tryd.prog 15 #[.agg #[.int .i64 a.p, .int .i64 a.s, .bool a.st, .bool a.sk, .bool a.re, .bool a.fe, .bool a.ag, .int .i64 a.c, .int .i64 a.l], .agg #[.int .i64 b.p, .int .i64 b.s, .bool b.st, .bool b.sk, .bool b.re, .bool b.fe, .bool b.ag, .int .i64 b.c, .int .i64 b.l]] w (DiffO xs n k w) := fun w => (impl_diff a b w).mono fun e w' h => diff_out hxs hn hk h
  have hs0 : ∀ w, Calls Tryd.prog 16 #[.agg #[.int .i64 a.p, .int .i64 a.s, .bool a.st, .bool a.sk, .bool a.re, .bool a.fe, .bool a.ag, .int .i64 a.c, .int .i64 a.l], .agg #[.int .i64 b.p, .int .i64 b.s, .bool b.st, .bool b.sk, .bool b.re, .bool b.fe, .bool b.ag, .int .i64 b.c, .int .i64 b.l]] w (DiffO xs n k w) := fun w => (spec_diff a b w).mono fun e w' h => diff_out hxs hn hk h
  have HI := Lib.hid hi0
  have HS := Lib.hid hs0
  have HN := Lib.hid hn
  clear hxs hn hk hi0 hs0
  have RA := RulesAt.below (rv_new a w 44) ((Below.refl _ _).alloc (Nat.le_refl _) (.cells #[.int .i64 b.p, .int .i64 b.s, .bool b.st, .bool b.sk, .bool b.re, .bool b.fe, .bool b.ag, .int .i64 b.c, .int .i64 b.l] 44))
  have B0 := ((Below.refl w.heap.size w).alloc (Nat.le_refl _) (.cells #[.int .i64 a.p, .int .i64 a.s, .bool a.st, .bool a.sk, .bool a.re, .bool a.fe, .bool a.ag, .int .i64 a.c, .int .i64 a.l] 44)).alloc (by simp) (.cells #[.int .i64 b.p, .int .i64 b.s, .bool b.st, .bool b.sk, .bool b.re, .bool b.fe, .bool b.ag, .int .i64 b.c, .int .i64 b.l] 44)
  have RB := rv_new b (w.alloc (.cells #[.int .i64 a.p, .int .i64 a.s, .bool a.st, .bool a.sk, .bool a.re, .bool a.fe, .bool a.ag, .int .i64 a.c, .int .i64 a.l] 44)) 44
  simp only [World.size_alloc] at RB
  have RA' := Lib.hid RA
  have RB' := Lib.hid RB
  have HB0 := Lib.hid B0
  clear B0 RA RB
  have RA := RA'
  have RB := RB'
  clear RA' RB'
  go_enter Tryd.func9, Tryd.ntmps9
  go_wp2_with fail
  generalize (w.alloc _).alloc _ = w0 at *
  have SA : Hid (SS w0 w.heap.size (w.heap.size + 1) a b w0) := Lib.hid ⟨RA.out, RB.out, Below.refl _ _⟩
  go_region_held3 (fun w' => (w.heap.size < w'.heap.size ∧ w'.cell? ⟨w.heap.size, 0, none⟩ = some (.int .i64 a.p) ∧ w'.cell? ⟨w.heap.size, 1, none⟩ = some (.int .i64 a.s) ∧ w'.cell? ⟨w.heap.size, 2, none⟩ = some (.bool a.st) ∧ w'.cell? ⟨w.heap.size, 3, none⟩ = some (.bool a.sk) ∧ w'.cell? ⟨w.heap.size, 4, none⟩ = some (.bool a.re) ∧ w'.cell? ⟨w.heap.size, 5, none⟩ = some (.bool a.fe) ∧ w'.cell? ⟨w.heap.size, 6, none⟩ = some (.bool a.ag) ∧ w'.cell? ⟨w.heap.size, 7, none⟩ = some (.int .i64 a.c) ∧ w'.cell? ⟨w.heap.size, 8, none⟩ = some (.int .i64 a.l)) ∧ (w.heap.size + 1 < w'.heap.size ∧ w'.cell? ⟨w.heap.size + 1, 0, none⟩ = some (.int .i64 b.p) ∧ w'.cell? ⟨w.heap.size + 1, 1, none⟩ = some (.int .i64 b.s) ∧ w'.cell? ⟨w.heap.size + 1, 2, none⟩ = some (.bool b.st) ∧ w'.cell? ⟨w.heap.size + 1, 3, none⟩ = some (.bool b.sk) ∧ w'.cell? ⟨w.heap.size + 1, 4, none⟩ = some (.bool b.re) ∧ w'.cell? ⟨w.heap.size + 1, 5, none⟩ = some (.bool b.fe) ∧ w'.cell? ⟨w.heap.size + 1, 6, none⟩ = some (.bool b.ag) ∧ w'.cell? ⟨w.heap.size + 1, 7, none⟩ = some (.int .i64 b.c) ∧ w'.cell? ⟨w.heap.size + 1, 8, none⟩ = some (.int .i64 b.l)) ∧ Below w0.heap.size w0 w') (first | exact SA.out | exact SA.out.drew)
    (first
    | (go_at_call 28; refine (toRules_any _ _ _ _ _ _ _ _ _ _).mono ?_; rintro e w1 ⟨rfl, hb1⟩; have SA := Lib.hid (by first | exact SA.out.step hb1 | exact SA.out.drew.step hb1 : SS w0 w.heap.size (w.heap.size + 1) a b w1))
    | (go_at_call 16; refine (HS.out _).mono ?_; rintro e w1 ⟨a1, c1, k1, rfl, O1, hb1⟩; have hk1 : w0.heap.size ≤ k1 := Nat.le_trans SA.out.2.2.size O1.new; have SA := Lib.hid (by first | exact SA.out.step hb1 | exact SA.out.drew.step hb1 : SS w0 w.heap.size (w.heap.size + 1) a b w1)))
  have B1 : Below w0.heap.size w0 w1 := SA.out.2.2
  have hz1 := B1.size
  have OO1 := Lib.hid O1
  clear O1
  have SA : Hid (SS w1 w.heap.size (w.heap.size + 1) a b w1) := Lib.hid ⟨RulesAt.below RA.out B1, RulesAt.below RB.out B1, Below.refl _ _⟩
  go_wp2_with fail
  go_region_held3 (fun w' => (w.heap.size < w'.heap.size ∧ w'.cell? ⟨w.heap.size, 0, none⟩ = some (.int .i64 a.p) ∧ w'.cell? ⟨w.heap.size, 1, none⟩ = some (.int .i64 a.s) ∧ w'.cell? ⟨w.heap.size, 2, none⟩ = some (.bool a.st) ∧ w'.cell? ⟨w.heap.size, 3, none⟩ = some (.bool a.sk) ∧ w'.cell? ⟨w.heap.size, 4, none⟩ = some (.bool a.re) ∧ w'.cell? ⟨w.heap.size, 5, none⟩ = some (.bool a.fe) ∧ w'.cell? ⟨w.heap.size, 6, none⟩ = some (.bool a.ag) ∧ w'.cell? ⟨w.heap.size, 7, none⟩ = some (.int .i64 a.c) ∧ w'.cell? ⟨w.heap.size, 8, none⟩ = some (.int .i64 a.l)) ∧ (w.heap.size + 1 < w'.heap.size ∧ w'.cell? ⟨w.heap.size + 1, 0, none⟩ = some (.int .i64 b.p) ∧ w'.cell? ⟨w.heap.size + 1, 1, none⟩ = some (.int .i64 b.s) ∧ w'.cell? ⟨w.heap.size + 1, 2, none⟩ = some (.bool b.st) ∧ w'.cell? ⟨w.heap.size + 1, 3, none⟩ = some (.bool b.sk) ∧ w'.cell? ⟨w.heap.size + 1, 4, none⟩ = some (.bool b.re) ∧ w'.cell? ⟨w.heap.size + 1, 5, none⟩ = some (.bool b.fe) ∧ w'.cell? ⟨w.heap.size + 1, 6, none⟩ = some (.bool b.ag) ∧ w'.cell? ⟨w.heap.size + 1, 7, none⟩ = some (.int .i64 b.c) ∧ w'.cell? ⟨w.heap.size + 1, 8, none⟩ = some (.int .i64 b.l)) ∧ Below w1.heap.size w1 w') (first | exact SA.out | exact SA.out.drew)
    (first
    | (go_at_call 28; refine (toRules_any _ _ _ _ _ _ _ _ _ _).mono ?_; rintro e w2 ⟨rfl, hb2⟩; have SA := Lib.hid (by first | exact SA.out.step hb2 | exact SA.out.drew.step hb2 : SS w1 w.heap.size (w.heap.size + 1) a b w2))
    | (go_at_call 15; refine (HI.out _).mono ?_; rintro e w2 ⟨a2, c2, k2, rfl, O2, hb2⟩; have hk2 : w1.heap.size ≤ k2 := Nat.le_trans SA.out.2.2.size O2.new; have SA := Lib.hid (by first | exact SA.out.step hb2 | exact SA.out.drew.step hb2 : SS w1 w.heap.size (w.heap.size + 1) a b w2)))
  have hb12 : Below w1.heap.size w1 w2 := SA.out.2.2
  have hz2 := hb12.size
  have B2 : Below w0.heap.size w0 w2 := B1.trans (hb12.mono B1.size)
  have R1 := Lib.hid (OO1.out.row.below hb12)
  have R2 := Lib.hid O2.row
  have A2 := Lib.hid O2.at_b
  have F2 := Lib.hid O2.free
  have L1 := Lib.hid OO1.out.lt
  clear O2 SA
  go_wp2_with fail
  refine (eq_same _ _ _ _ n xs _ HN.out R2.out R1.out).mono ?_
  rintro e w3 ⟨rfl, b3⟩
  have B3 : Below w0.heap.size w0 w3 := B2.trans (b3.mono (by omega))
  have l3 := b3.size
  go_wp2_with fail
  refine (marks_opt k2 _ c2 n 1 xs _ HN.out (R2.out.below b3) A2.out (fun h0 o => by rw [b3.frozen (p := ⟨k2, o, none⟩) (F2.out h0).1]; exact (F2.out h0).2 o) (by decide) (by decide)).mono ?_
  rintro e w4 ⟨rfl, b4, r4⟩
  have l4 := b4.size
  have B4 : Below w0.heap.size w0 w4 := But.below B3 b4 (by omega) (by omega)
  have R4 := Lib.hid r4
  have R14 := Lib.hid ((R1.out.below b3).but b4 (fun g o h => by have := L1.out g o h; omega))
  clear r4
  go_wp2_with fail
  refine (held_any _ c2 n 1 _ R4.out (by decide) (by decide)).mono ?_
  rintro e w5 ⟨rfl, b5⟩
  have l5 := b5.size
  have B5 : Below w0.heap.size w0 w5 := B4.trans (b5.mono (by omega))
  have hneg : ¬ ((1 + n : Nat) : Int) < 0 := by omega
  have SA : Hid (SS w5 w.heap.size (w.heap.size + 1) a b w5) := Lib.hid ⟨RulesAt.below RA.out B5, RulesAt.below RB.out B5, Below.refl _ _⟩
  go_wp2_with fail
  go_region_held3 (fun w' => (w.heap.size < w'.heap.size ∧ w'.cell? ⟨w.heap.size, 0, none⟩ = some (.int .i64 a.p) ∧ w'.cell? ⟨w.heap.size, 1, none⟩ = some (.int .i64 a.s) ∧ w'.cell? ⟨w.heap.size, 2, none⟩ = some (.bool a.st) ∧ w'.cell? ⟨w.heap.size, 3, none⟩ = some (.bool a.sk) ∧ w'.cell? ⟨w.heap.size, 4, none⟩ = some (.bool a.re) ∧ w'.cell? ⟨w.heap.size, 5, none⟩ = some (.bool a.fe) ∧ w'.cell? ⟨w.heap.size, 6, none⟩ = some (.bool a.ag) ∧ w'.cell? ⟨w.heap.size, 7, none⟩ = some (.int .i64 a.c) ∧ w'.cell? ⟨w.heap.size, 8, none⟩ = some (.int .i64 a.l)) ∧ (w.heap.size + 1 < w'.heap.size ∧ w'.cell? ⟨w.heap.size + 1, 0, none⟩ = some (.int .i64 b.p) ∧ w'.cell? ⟨w.heap.size + 1, 1, none⟩ = some (.int .i64 b.s) ∧ w'.cell? ⟨w.heap.size + 1, 2, none⟩ = some (.bool b.st) ∧ w'.cell? ⟨w.heap.size + 1, 3, none⟩ = some (.bool b.sk) ∧ w'.cell? ⟨w.heap.size + 1, 4, none⟩ = some (.bool b.re) ∧ w'.cell? ⟨w.heap.size + 1, 5, none⟩ = some (.bool b.fe) ∧ w'.cell? ⟨w.heap.size + 1, 6, none⟩ = some (.bool b.ag) ∧ w'.cell? ⟨w.heap.size + 1, 7, none⟩ = some (.int .i64 b.c) ∧ w'.cell? ⟨w.heap.size + 1, 8, none⟩ = some (.int .i64 b.l)) ∧ Below w5.heap.size w5 w') (first | exact SA.out | exact SA.out.drew)
    (first
    | (go_at_call 28; refine (toRules_any _ _ _ _ _ _ _ _ _ _).mono ?_; rintro e w6 ⟨rfl, hb6⟩; have SA := Lib.hid (by first | exact SA.out.step hb6 | exact SA.out.drew.step hb6 : SS w5 w.heap.size (w.heap.size + 1) a b w6))
    | (go_at_call 15; refine (HI.out _).mono ?_; rintro e w6 ⟨a6, c6, k6, rfl, O6, hb6⟩; have hk6 : w5.heap.size ≤ k6 := Nat.le_trans SA.out.2.2.size O6.new; have SA := Lib.hid (by first | exact SA.out.step hb6 | exact SA.out.drew.step hb6 : SS w5 w.heap.size (w.heap.size + 1) a b w6)))
  have b6 : Below w5.heap.size w5 w6 := SA.out.2.2
  have B6 : Below w0.heap.size w0 w6 := B5.trans (b6.mono (by omega))
  have l6 := b6.size
  have R6 := Lib.hid O6.row
  clear O6 SA
  go_wp2_with fail
  refine (eq_same _ _ _ _ n xs _ HN.out R6.out ((R14.out.below b5).below b6)).mono ?_
  rintro e w7 ⟨rfl, b7⟩
  have l7 := b7.size
  have B7 : Below w0.heap.size w0 w7 := B6.trans (b7.mono (by omega))
  go_wp2_with fail
  refine (held_any _ c2 n 1 _ (((R4.out.below b5).below b6).below b7) (by decide) (by decide)).mono ?_
  rintro e w8 ⟨rfl, b8⟩
  have B8 : Below w0.heap.size w0 w8 := B7.trans (b8.mono (by omega))
  go_wp2_with fail
  go_ret
  exact ⟨rfl, HB0.out.trans (B8.mono HB0.out.size)⟩
namespace fnExactDifferentFields
set_option maxRecDepth 100000 in
theorem lifted (os : Os) (started : os.Started) (H : Type) (enc : TypeId × Value → H) :
    ReturnsInHanded {} Tryd.checked os 9 .any (fun w args => (Rows.fnExactDifferentFieldsSpec.pre enc Tryd.prog Tryd.f9 [] false w args ∧ laidMetH Tryd.prog Rows.fnExactDifferentFieldsRow.laid w) ∧ sizedMet enc Tryd.prog Tryd.f9 (OpenSpec.ofChange Rows.fnExactDifferentFieldsSpec) false w args) (Rows.fnExactDifferentFieldsSpec.post enc Tryd.prog Tryd.f9 false true false false) := by
  refine returnsInHanded_of_change_and (C := Tryd.checked) (X := fun w _ => laidMetH Tryd.prog Rows.fnExactDifferentFieldsRow.laid w) (fun _ _ _ hh h => h.of_heap hh) own started (by kernel_rfl) Tryd.func9
    (ChangeSpec.witness_shaped (enc := enc) (C := Tryd.checked) (os := os) (X := fun w _ => laidMetH Tryd.prog Rows.fnExactDifferentFieldsRow.laid w) false (World.laidAll Tryd.prog os Rows.fnExactDifferentFieldsRow.laid) #[.agg #[.int .i64 0, .int .i64 0, .bool false, .bool false, .bool false, .bool false, .bool false, .int .i64 0, .int .i64 0], .agg #[.int .i64 0, .int .i64 0, .bool false, .bool false, .bool false, .bool false, .bool false, .int .i64 0, .int .i64 0]] 8 (World.laidAll_os _ _ _)
      (World.shaped_of_ZipB (by kernel_rfl) (by kernel_rfl)) (by kernel_rfl) (by kernel_rfl) (by kernel_rfl)
      (by rw [MakeChecks.laidMetH_plain _ _ _ (by kernel_rfl)]; exact laidMet_laidAll _ (by kernel_rfl) (by kernel_rfl))) ?_
  intro W base args ds gs before hval0 hW _ _ hL0 _
  have hL : laidMet Tryd.prog Rows.fnExactDifferentFieldsRow.laid W := by rw [← MakeChecks.laidMetH_plain _ _ _ (by kernel_rfl)]; exact hL0
  have hval : ∀ (j : Nat) t v, Tryd.f9.params[j]? = some t → args[j]? = some v → Value.okWide Tryd.prog W .any base t v := hval0
  have hW' := hW
  obtain ⟨p, q, hA0, hV, rfl, hfz, hnd⟩ := hW
  have hA : DataW.TrodAll enc Tryd.prog W 0 (fun _ => true) true Tryd.f9.params.toList args.toList ds p := hA0
  rw [Tryd.params9] at hA hval
  obtain ⟨v0, vs0, d0, ds0, p0, q0, hargs, rfl, rfl, h0, r0⟩ := trodAll_cons hA
  obtain ⟨v1, vs1, d1, ds1, p1, q1, rfl, rfl, rfl, h1, r1⟩ := trodAll_cons r0
  obtain ⟨rfl, rfl, rfl⟩ := trodAll_nil r1
  obtain rfl : args = #[v0, v1] := by cases args; simp_all
  have hV1 := hV
  obtain ⟨g0, g1, rfl⟩ := vars_2 hV
  have k0 := h0
  have lt0 : ∀ x ∈ p0, x.block < W.heap.size := by obtain ⟨m, hm⟩ := k0; exact DataW.trod_lt m _ _ _ hm
  obtain ⟨x0, rfl, w0⟩ := open_rules Tryd.underlying44 Tryd.underlying2 Tryd.underlying4 (by kernel_rfl) (by kernel_rfl) (hval 0 44 v0 rfl rfl) h0
  have k1 := h1
  have lt1 : ∀ x ∈ p1, x.block < W.heap.size := by obtain ⟨m, hm⟩ := k1; exact DataW.trod_lt m _ _ _ hm
  obtain ⟨x1, rfl, w1⟩ := open_rules Tryd.underlying44 Tryd.underlying2 Tryd.underlying4 (by kernel_rfl) (by kernel_rfl) (hval 1 44 v1 rfl rfl) h1
  clear hA0 hval0
  refine (walk_FnExactDifferentFields x0 w0 x1 w1 (w := W) (laid_FnExactDifferentFields hL)).mono fun e W' ⟨he, bel⟩ => ?_
  subst he
  exact ⟨_, rfl, _, _, _, [], _, _, hW', trodAll_mk1 (shut_bool Tryd.underlying4 _), (trodAll_cons_mk (Below.trod laidOut (by kernel_rfl) (of_decide_eq_true (by kernel_rfl)) k0 bel lt0) (trodAll_cons_mk (Below.trod laidOut (by kernel_rfl) (of_decide_eq_true (by kernel_rfl)) k1 bel lt1) trodAll_mk0)), Below.trodVars laidOut bel (by kernel_rfl) hV1, bel.frame _, fun h => by cases h⟩

theorem proved : Rows.FnExactDifferentFieldsSaid :=
  OpenClaim.holds_of_wide 9 Tryd.f9 rfl rfl rfl rfl rfl rfl rfl ⟨rfl, rfl, rfl, rfl, rfl⟩ rfl rfl rfl rfl rfl (by kernel_rfl) Tryd.func9 (by kernel_rfl)
    (of_decide_eq_true (by kernel_rfl)) (by unfold Func.isWrapper; first | (rw [if_pos (by decide +kernel)]; kernel_rfl) | (rw [if_neg (by decide +kernel)]; exact ⟨rfl, rfl⟩))
    (fun os started H enc _ => lifted os started H enc)
theorem card_holds : Rows.FnExactDifferentFieldsCardSaid :=
  Claim7.holds_tied_plain_at .later [] [.data, .data, .data, .sentinel, .sentinel, .sentinel, .sentinel] true (true, "e75c25b7d600ccc464b435a9159048a61288eee4c0a175dc15596e67716cecfd") true
    proved (fun _ h => by cases h) (by kernel_rfl) (fun _ h => by cases h) fnExactDifferentFields_row_tie rfl ⟨rfl, rfl⟩ (by kernel_rfl) rfl
    (fun f fn hf hfn => by
      obtain rfl : f = 9 := Option.some.inj ((show Tryd.prog.funcNamed "loop.example/g00926/laws.FnExactDifferentFields" = some 9 by kernel_rfl).symm.trans hf) |>.symm
      obtain rfl : fn = Tryd.f9 := (Option.some.inj (Tryd.func9.symm.trans hfn)).symm
      exact ⟨by kernel_rfl, fun j t ht => by
        rw [Tryd.params9] at ht
        have hm : t ∈ [44, 44] := by simpa using Array.mem_of_getElem? ht
        have hall : ([44, 44].all fun u => !Tryd.prog.wantsStandIn u) = true := by kernel_rfl
        exact (show Tryd.prog.wantsStandIn t = false by simpa using List.all_eq_true.1 hall t hm)⟩)
    (by kernel_rfl)
end fnExactDifferentFields

end Go.Proofs.YtihbaehfgjkajaaDoor
