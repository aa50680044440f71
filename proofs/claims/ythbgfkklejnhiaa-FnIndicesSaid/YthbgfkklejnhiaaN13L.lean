/- The laws on CountPositions and FirstIndex: for all arguments the program answers as the reference. No conditions. -/
import Derived.Test.YthbgfkklejnhiaaN13S
namespace Go.Proofs.Ythbgfkklejnhiaa
open Go.Joins Go.ChangeShapes Go.WideShapes Go.ChangeAt Go.RowKit Go.Deep
set_option linter.unusedVariables false

/-- What CountPositions and FirstIndex answer. -/
def cpV (k : Bool) (p n : Int) : Int := if n13C k p n = 0 then (cnt n.toNat (2 * p.toNat) : Int) else 0
def fiV (k : Bool) (p n : Int) : Int := if n13C k p n = 0 then (bf p.toNat n.toNat : Int) else 0
theorem n13_none {k : Bool} {p n : Int} (h : n13C k p n ≠ 0) : cpV k p n = 0 ∧ fiV k p n = 0 := ⟨if_neg h, if_neg h⟩
theorem n13_some {P S : Nat} (h : n13C true (P : Int) (S : Int) = 0) : cpV true (P : Int) (S : Int) = (cnt S (2 * P) : Int) ∧ fiV true (P : Int) (S : Int) = (bf P S : Int) := by
  unfold cpV fiV
  rw [if_pos h, if_pos h, Int.toNat_natCast, Int.toNat_natCast]
  exact ⟨rfl, rfl⟩
theorem cnt_fit {P S : Nat} (hP : 1 ≤ P) (h : bf P (S + 1) ≤ 1000000000) : cnt S (2 * P) ≤ 1000000000 ∧ bf P S ≤ 1000000000 := by
  have := bf_succ hP S
  omega

set_option maxHeartbeats 2000000 in
theorem implCP_any (p s c l : Int) (st sk re fe ag : Bool) (n : Int) (w : World) :
    Calls Try.prog 16 #[.agg #[.int .i64 p, .int .i64 s, .bool st, .bool sk, .bool re, .bool fe, .bool ag, .int .i64 c, .int .i64 l], .int .i64 n] w fun e w' => e = .returned (.tuple #[.int .i64 (cpV (okR p s c l st ag) p n), .int .i64 (n13C (okR p s c l st ag) p n)]) ∧ Below w.heap.size w w' := by
  have HK := Lib.hid (fun u => chk_any p s c l st sk re fe ag n u)
  have HS := Lib.hid (show RbAt w w.heap.size p s c l st sk re fe ag (w.alloc (.cells #[.int .i64 p, .int .i64 s, .bool st, .bool sk, .bool re, .bool fe, .bool ag, .int .i64 c, .int .i64 l] 25)) from ⟨ru_new p s c l st sk re fe ag w _, (Below.refl _ _).alloc (Nat.le_refl _) _⟩)
  by_cases hc : n13C (okR p s c l st ag) p n = 0
  · obtain ⟨hok, S, rfl, hS, hb⟩ := n13_parts hc
    obtain ⟨hp1, hp2, -⟩ := okR_bd hok
    obtain ⟨P, rfl⟩ : ∃ P : Nat, p = (P : Int) := ⟨p.toNat, by omega⟩
    rw [Int.toNat_natCast] at hb
    rw [hok] at hc ⊢
    rw [hok, hc] at HK
    rw [(n13_some hc).1, hc]
    have hw2 : IntKind.i64.wrap (2 * (P : Int)) = 2 * (P : Int) := IntWalk.i64_in _ ⟨by omega, by omega⟩
    have HC : Hid (∀ (a b : Int) (u : World), a = (S : Int) → b = 2 * (P : Int) → Calls Try.prog 49 #[.int .i64 a, .int .i64 b] u fun e w' => e = .returned (.tuple #[.int .i64 (cnt S (2 * P) : Int), .int .i64 0]) ∧ Below u.heap.size u w') := Lib.hid (by
      rintro a b u rfl rfl
      have h := implCnt_any (S : Int) (2 * (P : Int)) u
      have h2 := cn_fit (S := S) (P := 2 * P - 1) hS (by omega) (by rw [show 2 * P - 1 + 1 = 2 * P by omega]; exact Nat.le_trans (cnt_fit (by omega) hb).1 (by omega))
      rw [show ((2 * P - 1 : Nat) : Int) + 1 = 2 * (P : Int) by omega, show 2 * P - 1 + 1 = 2 * P by omega] at h2
      unfold CnP at h
      rwa [h2.1, h2.2] at h)
    generalize cnt S (2 * P) = V at *
    clear hc hok hb
    go_enter Try.func16, Try.ntmps16
    go_wp2_with fail
    refine (HK.out _).mono ?_
    rintro e w1 ⟨rfl, hb⟩
    have HS := Lib.hid (HS.out.below hb)
    clear hb
    obtain ⟨hz, r0, r1, r2, r3, r4, r5, r6, r7, r8⟩ := HS.out.1
    go_wp2_with fail
    clear hz r0 r1 r2 r3 r4 r5 r6 r7 r8
    refine (board_any (P : Int) s c l st sk re fe ag (by unfold I64; omega) _).mono ?_
    rintro e w1 ⟨rfl, hb⟩
    have HS := Lib.hid (HS.out.below hb)
    clear hb
    go_wp2_with fail
    refine (HC.out _ _ _ rfl rfl).mono ?_
    rintro e w1 ⟨rfl, hb⟩
    have HS := Lib.hid (HS.out.below hb)
    clear hb
    go_wp2_with fail
    go_ret2
    exact ⟨rfl, HS.out.2⟩
  · rw [(n13_none hc).1]
    generalize n13C (okR p s c l st ag) p n = C at *
    have d1 : (C != 0) = true := by simpa using hc
    clear hc
    go_enter Try.func16, Try.ntmps16
    go_wp2_with fail
    refine (HK.out _).mono ?_
    rintro e w1 ⟨rfl, hb⟩
    have HS := Lib.hid (HS.out.below hb)
    clear hb
    go_wp2_with fail
    go_ret2
    exact ⟨rfl, HS.out.2⟩
set_option maxHeartbeats 2000000 in
theorem implFI_any (p s c l : Int) (st sk re fe ag : Bool) (n : Int) (w : World) :
    Calls Try.prog 15 #[.agg #[.int .i64 p, .int .i64 s, .bool st, .bool sk, .bool re, .bool fe, .bool ag, .int .i64 c, .int .i64 l], .int .i64 n] w fun e w' => e = .returned (.tuple #[.int .i64 (fiV (okR p s c l st ag) p n), .int .i64 (n13C (okR p s c l st ag) p n)]) ∧ Below w.heap.size w w' := by
  have HK := Lib.hid (fun u => chk_any p s c l st sk re fe ag n u)
  have HS := Lib.hid (show RbAt w w.heap.size p s c l st sk re fe ag (w.alloc (.cells #[.int .i64 p, .int .i64 s, .bool st, .bool sk, .bool re, .bool fe, .bool ag, .int .i64 c, .int .i64 l] 25)) from ⟨ru_new p s c l st sk re fe ag w _, (Below.refl _ _).alloc (Nat.le_refl _) _⟩)
  by_cases hc : n13C (okR p s c l st ag) p n = 0
  · obtain ⟨hok, S, rfl, hS, hb⟩ := n13_parts hc
    obtain ⟨hp1, hp2, -⟩ := okR_bd hok
    obtain ⟨P, rfl⟩ : ∃ P : Nat, p = (P : Int) := ⟨p.toNat, by omega⟩
    rw [Int.toNat_natCast] at hb
    rw [hok] at hc ⊢
    rw [hok, hc] at HK
    rw [(n13_some hc).2, hc]
    have hw2 : IntKind.i64.wrap (2 * (P : Int)) = 2 * (P : Int) := IntWalk.i64_in _ ⟨by omega, by omega⟩
    have HC := Lib.hid (fun (u : World) => few_any P S s c l st sk re fe ag (S : Int) u rfl (by omega) (by omega) (by omega))
    rw [show fwV P S = (bf P S : Int) from if_pos (by have := (cnt_fit (P := P) (S := S) (by omega) hb).2; omega), show fwC P S = 0 from if_pos (by have := (cnt_fit (P := P) (S := S) (by omega) hb).2; omega)] at HC
    generalize bf P S = V at *
    clear hc hok hb
    go_enter Try.func15, Try.ntmps15
    go_wp2_with fail
    refine (HK.out _).mono ?_
    rintro e w1 ⟨rfl, hb⟩
    have HS := Lib.hid (HS.out.below hb)
    clear hb
    obtain ⟨hz, r0, r1, r2, r3, r4, r5, r6, r7, r8⟩ := HS.out.1
    go_wp2_with fail
    clear hz r0 r1 r2 r3 r4 r5 r6 r7 r8
    refine (HC.out _).mono ?_
    rintro e w1 ⟨rfl, hb⟩
    have HS := Lib.hid (HS.out.below hb)
    clear hb
    go_wp2_with fail
    go_ret2
    exact ⟨rfl, HS.out.2⟩
  · rw [(n13_none hc).2]
    generalize n13C (okR p s c l st ag) p n = C at *
    have d1 : (C != 0) = true := by simpa using hc
    clear hc
    go_enter Try.func15, Try.ntmps15
    go_wp2_with fail
    refine (HK.out _).mono ?_
    rintro e w1 ⟨rfl, hb⟩
    have HS := Lib.hid (HS.out.below hb)
    clear hb
    go_wp2_with fail
    go_ret2
    exact ⟨rfl, HS.out.2⟩
set_option maxHeartbeats 2000000 in
theorem specCP_any (p s c l : Int) (st sk re fe ag : Bool) (n : Int) (w : World) :
    Calls Try.prog 26 #[.agg #[.int .i64 p, .int .i64 s, .bool st, .bool sk, .bool re, .bool fe, .bool ag, .int .i64 c, .int .i64 l], .int .i64 n] w fun e w' => e = .returned (.tuple #[.int .i64 (cpV (okR p s c l st ag) p n), .int .i64 (n13C (okR p s c l st ag) p n)]) ∧ Below w.heap.size w w' := by
  have HK := Lib.hid (fun (u : World) (hu : RuAt u w.heap.size p s c l st sk re fe ag) => code13_any p s c l st sk re fe ag n w.heap.size u hu)
  have HS := Lib.hid (show RbAt w w.heap.size p s c l st sk re fe ag (w.alloc (.cells #[.int .i64 p, .int .i64 s, .bool st, .bool sk, .bool re, .bool fe, .bool ag, .int .i64 c, .int .i64 l] 25)) from ⟨ru_new p s c l st sk re fe ag w _, (Below.refl _ _).alloc (Nat.le_refl _) _⟩)
  by_cases hc : n13C (okR p s c l st ag) p n = 0
  · obtain ⟨hok, S, rfl, hS, hb⟩ := n13_parts hc
    obtain ⟨hp1, hp2, -⟩ := okR_bd hok
    obtain ⟨P, rfl⟩ : ∃ P : Nat, p = (P : Int) := ⟨p.toNat, by omega⟩
    rw [Int.toNat_natCast] at hb
    rw [hok] at hc ⊢
    rw [hok, hc] at HK
    rw [(n13_some hc).1, hc]
    have hw2 : IntKind.i64.wrap (2 * (P : Int)) = 2 * (P : Int) := IntWalk.i64_in _ ⟨by omega, by omega⟩
    have HC : Hid (∀ (a b : Int) (u : World), a = (S : Int) → b = 2 * (P : Int) → Calls Try.prog 59 #[.int .i64 a, .int .i64 b] u fun e w' => e = .returned (.int .i64 (cnt S (2 * P) : Int)) ∧ Below u.heap.size u w') := Lib.hid (by
      rintro a b u rfl rfl
      have h := specN_any S (2 * P - 1) (S : Int) (2 * (P : Int)) u rfl (by omega) hS (by omega)
      rwa [show 2 * P - 1 + 1 = 2 * P by omega, cap_lo (Nat.le_trans (cnt_fit (by omega) hb).1 (by omega))] at h)
    generalize cnt S (2 * P) = V at *
    clear hc hok hb
    go_enter Try.func26, Try.ntmps26
    go_wp2_with fail
    refine (HK.out _ HS.out.1).mono ?_
    rintro e w1 ⟨rfl, hb⟩
    have HS := Lib.hid (HS.out.below hb)
    clear hb
    obtain ⟨hz, r0, r1, r2, r3, r4, r5, r6, r7, r8⟩ := HS.out.1
    go_wp2_with fail
    clear hz r0 r1 r2 r3 r4 r5 r6 r7 r8
    refine (HC.out _ _ _ rfl rfl).mono ?_
    rintro e w1 ⟨rfl, hb⟩
    have HS := Lib.hid (HS.out.below hb)
    clear hb
    go_wp2_with fail
    go_ret2
    exact ⟨rfl, HS.out.2⟩
  · rw [(n13_none hc).1]
    generalize n13C (okR p s c l st ag) p n = C at *
    have d1 : (C != 0) = true := by simpa using hc
    clear hc
    go_enter Try.func26, Try.ntmps26
    go_wp2_with fail
    refine (HK.out _ HS.out.1).mono ?_
    rintro e w1 ⟨rfl, hb⟩
    have HS := Lib.hid (HS.out.below hb)
    clear hb
    go_wp2_with fail
    go_ret2
    exact ⟨rfl, HS.out.2⟩
set_option maxHeartbeats 2000000 in
theorem specFI_any (p s c l : Int) (st sk re fe ag : Bool) (n : Int) (w : World) :
    Calls Try.prog 35 #[.agg #[.int .i64 p, .int .i64 s, .bool st, .bool sk, .bool re, .bool fe, .bool ag, .int .i64 c, .int .i64 l], .int .i64 n] w fun e w' => e = .returned (.tuple #[.int .i64 (fiV (okR p s c l st ag) p n), .int .i64 (n13C (okR p s c l st ag) p n)]) ∧ Below w.heap.size w w' := by
  have HK := Lib.hid (fun (u : World) (hu : RuAt u w.heap.size p s c l st sk re fe ag) => code13_any p s c l st sk re fe ag n w.heap.size u hu)
  have HS := Lib.hid (show RbAt w w.heap.size p s c l st sk re fe ag (w.alloc (.cells #[.int .i64 p, .int .i64 s, .bool st, .bool sk, .bool re, .bool fe, .bool ag, .int .i64 c, .int .i64 l] 25)) from ⟨ru_new p s c l st sk re fe ag w _, (Below.refl _ _).alloc (Nat.le_refl _) _⟩)
  by_cases hc : n13C (okR p s c l st ag) p n = 0
  · obtain ⟨hok, S, rfl, hS, hb⟩ := n13_parts hc
    obtain ⟨hp1, hp2, -⟩ := okR_bd hok
    obtain ⟨P, rfl⟩ : ∃ P : Nat, p = (P : Int) := ⟨p.toNat, by omega⟩
    rw [Int.toNat_natCast] at hb
    rw [hok] at hc ⊢
    rw [hok, hc] at HK
    rw [(n13_some hc).2, hc]
    have hw2 : IntKind.i64.wrap (2 * (P : Int)) = 2 * (P : Int) := IntWalk.i64_in _ ⟨by omega, by omega⟩
    have HC := Lib.hid (fun (u : World) (hu : RuAt u w.heap.size (P : Int) s c l st sk re fe ag) => before_any P S (P : Int) s c l st sk re fe ag (S : Int) w.heap.size u hu rfl rfl (by omega) (by omega) (by omega))
    rw [cut9_lo (cnt_fit (P := P) (S := S) (by omega) hb).2] at HC
    generalize bf P S = V at *
    clear hc hok hb
    go_enter Try.func35, Try.ntmps35
    go_wp2_with fail
    refine (HK.out _ HS.out.1).mono ?_
    rintro e w1 ⟨rfl, hb⟩
    have HS := Lib.hid (HS.out.below hb)
    clear hb
    obtain ⟨hz, r0, r1, r2, r3, r4, r5, r6, r7, r8⟩ := HS.out.1
    go_wp2_with fail
    clear hz r0 r1 r2 r3 r4 r5 r6 r7 r8
    refine (HC.out _ HS.out.1).mono ?_
    rintro e w1 ⟨rfl, hb⟩
    have HS := Lib.hid (HS.out.below hb)
    clear hb
    go_wp2_with fail
    go_ret2
    exact ⟨rfl, HS.out.2⟩
  · rw [(n13_none hc).2]
    generalize n13C (okR p s c l st ag) p n = C at *
    have d1 : (C != 0) = true := by simpa using hc
    clear hc
    go_enter Try.func35, Try.ntmps35
    go_wp2_with fail
    refine (HK.out _ HS.out.1).mono ?_
    rintro e w1 ⟨rfl, hb⟩
    have HS := Lib.hid (HS.out.below hb)
    clear hb
    go_wp2_with fail
    go_ret2
    exact ⟨rfl, HS.out.2⟩
set_option maxHeartbeats 2000000 in
theorem walk0_FnExactCountPositions (p s c l : Int) (st sk re fe ag : Bool) (n : Int) (w : World) : Calls Try.prog 4 #[.agg #[.int .i64 p, .int .i64 s, .bool st, .bool sk, .bool re, .bool fe, .bool ag, .int .i64 c, .int .i64 l], .int .i64 n] w fun e w' => e = .returned (.bool true) ∧ Below w.heap.size w w' := by
  have HS := Lib.hid (show RbAt w w.heap.size p s c l st sk re fe ag (w.alloc (.cells #[.int .i64 p, .int .i64 s, .bool st, .bool sk, .bool re, .bool fe, .bool ag, .int .i64 c, .int .i64 l] 42)) from ⟨ru_new p s c l st sk re fe ag w _, (Below.refl _ _).alloc (Nat.le_refl _) _⟩)
  have H1 := Lib.hid (fun u => specCP_any p s c l st sk re fe ag n u)
  have H2 := Lib.hid (fun u => implCP_any p s c l st sk re fe ag n u)
  generalize cpV (okR p s c l st ag) p n = V at *
  generalize n13C (okR p s c l st ag) p n = C at *
  go_enter Try.func4, Try.ntmps4
  go_wp2_with fail
  refine (toRules_any p s c l st sk re fe ag _).mono ?_
  rintro e w1 ⟨rfl, hb⟩
  have HS := Lib.hid (HS.out.below hb)
  clear hb
  go_wp2_with fail
  refine (H1.out _).mono ?_
  rintro e w2 ⟨rfl, hb⟩
  have HS := Lib.hid (HS.out.below hb)
  clear hb
  obtain ⟨hz, r0, r1, r2, r3, r4, r5, r6, r7, r8⟩ := HS.out.1
  go_wp2_with fail
  clear hz r0 r1 r2 r3 r4 r5 r6 r7 r8
  refine (toRules_any p s c l st sk re fe ag _).mono ?_
  rintro e w3 ⟨rfl, hb⟩
  have HS := Lib.hid (HS.out.below hb)
  clear hb
  go_wp2_with fail
  refine (H2.out _).mono ?_
  rintro e w4 ⟨rfl, hb⟩
  have HS := Lib.hid (HS.out.below hb)
  clear hb
  go_wp2_with fail
  go_ret
  exact ⟨rfl, HS.out.2⟩
theorem walk_FnExactCountPositions (x : RV) (hx : x.Fit) (n : Int) (hn : I64 n) {w : World} : Calls Try.prog 4 #[x.val, .int .i64 n] w fun e w' => e = .returned (.bool true) ∧ Below w.heap.size w w' :=
  walk0_FnExactCountPositions _ _ _ _ _ _ _ _ _ n w
namespace fnExactCountPositions
set_option maxHeartbeats 2000000 in
set_option maxRecDepth 100000 in
theorem lifted (os : Os) (started : os.Started) (H : Type) (enc : TypeId × Value → H) :
    ReturnsInHanded {} Try.checked os 4 .any (Rows.fnExactCountPositionsSpec.pre6 enc Try.prog Try.f4 Rows.fnExactCountPositionsRow.domain false) (Rows.fnExactCountPositionsSpec.post enc Try.prog Try.f4 false true false false) := by
  refine returnsInHanded_of_change (C := Try.checked) own started (by kernel_rfl) Try.func4
    (ChangeSpec.witness6 (enc := enc) (C := Try.checked) false ⟨#[], #[.agg #[.int .i64 0, .int .i64 0, .bool false, .bool false, .bool false, .bool false, .bool false, .int .i64 0, .int .i64 0], .int .i64 0], []⟩ 8 (by kernel_rfl) (by kernel_rfl) (by kernel_rfl) (by kernel_rfl)) ?_
  intro W base args ds gs before hval0 hW hcnd _
  have hval : ∀ (j : Nat) t v, Try.f4.params[j]? = some t → args[j]? = some v → Value.okWide Try.prog W .any base t v := hval0
  have hW' := hW
  obtain ⟨p, q, hA0, hV, rfl, hfz, hnd⟩ := hW
  have hA : DataW.TrodAll enc Try.prog W 0 (fun _ => true) true Try.f4.params.toList args.toList ds p := hA0
  rw [Try.params4] at hA hval
  obtain ⟨v0, vs0, d0, ds0, p0, q0, hargs, rfl, rfl, h0, r0⟩ := trodAll_cons hA
  obtain ⟨v1, vs1, d1, ds1, p1, q1, rfl, rfl, rfl, h1, r1⟩ := trodAll_cons r0
  obtain ⟨rfl, rfl, rfl⟩ := trodAll_nil r1
  obtain rfl : args = #[v0, v1] := by cases args; simp_all
  obtain ⟨rfl, rfl⟩ := trodVars_none hV
  have k0 := h0
  have lt0 : ∀ x ∈ p0, x.block < W.heap.size := by obtain ⟨m, hm⟩ := k0; exact DataW.trod_lt m _ _ _ hm
  obtain ⟨x0, rfl, w0⟩ := open_rules Try.underlying42 Try.underlying2 Try.underlying4 (by kernel_rfl) (by kernel_rfl) (hval 0 42 v0 rfl rfl) h0
  have k1 := h1
  have lt1 : ∀ x ∈ p1, x.block < W.heap.size := by obtain ⟨m, hm⟩ := k1; exact DataW.trod_lt m _ _ _ hm
  obtain ⟨a1, rfl, -, -, w1⟩ := open_int Try.underlying2 (hval 1 2 v1 rfl rfl) h1
  clear hA0 hval0
  refine (walk_FnExactCountPositions x0 w0 a1 (wf_i64 w1) (w := W)).mono fun e W' ⟨he, bel⟩ => ?_
  subst he
  exact ⟨_, rfl, _, _, _, [], _, [], hW', trodAll_mk1 (shut_bool Try.underlying4 _), (trodAll_cons_mk (Below.trod laidOut (by kernel_rfl) (of_decide_eq_true (by kernel_rfl)) k0 bel lt0) (trodAll_cons_mk (Below.trod laidOut (by kernel_rfl) (of_decide_eq_true (by kernel_rfl)) k1 bel lt1) trodAll_mk0)), rfl, bel.frame _, fun h => by cases h⟩

theorem proved : Rows.FnExactCountPositionsSaid :=
  OpenClaim.holds_of_wide 4 Try.f4 rfl rfl rfl rfl rfl rfl rfl ⟨rfl, rfl, rfl, rfl, rfl⟩ rfl rfl rfl rfl rfl (by kernel_rfl) Try.func4 (by kernel_rfl)
    (of_decide_eq_true (by kernel_rfl)) (by unfold Func.isWrapper; first | (rw [if_pos (by decide +kernel)]; kernel_rfl) | (rw [if_neg (by decide +kernel)]; exact ⟨rfl, rfl⟩))
    (fun os started H enc _ => lifted os started H enc)
end fnExactCountPositions

set_option maxHeartbeats 2000000 in
theorem walk0_FnExactFirstIndex (p s c l : Int) (st sk re fe ag : Bool) (n : Int) (w : World) : Calls Try.prog 7 #[.agg #[.int .i64 p, .int .i64 s, .bool st, .bool sk, .bool re, .bool fe, .bool ag, .int .i64 c, .int .i64 l], .int .i64 n] w fun e w' => e = .returned (.bool true) ∧ Below w.heap.size w w' := by
  have HS := Lib.hid (show RbAt w w.heap.size p s c l st sk re fe ag (w.alloc (.cells #[.int .i64 p, .int .i64 s, .bool st, .bool sk, .bool re, .bool fe, .bool ag, .int .i64 c, .int .i64 l] 42)) from ⟨ru_new p s c l st sk re fe ag w _, (Below.refl _ _).alloc (Nat.le_refl _) _⟩)
  have H1 := Lib.hid (fun u => specFI_any p s c l st sk re fe ag n u)
  have H2 := Lib.hid (fun u => implFI_any p s c l st sk re fe ag n u)
  generalize fiV (okR p s c l st ag) p n = V at *
  generalize n13C (okR p s c l st ag) p n = C at *
  go_enter Try.func7, Try.ntmps7
  go_wp2_with fail
  refine (toRules_any p s c l st sk re fe ag _).mono ?_
  rintro e w1 ⟨rfl, hb⟩
  have HS := Lib.hid (HS.out.below hb)
  clear hb
  go_wp2_with fail
  refine (H1.out _).mono ?_
  rintro e w2 ⟨rfl, hb⟩
  have HS := Lib.hid (HS.out.below hb)
  clear hb
  obtain ⟨hz, r0, r1, r2, r3, r4, r5, r6, r7, r8⟩ := HS.out.1
  go_wp2_with fail
  clear hz r0 r1 r2 r3 r4 r5 r6 r7 r8
  refine (toRules_any p s c l st sk re fe ag _).mono ?_
  rintro e w3 ⟨rfl, hb⟩
  have HS := Lib.hid (HS.out.below hb)
  clear hb
  go_wp2_with fail
  refine (H2.out _).mono ?_
  rintro e w4 ⟨rfl, hb⟩
  have HS := Lib.hid (HS.out.below hb)
  clear hb
  go_wp2_with fail
  go_ret
  exact ⟨rfl, HS.out.2⟩
theorem walk_FnExactFirstIndex (x : RV) (hx : x.Fit) (n : Int) (hn : I64 n) {w : World} : Calls Try.prog 7 #[x.val, .int .i64 n] w fun e w' => e = .returned (.bool true) ∧ Below w.heap.size w w' :=
  walk0_FnExactFirstIndex _ _ _ _ _ _ _ _ _ n w
namespace fnExactFirstIndex
set_option maxHeartbeats 2000000 in
set_option maxRecDepth 100000 in
theorem lifted (os : Os) (started : os.Started) (H : Type) (enc : TypeId × Value → H) :
    ReturnsInHanded {} Try.checked os 7 .any (Rows.fnExactFirstIndexSpec.pre6 enc Try.prog Try.f7 Rows.fnExactFirstIndexRow.domain false) (Rows.fnExactFirstIndexSpec.post enc Try.prog Try.f7 false true false false) := by
  refine returnsInHanded_of_change (C := Try.checked) own started (by kernel_rfl) Try.func7
    (ChangeSpec.witness6 (enc := enc) (C := Try.checked) false ⟨#[], #[.agg #[.int .i64 0, .int .i64 0, .bool false, .bool false, .bool false, .bool false, .bool false, .int .i64 0, .int .i64 0], .int .i64 0], []⟩ 8 (by kernel_rfl) (by kernel_rfl) (by kernel_rfl) (by kernel_rfl)) ?_
  intro W base args ds gs before hval0 hW hcnd _
  have hval : ∀ (j : Nat) t v, Try.f7.params[j]? = some t → args[j]? = some v → Value.okWide Try.prog W .any base t v := hval0
  have hW' := hW
  obtain ⟨p, q, hA0, hV, rfl, hfz, hnd⟩ := hW
  have hA : DataW.TrodAll enc Try.prog W 0 (fun _ => true) true Try.f7.params.toList args.toList ds p := hA0
  rw [Try.params7] at hA hval
  obtain ⟨v0, vs0, d0, ds0, p0, q0, hargs, rfl, rfl, h0, r0⟩ := trodAll_cons hA
  obtain ⟨v1, vs1, d1, ds1, p1, q1, rfl, rfl, rfl, h1, r1⟩ := trodAll_cons r0
  obtain ⟨rfl, rfl, rfl⟩ := trodAll_nil r1
  obtain rfl : args = #[v0, v1] := by cases args; simp_all
  obtain ⟨rfl, rfl⟩ := trodVars_none hV
  have k0 := h0
  have lt0 : ∀ x ∈ p0, x.block < W.heap.size := by obtain ⟨m, hm⟩ := k0; exact DataW.trod_lt m _ _ _ hm
  obtain ⟨x0, rfl, w0⟩ := open_rules Try.underlying42 Try.underlying2 Try.underlying4 (by kernel_rfl) (by kernel_rfl) (hval 0 42 v0 rfl rfl) h0
  have k1 := h1
  have lt1 : ∀ x ∈ p1, x.block < W.heap.size := by obtain ⟨m, hm⟩ := k1; exact DataW.trod_lt m _ _ _ hm
  obtain ⟨a1, rfl, -, -, w1⟩ := open_int Try.underlying2 (hval 1 2 v1 rfl rfl) h1
  clear hA0 hval0
  refine (walk_FnExactFirstIndex x0 w0 a1 (wf_i64 w1) (w := W)).mono fun e W' ⟨he, bel⟩ => ?_
  subst he
  exact ⟨_, rfl, _, _, _, [], _, [], hW', trodAll_mk1 (shut_bool Try.underlying4 _), (trodAll_cons_mk (Below.trod laidOut (by kernel_rfl) (of_decide_eq_true (by kernel_rfl)) k0 bel lt0) (trodAll_cons_mk (Below.trod laidOut (by kernel_rfl) (of_decide_eq_true (by kernel_rfl)) k1 bel lt1) trodAll_mk0)), rfl, bel.frame _, fun h => by cases h⟩

theorem proved : Rows.FnExactFirstIndexSaid :=
  OpenClaim.holds_of_wide 7 Try.f7 rfl rfl rfl rfl rfl rfl rfl ⟨rfl, rfl, rfl, rfl, rfl⟩ rfl rfl rfl rfl rfl (by kernel_rfl) Try.func7 (by kernel_rfl)
    (of_decide_eq_true (by kernel_rfl)) (by unfold Func.isWrapper; first | (rw [if_pos (by decide +kernel)]; kernel_rfl) | (rw [if_neg (by decide +kernel)]; exact ⟨rfl, rfl⟩))
    (fun os started H enc _ => lifted os started H enc)
end fnExactFirstIndex

end Go.Proofs.Ythbgfkklejnhiaa
