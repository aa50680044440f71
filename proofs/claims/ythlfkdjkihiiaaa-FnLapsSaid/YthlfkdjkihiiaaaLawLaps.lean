/- FnLaps: with as many seeds more as a lap around the board needs, the last seed falls into the same place: for every input. No conditions. -/
import Derived.Test.YthlfkdjkihiiaaaLawL5
import Derived.Test.YthlfkdjkihiiaaaLen5
import Derived.Test.YthlfkdjkihiiaaaAt5
namespace Go.Proofs.Ythlfkdjkihiiaaa
open Go.Joins Go.ChangeShapes Go.WideShapes Go.ChangeAt Go.RowKit Go.Deep
set_option linter.unusedVariables false

/-- The place that LastPlace tells, and that nothing else has turned. -/
def LastQ (v : Int) (w : World) (e : Ending) (w' : World) : Prop := e = .returned (.tuple #[.int .i64 v, .int .i64 0]) ∧ Below w.heap.size w w'
theorem last_ok (p s c l : Int) (st sk re fe ag : Bool) (pl move f seeds : Int) (hpl : pl = 0 ∨ pl = 1) (hf : f = pl * p + move) (hok : okR p s c l st ag = true) (hm0 : 0 ≤ move) (hm1 : move < p) (h1 : 1 ≤ seeds) (h2 : seeds ≤ 96) (w : World) :
    Calls Try.prog 26 #[.agg #[.int .i64 p, .int .i64 s, .bool st, .bool sk, .bool re, .bool fe, .bool ag, .int .i64 c, .int .i64 l], .int .i64 pl, .int .i64 move, .int .i64 seeds] w (LastQ (plc p pl st sk f (seeds.toNat - 1)) w) := by
  obtain ⟨n, rfl⟩ : ∃ n : Nat, seeds = n := ⟨seeds.toNat, by omega⟩
  rw [Int.toNat_natCast]
  rcases hpl with rfl | rfl
  · exact implLast0 p s c l st sk re fe ag move f n w hf hok hm0 hm1 (by omega) (by omega)
  · exact implLast1 p s c l st sk re fe ag move f n w hf hok hm0 hm1 (by omega) (by omega)

set_option maxHeartbeats 8000000 in
set_option maxRecDepth 100000 in
theorem walk_FnLaps {w : World} (a1 : Option Addr) (l1 c1 : Nat) (hA : Bytes w a1 l1) (a2 : Option Addr) (l2 c2 : Nat) (hB : Bytes w a2 l2) :
    Calls Try.prog 4 #[.slice a1 l1 c1, .slice a2 l2 c2] w fun e w' => e = .returned (.bool true) ∧ Below w.heap.size w w' := by
  have hl1 := hA.1
  have hl2 := hB.1
  have HA := Lib.hid hA
  have HM := Lib.hid hB
  clear hA hB
  rcases hlong : (decide (3000 < l1) || decide (3000 < l2)) with _ | _
  rotate_left
  · have Hl := Lib.hid hlong
    clear hlong
    go_enter Try.func4, Try.ntmps4
    go_wp2_with fail
    refine (long_any _ _ _ _ _ _ true Hl.out hl1 hl2 _).mono ?_
    rintro e w' ⟨rfl, rfl⟩
    go_wp2_with fail
    go_ret
    exact ⟨rfl, Below.refl _ _⟩
  have Hl := Lib.hid hlong
  clear hlong
  go_enter Try.func4, Try.ntmps4
  go_wp2_with fail
  refine (long_any _ _ _ _ _ _ false Hl.out hl1 hl2 _).mono ?_
  rintro e w' ⟨rfl, rfl⟩
  go_wp2_with fail
  refine (a2rules5_any _ _ _ _ HA.out).mono ?_
  rintro e w1 ⟨p, s, c, l, st, sk, re, fe, ag, hok, rfl, hb1⟩
  obtain ⟨hp2, hp8, -⟩ := okR_bd hok
  obtain ⟨hn3, hn17⟩ := lapN_bd st sk hp2 hp8
  have Hok := Lib.hid hok
  have hz1 := hb1.size
  have HB := Lib.hid (hb1.alloc hz1 (.cells #[.int .i64 p, .int .i64 s, .bool st, .bool sk, .bool re, .bool fe, .bool ag, .int .i64 c, .int .i64 l] 25))
  have HR := Lib.hid (ru_new p s c l st sk re fe ag w1 25)
  obtain ⟨q, hq⟩ : ∃ q, w1.heap.size = q := ⟨_, rfl⟩
  rw [hq] at HR
  clear hok
  go_wp2_with fail
  generalize w1.alloc (.cells #[.int .i64 p, .int .i64 s, .bool st, .bool sk, .bool re, .bool fe, .bool ag, .int .i64 c, .int .i64 l] 25) = w2 at *
  clear hq hb1 hz1
  refine (impl_len p s c l st sk re fe ag _).mono ?_
  rw [Hok.out, show totC true = 0 from rfl, show ∀ v, totV true v = v from fun v => rfl]
  generalize hN : lapN p st sk = N at *
  have HN := Lib.hid hN
  clear hN
  rintro e w3 ⟨rfl, hb3⟩
  have HB3 := Lib.hid (HB.out.trans (hb3.mono HB.out.size))
  have HR3 := Lib.hid (HR.out.below hb3)
  clear hb3 HB HR
  obtain ⟨-, r0, r1, r2, r3, r4, r5, r6, r7, r8⟩ := HR3.out
  go_wp2_with fail
  refine (at5_0 a2 l2 c2 _ _ (HM.out.below HB3.out) (by omega) (by omega)).mono ?_
  rintro e w4 ⟨move, ⟨m0, m1⟩, rfl, rfl⟩
  go_wp2_with fail
  refine (at5_1 a2 l2 c2 _ _ (HM.out.below HB3.out) (by omega) (by omega)).mono ?_
  rintro e w4 ⟨pl, ⟨p0, p1⟩, rfl, rfl⟩
  go_wp2_with fail
  refine (at5_2 a2 l2 c2 _ _ (HM.out.below HB3.out) (by omega) (by omega)).mono ?_
  rintro e w4 ⟨sd, ⟨s0, s1⟩, rfl, rfl⟩
  obtain ⟨x, hx⟩ : ∃ x, plc p pl st sk (pl * p + move) ((1 + sd).toNat - 1) = x := ⟨_, rfl⟩
  obtain ⟨y, hy⟩ : ∃ y, plc p pl st sk (pl * p + move) (N.toNat - 1) = y := ⟨_, rfl⟩
  obtain ⟨z, hz⟩ : ∃ z, plc p pl st sk (pl * p + move) 0 = z := ⟨_, rfl⟩
  have hpl : pl = 0 ∨ pl = 1 := by omega
  have hf0 : 0 ≤ pl * p + move ∧ pl * p + move < 2 * p := by rcases hpl with rfl | rfl <;> omega
  have C1 : Hid (∀ u, Calls Try.prog 26 #[.agg #[.int .i64 p, .int .i64 s, .bool st, .bool sk, .bool re, .bool fe, .bool ag, .int .i64 c, .int .i64 l], .int .i64 pl, .int .i64 move, .int .i64 (1 + sd)] u (LastQ x u)) := Lib.hid fun u => by
    have := last_ok p s c l st sk re fe ag pl move _ (1 + sd) hpl rfl Hok.out m0 m1 (by omega) (by omega) u
    rwa [hx] at this
  have C2 : Hid (∀ u, Calls Try.prog 26 #[.agg #[.int .i64 p, .int .i64 s, .bool st, .bool sk, .bool re, .bool fe, .bool ag, .int .i64 c, .int .i64 l], .int .i64 pl, .int .i64 move, .int .i64 (1 + sd + N)] u (LastQ x u)) := Lib.hid fun u => by
    have := last_ok p s c l st sk re fe ag pl move _ (1 + sd + N) hpl rfl Hok.out m0 m1 (by omega) (by omega) u
    rw [show (1 + sd + N).toNat - 1 = ((1 + sd).toNat - 1) + (lapN p st sk).toNat by have := HN.out; omega, plc_period hp2 hp8 hpl hf0.1 hf0.2, hx] at this
    exact this
  have C3 : Hid (∀ u, Calls Try.prog 26 #[.agg #[.int .i64 p, .int .i64 s, .bool st, .bool sk, .bool re, .bool fe, .bool ag, .int .i64 c, .int .i64 l], .int .i64 pl, .int .i64 move, .int .i64 N] u (LastQ y u)) := Lib.hid fun u => by
    have := last_ok p s c l st sk re fe ag pl move _ N hpl rfl Hok.out m0 m1 (by omega) (by omega) u
    rwa [hy] at this
  have C4 : Hid (∀ u, Calls Try.prog 26 #[.agg #[.int .i64 p, .int .i64 s, .bool st, .bool sk, .bool re, .bool fe, .bool ag, .int .i64 c, .int .i64 l], .int .i64 pl, .int .i64 move, .int .i64 1] u (LastQ z u)) := Lib.hid fun u => by
    have := last_ok p s c l st sk re fe ag pl move _ 1 hpl rfl Hok.out m0 m1 (by omega) (by omega) u
    rwa [show (1 : Int).toNat - 1 = 0 from rfl, hz] at this
  have hsk : sk = true ∨ (sk = false ∧ y = pl * p + move ∧ z ≠ y) := by
    rcases h : sk with _ | _
    · have hr := plc_round (st := st) hp2 hp8 hpl hf0.1 hf0.2 h
      rw [HN.out, hy, hz] at hr
      exact .inr ⟨rfl, hr.1, by rw [hr.1]; exact hr.2⟩
    · exact .inl rfl
  clear hx hy hz hf0
  have hcase : (sk = true) ∨ (sk = false ∧ pl = 0 ∧ y = move ∧ (z != move) = true) ∨ (sk = false ∧ pl = 1 ∧ y = p + move ∧ (z != p + move) = true) := by
    rcases hsk with h | ⟨h, h2, h3⟩
    · exact .inl h
    · rcases hpl with rfl | rfl
      · exact .inr (.inl ⟨h, rfl, by omega, by simp; omega⟩)
      · exact .inr (.inr ⟨h, rfl, by omega, by simp; omega⟩)
  clear hsk hpl
  have hs60 : 1 + sd ≤ 60 := by omega
  go_wp2_with fail
  refine (C1.out _).mono ?_
  rintro e w5 ⟨rfl, hb5⟩
  have HB5 := Lib.hid (HB3.out.trans (hb5.mono HB3.out.size))
  have HR5 := Lib.hid (HR3.out.below hb5)
  clear hb5 HB3 HR3 r0 r1 r2 r3 r4 r5 r6 r7 r8
  obtain ⟨-, r0, r1, r2, r3, r4, r5, r6, r7, r8⟩ := HR5.out
  go_wp2_with fail
  refine (C2.out _).mono ?_
  rintro e w6 ⟨rfl, hb6⟩
  have HB6 := Lib.hid (HB5.out.trans (hb6.mono HB5.out.size))
  have HR6 := Lib.hid (HR5.out.below hb6)
  clear hb6 HB5 HR5 r0 r1 r2 r3 r4 r5 r6 r7 r8
  obtain ⟨-, r0, r1, r2, r3, r4, r5, r6, r7, r8⟩ := HR6.out
  go_wp2_with fail
  refine (C3.out _).mono ?_
  rintro e w7 ⟨rfl, hb7⟩
  have HB7 := Lib.hid (HB6.out.trans (hb7.mono HB6.out.size))
  have HR7 := Lib.hid (HR6.out.below hb7)
  clear hb7 HB6 HR6 r0 r1 r2 r3 r4 r5 r6 r7 r8
  obtain ⟨-, r0, r1, r2, r3, r4, r5, r6, r7, r8⟩ := HR7.out
  go_wp2_with fail
  refine (C4.out _).mono ?_
  rintro e w8 ⟨rfl, hb8⟩
  have HB8 := Lib.hid (HB7.out.trans (hb8.mono HB7.out.size))
  have HR8 := Lib.hid (HR7.out.below hb8)
  clear hb8 HB7 HR7 r0 r1 r2 r3 r4 r5 r6 r7 r8
  obtain ⟨-, r0, r1, r2, r3, r4, r5, r6, r7, r8⟩ := HR8.out
  rcases hcase with rfl | ⟨rfl, rfl, rfl, hd⟩ | ⟨rfl, rfl, rfl, hd⟩
  all_goals
    go_wp2_with fail
    go_ret
    exact ⟨rfl, HB8.out⟩
namespace fnLaps
set_option maxHeartbeats 2000000 in
set_option maxRecDepth 100000 in
theorem lifted (os : Os) (started : os.Started) (H : Type) (enc : TypeId × Value → H) :
    ReturnsInHanded {} Try.checked os 4 .any (Rows.fnLapsSpec.pre6 enc Try.prog Try.f4 Rows.fnLapsRow.domain false) (Rows.fnLapsSpec.post enc Try.prog Try.f4 false true false false) := by
  refine returnsInHanded_of_change (C := Try.checked) own started (by kernel_rfl) Try.func4
    (ChangeSpec.witness6 (enc := enc) (C := Try.checked) false ⟨#[], #[.slice none 0 0, .slice none 0 0], []⟩ 8 (by kernel_rfl) (by kernel_rfl) (by kernel_rfl) (by kernel_rfl)) ?_
  intro W base args ds gs before hval0 hW hcnd _
  have hval : ∀ (j : Nat) t v, Try.f4.params[j]? = some t → args[j]? = some v → Value.okWide Try.prog W .any base t v := hval0
  have hW' := hW
  obtain ⟨p, q, hA0, hV, rfl, hfz, hnd⟩ := hW
  have hA : DataW.TrodAll enc Try.prog W 0 (fun _ => true) true Try.f4.params.toList args.toList ds p := hA0
  rw [Try.params4] at hA hval
  obtain ⟨v0, vs0, d0, ds0, p0, q0, hargs, rfl, rfl, h0, r0⟩ := trodAll_cons hA
  obtain ⟨v1, vs1, d1, ds1, p1, q1, rfl, rfl, rfl, h1, r1⟩ := trodAll_cons r0
  obtain ⟨rfl, rfl, rfl⟩ := trodAll_nil r1
  obtain rfl : args = #[v0, v1] := by cases args; simp_all
  obtain ⟨rfl, rfl⟩ := trodVars_none hV
  have k0 := h0
  have lt0 : ∀ x ∈ p0, x.block < W.heap.size := by obtain ⟨m, hm⟩ := k0; exact DataW.trod_lt m _ _ _ hm
  obtain ⟨a0, len0, cap0, rfl, w0⟩ := open_bytes Try.underlying22 Try.underlying5 (by kernel_rfl) (hval 0 22 v0 rfl rfl) h0
  have k1 := h1
  have lt1 : ∀ x ∈ p1, x.block < W.heap.size := by obtain ⟨m, hm⟩ := k1; exact DataW.trod_lt m _ _ _ hm
  obtain ⟨a1, len1, cap1, rfl, w1⟩ := open_bytes Try.underlying22 Try.underlying5 (by kernel_rfl) (hval 1 22 v1 rfl rfl) h1
  clear hA0 hval0
  refine (walk_FnLaps a0 len0 cap0 w0 a1 len1 cap1 w1 (w := W)).mono fun e W' ⟨he, bel⟩ => ?_
  subst he
  exact ⟨_, rfl, _, _, _, [], _, [], hW', trodAll_mk1 (shut_bool Try.underlying4 _), (trodAll_cons_mk (Below.trod laidOut (by kernel_rfl) (of_decide_eq_true (by kernel_rfl)) k0 bel lt0) (trodAll_cons_mk (Below.trod laidOut (by kernel_rfl) (of_decide_eq_true (by kernel_rfl)) k1 bel lt1) trodAll_mk0)), rfl, bel.frame _, fun h => by cases h⟩

theorem proved : Rows.FnLapsSaid :=
  OpenClaim.holds_of_wide 4 Try.f4 rfl rfl rfl rfl rfl rfl rfl ⟨rfl, rfl, rfl, rfl, rfl⟩ rfl rfl rfl rfl rfl (by kernel_rfl) Try.func4 (by kernel_rfl)
    (of_decide_eq_true (by kernel_rfl)) (by unfold Func.isWrapper; first | (rw [if_pos (by decide +kernel)]; kernel_rfl) | (rw [if_neg (by decide +kernel)]; exact ⟨rfl, rfl⟩))
    (fun os started H enc _ => lifted os started H enc)
end fnLaps

end Go.Proofs.Ythlfkdjkihiiaaa
