/- The places of a lap, handed over one after the other without an end. No conditions. -/
import Derived.Test.YtmngmbpdiaocjaaRng5
import Derived.Test.YtmngmbpdiaocjaaSow
import Derived.Test.YtmngmbpdiaocjaaCh2
import Derived.Shelf.Abstract
import Derived.Shelf.RegionOpen
import Derived.WalkKit
import Derived.OwnWalkIn
import Derived.TacticsInMore
import Derived.LoopNIn
import Derived.LoopIn
import Derived.Sort.LoopGhostIn
import Derived.Outline
namespace Go.Proofs.Ytmngmbpdiaocjaa
open Go.RowKit Go.Shelf
attribute [local go_sem] Oper.semAt_some
set_option linter.unusedVariables false

/-- What places keeps in its box, as it stands. -/
structure BoxL (W : World) (b : Nat) (st sk : Bool) (f : Int) : Prop where
  lt : b < W.heap.size
  c2 : W.cell? ⟨b, 2, none⟩ = some (.bool st)
  c3 : W.cell? ⟨b, 3, none⟩ = some (.bool sk)
  cf : W.cell? ⟨b, 10, none⟩ = some (.int .i64 f)
theorem BoxL.above {W Z : World} {B b : Nat} {st sk : Bool} {f : Int} (h : BoxL W b st sk f) (k : Above B W Z) (hB : B ≤ b) : BoxL Z b st sk f :=
  ⟨Nat.lt_of_lt_of_le h.lt k.size, (k.cell hB h.lt).trans h.c2, (k.cell hB h.lt).trans h.c3, (k.cell hB h.lt).trans h.cf⟩

/-- How many rounds are to come. -/
def mz (N k : Nat) (y f : Int) : Nat := 2 * (N - k) + (if y = f then 0 else 1)
theorem mz_lt {N k k' : Nat} {y z f : Int} (h : k < k') (hk : k < N) : mz N k' z f < mz N k y f := by unfold mz; split <;> split <;> omega
theorem mz_skip {N k : Nat} {y f : Int} (h : ¬ y = f) : mz N k f f < mz N k y f := by unfold mz; rw [if_pos rfl, if_neg h]; omega
theorem sk_cases {sk : Bool} {z f : Int} (h : (sk && decide (z = f)) = false) : sk = false ∨ (sk = true ∧ (z == f) = false) := by
  cases sk
  · exact .inl rfl
  · exact .inr ⟨rfl, by simpa using h⟩
theorem en_0 (p : Int) : en p 0 = p - 1 := by simp [en]
theorem en_1 (p : Int) : en p 1 = 2 * p - 1 := by simp [en]
theorem not_and_dec {b : Bool} {q : Prop} [Decidable q] (h : ¬ (b && decide q) = true) : (b && decide q) = false := by cases hb : (b && decide q) <;> simp_all
set_option maxHeartbeats 4000000 in
set_option maxRecDepth 100000 in
theorem places_gives0 (n : Nat) (p s c l0 : Int) (st sk re fe ag : Bool) (f : Int) (hp : 2 ≤ p) (hp8 : p ≤ 8) (hf0 : 0 ≤ f) (hf1 : f < 2 * p) (B l N : Nat) (J : Nat → World → Prop) (Jx : World → Prop) (W : World) (hB : B ≤ W.heap.size)
    (hJ : ∀ k A Z, J k A → Below A.heap.size A Z → J k Z)
    (hY : ∀ k A, k < N → J k A → YieldAt Fence.wide (n - 1) Try.prog l #[.int .i64 (plc p 0 st sk f k)] A fun e Z => (e = .returned (.bool true) ∧ k + 1 < N ∧ J (k + 1) Z ∧ Above B A Z) ∨ (e = .returned (.bool false) ∧ Jx Z))
    (h0 : J 0 W) (hN : 0 < N) :
    CallsIn Fence.wide n Try.prog 101 #[.agg #[.int .i64 p, .int .i64 s, .bool st, .bool sk, .bool re, .bool fe, .bool ag, .int .i64 c, .int .i64 l0, .int .i64 0, .int .i64 f], .func (.yield l) #[] #[]] W fun e Z => (∃ v, e = .returned v) ∧ Jx Z := by
  have HJ := Lib.hid hJ
  have HY := Lib.hid hY
  have H0 := Lib.hid h0
  clear hJ hY h0
  refine callsIn_of_wp Try.func101 rfl trivial ?_ rfl
  simp only [Try.ntmps101, List.size_toArray, List.length_cons, List.length_nil, Nat.reduceAdd, Nat.reduceSub, Array.replicate_succ, Array.replicate_zero, List.push_toArray, List.append_toArray, List.nil_append, List.cons_append]
  gi_wp2_with fail
  refine ⟨trivial, wide_room, ?_⟩
  refine CallsIn.mono (callsIn_wide.2 (board_any p s c l0 st sk re fe ag (by unfold I64; omega) _)) ?_
  rintro e w1 ⟨rfl, hb1⟩
  have hs1 := hb1.size
  simp at hs1
  have hc1 := (bcell hb1).1
  have x1 := fun o => hc1 W.heap.size o (by simp)
  have HB1 := Lib.hid (((Below.refl _ W).alloc (Nat.le_refl _) (.cells #[.int .i64 p, .int .i64 s, .bool st, .bool sk, .bool re, .bool fe, .bool ag, .int .i64 c, .int .i64 l0, .int .i64 0, .int .i64 f] 135)).trans (hb1.mono (by simp)))
  have HL : Hid (BoxL w1 W.heap.size st sk f) := Lib.hid ⟨by omega, by rw [x1]; go_simp, by rw [x1]; go_simp, by rw [x1]; go_simp⟩
  clear hc1 hb1
  gi_wp2_with fail
  clear x1
  have HJ1 := Lib.hid (HJ.out 0 _ _ H0.out HB1.out)
  clear HB1
  gi_loopg [6] (mz N 0 f f) (fun q pit wr => ∃ (k : Nat) (y : Int), q = mz N k y f ∧ k < N ∧ pit = .int .i64 y ∧ AtK p 0 st sk f k y ∧ J k wr ∧ BoxL wr W.heap.size st sk f)
  case atStart => exact ⟨0, f, rfl, hN, rfl, atK_start hf0 hf1, HJ1.out, HL.out⟩
  case round =>
    clear HJ1 HL
    obtain ⟨k, y, rfl, hk, rfl, hat, hJk, hbx⟩ := hrel
    obtain ⟨hlt, c2, c3, cf⟩ := hbx
    have hy0 := hat.1
    have hy1 := hat.2.1
    have HBx : Hid (BoxL wr W.heap.size st sk f) := Lib.hid ⟨hlt, c2, c3, cf⟩
    have Hat := Lib.hid hat
    have HJk := Lib.hid hJk
    have Hrem := Lib.hid (nxp_mod hy0 hy1)
    clear hat hJk
    by_cases hE : (st && decide (y = en p 0)) = true
    · have hplc := atK_end Hat.out hf0 hE
      have hq := HY.out k wr hk HJk.out
      rw [hplc] at hq
      obtain ⟨fn, tmps, assign, body, hy, hR⟩ := hq
      have h2 : st = true ∧ y = p - 1 := by rw [en_0] at hE; simpa using hE
      obtain ⟨rfl, hyE⟩ := h2
      have hd : (y == p - 1) = true := by simp [hyE]
      have hen : en p 0 = y := by rw [en_0, hyE]
      have Hplc := Lib.hid hplc
      have HyE := Lib.hid hyE
      have Hen := Lib.hid hen
      have HE := Lib.hid hE
      clear hplc hyE hE hen
      gi_wp2
      refine ⟨wide_room, hR.mono ?_⟩
      rintro e Z (⟨rfl, hk2, hJ2, hab⟩ | ⟨rfl, hJx⟩)
      · have HBz := Lib.hid (HBx.out.above hab hB)
        have HJ2 := Lib.hid hJ2
        obtain ⟨hltz, z2, z3, zf⟩ := HBz.out
        clear hJ2 hab hR hy c2 c3 cf hlt
        by_cases hS : (sk && decide (nxp p y = f)) = true
        · have h3 : sk = true ∧ nxp p y = f := by simpa using hS
          have hrem : (y + 1) % (2 * p) = f := by rw [Hrem.out, h3.2]
          have HA := Lib.hid (atK_store_skip hp hf0 hf1 Hplc.out (by rw [Hen.out]; exact hS))
          obtain ⟨rfl, -⟩ := h3
          clear hS
          gi_wp2
          gi_roundg (mz N (k + 1) f f)
          case measure => exact mz_lt (by omega) hk
          case rel => exact ⟨k + 1, f, rfl, hk2, congrArg _ hrem, HA.out, HJ2.out, HBz.out⟩
        · have hS2 := not_and_dec hS
          have hpl2 := atK_store hp hf0 Hplc.out (by rw [Hen.out]; exact hS2)
          rw [Hen.out, ← Hrem.out] at hpl2
          have hq := HY.out (k + 1) Z hk2 HJ2.out
          rw [hpl2] at hq
          obtain ⟨fn2, tmps2, assign2, body2, hy2, hR2⟩ := hq
          have hw := nxp_bd hy0 hy1
          rw [← Hrem.out] at hw hS2
          have HA := Lib.hid (atK_next hw.1 hw.2 hpl2)
          have hd2 : sk = false ∨ (sk = true ∧ ((y + 1) % (2 * p) == f) = false) := sk_cases hS2
          clear hS hpl2 hw hS2
          rcases hd2 with rfl | ⟨rfl, hd2⟩
          all_goals
            gi_wp2
            refine ⟨wide_room, hR2.mono ?_⟩
            rintro e Z2 (⟨rfl, hk3, hJ3, hab3⟩ | ⟨rfl, hJx⟩)
            · have HBz2 := Lib.hid (HBz.out.above hab3 hB)
              have HJ3 := Lib.hid hJ3
              clear hJ3 hab3 hR2 hy2
              gi_wp2
              gi_roundg (mz N (k + 1 + 1) ((y + 1) % (2 * p)) f)
              case measure => exact mz_lt (by omega) hk
              case rel => exact ⟨k + 1 + 1, (y + 1) % (2 * p), rfl, hk3, rfl, HA.out, HJ3.out, HBz2.out⟩
            · have HJx := Lib.hid hJx
              clear hJx
              gi_wp2
              refine bodyPost_ret (results_none rfl _ _ _) rfl ?_
              exact ⟨⟨_, rfl⟩, HJx.out⟩
      · have HJx := Lib.hid hJx
        clear hJx
        gi_wp2
        refine bodyPost_ret (results_none rfl _ _ _) rfl ?_
        exact ⟨⟨_, rfl⟩, HJx.out⟩
    · have hE2 := not_and_dec hE
      have hst : st = false ∨ (st = true ∧ (y == p - 1) = false) := by
        cases st
        · exact .inl rfl
        · refine .inr ⟨rfl, ?_⟩
          rw [en_0] at hE2
          simpa using hE2
      have HE := Lib.hid hE2
      clear hE hE2
      by_cases hS : (sk && decide (nxp p y = f)) = true
      · have h3 : sk = true ∧ nxp p y = f := by simpa using hS
        have hrem : (y + 1) % (2 * p) = f := by rw [Hrem.out, h3.2]
        have hyf : ¬ y = f := fun e => nxp_ne hp hf0 (by rw [← e]; exact h3.2.trans e.symm)
        have HA := Lib.hid (atK_skip hp hf0 hf1 Hat.out HE.out hS)
        have Hyf := Lib.hid hyf
        obtain ⟨rfl, -⟩ := h3
        clear hS hyf
        rcases hst with rfl | ⟨rfl, hd⟩
        all_goals
          gi_wp2
          refine ⟨fun _ h => (by cases h), ?_⟩
          gi_wp2
          gi_roundg (mz N k f f)
          case measure => exact mz_skip Hyf.out
          case rel => exact ⟨k, f, rfl, hk, congrArg _ hrem, HA.out, HJk.out, HBx.out⟩
      · have hS2 := not_and_dec hS
        have hpl2 := atK_pit Hat.out HE.out hS2
        rw [← Hrem.out] at hpl2
        have hq := HY.out k wr hk HJk.out
        rw [hpl2] at hq
        obtain ⟨fn2, tmps2, assign2, body2, hy2, hR2⟩ := hq
        have hw := nxp_bd hy0 hy1
        rw [← Hrem.out] at hw hS2
        have HA := Lib.hid (atK_next hw.1 hw.2 hpl2)
        have hd2 : sk = false ∨ (sk = true ∧ ((y + 1) % (2 * p) == f) = false) := sk_cases hS2
        clear Hat HE hpl2 hS hw hS2
        rcases hst with rfl | ⟨rfl, hd⟩
        all_goals
          rcases hd2 with rfl | ⟨rfl, hd2⟩
          all_goals
            gi_wp2
            refine ⟨fun _ h => (by cases h), ?_⟩
            gi_wp2
            refine ⟨wide_room, hR2.mono ?_⟩
            rintro e Z2 (⟨rfl, hk3, hJ3, hab3⟩ | ⟨rfl, hJx⟩)
            · have HBz2 := Lib.hid (HBx.out.above hab3 hB)
              have HJ3 := Lib.hid hJ3
              clear hJ3 hab3 hR2 hy2
              gi_wp2
              gi_roundg (mz N (k + 1) ((y + 1) % (2 * p)) f)
              case measure => exact mz_lt (by omega) hk
              case rel => exact ⟨k + 1, (y + 1) % (2 * p), rfl, hk3, rfl, HA.out, HJ3.out, HBz2.out⟩
            · have HJx := Lib.hid hJx
              clear hJx
              gi_wp2
              refine bodyPost_ret (results_none rfl _ _ _) rfl ?_
              exact ⟨⟨_, rfl⟩, HJx.out⟩
set_option maxHeartbeats 4000000 in
set_option maxRecDepth 100000 in
theorem places_gives1 (n : Nat) (p s c l0 : Int) (st sk re fe ag : Bool) (f : Int) (hp : 2 ≤ p) (hp8 : p ≤ 8) (hf0 : 0 ≤ f) (hf1 : f < 2 * p) (B l N : Nat) (J : Nat → World → Prop) (Jx : World → Prop) (W : World) (hB : B ≤ W.heap.size)
    (hJ : ∀ k A Z, J k A → Below A.heap.size A Z → J k Z)
    (hY : ∀ k A, k < N → J k A → YieldAt Fence.wide (n - 1) Try.prog l #[.int .i64 (plc p 1 st sk f k)] A fun e Z => (e = .returned (.bool true) ∧ k + 1 < N ∧ J (k + 1) Z ∧ Above B A Z) ∨ (e = .returned (.bool false) ∧ Jx Z))
    (h0 : J 0 W) (hN : 0 < N) :
    CallsIn Fence.wide n Try.prog 101 #[.agg #[.int .i64 p, .int .i64 s, .bool st, .bool sk, .bool re, .bool fe, .bool ag, .int .i64 c, .int .i64 l0, .int .i64 1, .int .i64 f], .func (.yield l) #[] #[]] W fun e Z => (∃ v, e = .returned v) ∧ Jx Z := by
  have HJ := Lib.hid hJ
  have HY := Lib.hid hY
  have H0 := Lib.hid h0
  clear hJ hY h0
  refine callsIn_of_wp Try.func101 rfl trivial ?_ rfl
  simp only [Try.ntmps101, List.size_toArray, List.length_cons, List.length_nil, Nat.reduceAdd, Nat.reduceSub, Array.replicate_succ, Array.replicate_zero, List.push_toArray, List.append_toArray, List.nil_append, List.cons_append]
  gi_wp2_with fail
  refine ⟨trivial, wide_room, ?_⟩
  refine CallsIn.mono (callsIn_wide.2 (board_any p s c l0 st sk re fe ag (by unfold I64; omega) _)) ?_
  rintro e w1 ⟨rfl, hb1⟩
  have hs1 := hb1.size
  simp at hs1
  have hc1 := (bcell hb1).1
  have x1 := fun o => hc1 W.heap.size o (by simp)
  have HB1 := Lib.hid (((Below.refl _ W).alloc (Nat.le_refl _) (.cells #[.int .i64 p, .int .i64 s, .bool st, .bool sk, .bool re, .bool fe, .bool ag, .int .i64 c, .int .i64 l0, .int .i64 1, .int .i64 f] 135)).trans (hb1.mono (by simp)))
  have HL : Hid (BoxL w1 W.heap.size st sk f) := Lib.hid ⟨by omega, by rw [x1]; go_simp, by rw [x1]; go_simp, by rw [x1]; go_simp⟩
  clear hc1 hb1
  gi_wp2_with fail
  clear x1
  have HJ1 := Lib.hid (HJ.out 0 _ _ H0.out HB1.out)
  clear HB1
  gi_loopg [6] (mz N 0 f f) (fun q pit wr => ∃ (k : Nat) (y : Int), q = mz N k y f ∧ k < N ∧ pit = .int .i64 y ∧ AtK p 1 st sk f k y ∧ J k wr ∧ BoxL wr W.heap.size st sk f)
  case atStart => exact ⟨0, f, rfl, hN, rfl, atK_start hf0 hf1, HJ1.out, HL.out⟩
  case round =>
    clear HJ1 HL
    obtain ⟨k, y, rfl, hk, rfl, hat, hJk, hbx⟩ := hrel
    obtain ⟨hlt, c2, c3, cf⟩ := hbx
    have hy0 := hat.1
    have hy1 := hat.2.1
    have HBx : Hid (BoxL wr W.heap.size st sk f) := Lib.hid ⟨hlt, c2, c3, cf⟩
    have Hat := Lib.hid hat
    have HJk := Lib.hid hJk
    have Hrem := Lib.hid (nxp_mod hy0 hy1)
    clear hat hJk
    by_cases hE : (st && decide (y = en p 1)) = true
    · have hplc := atK_end Hat.out hf0 hE
      have hq := HY.out k wr hk HJk.out
      rw [hplc] at hq
      obtain ⟨fn, tmps, assign, body, hy, hR⟩ := hq
      have h2 : st = true ∧ y = 2 * p - 1 := by rw [en_1] at hE; simpa using hE
      obtain ⟨rfl, hyE⟩ := h2
      have hd : (y == 2 * p - 1) = true := by simp [hyE]
      have hen : en p 1 = y := by rw [en_1, hyE]
      have Hplc := Lib.hid hplc
      have HyE := Lib.hid hyE
      have Hen := Lib.hid hen
      have HE := Lib.hid hE
      clear hplc hyE hE hen
      gi_wp2
      refine ⟨wide_room, hR.mono ?_⟩
      rintro e Z (⟨rfl, hk2, hJ2, hab⟩ | ⟨rfl, hJx⟩)
      · have HBz := Lib.hid (HBx.out.above hab hB)
        have HJ2 := Lib.hid hJ2
        obtain ⟨hltz, z2, z3, zf⟩ := HBz.out
        clear hJ2 hab hR hy c2 c3 cf hlt
        by_cases hS : (sk && decide (nxp p y = f)) = true
        · have h3 : sk = true ∧ nxp p y = f := by simpa using hS
          have hrem : (y + 1) % (2 * p) = f := by rw [Hrem.out, h3.2]
          have HA := Lib.hid (atK_store_skip hp hf0 hf1 Hplc.out (by rw [Hen.out]; exact hS))
          obtain ⟨rfl, -⟩ := h3
          clear hS
          gi_wp2
          gi_roundg (mz N (k + 1) f f)
          case measure => exact mz_lt (by omega) hk
          case rel => exact ⟨k + 1, f, rfl, hk2, congrArg _ hrem, HA.out, HJ2.out, HBz.out⟩
        · have hS2 := not_and_dec hS
          have hpl2 := atK_store hp hf0 Hplc.out (by rw [Hen.out]; exact hS2)
          rw [Hen.out, ← Hrem.out] at hpl2
          have hq := HY.out (k + 1) Z hk2 HJ2.out
          rw [hpl2] at hq
          obtain ⟨fn2, tmps2, assign2, body2, hy2, hR2⟩ := hq
          have hw := nxp_bd hy0 hy1
          rw [← Hrem.out] at hw hS2
          have HA := Lib.hid (atK_next hw.1 hw.2 hpl2)
          have hd2 : sk = false ∨ (sk = true ∧ ((y + 1) % (2 * p) == f) = false) := sk_cases hS2
          clear hS hpl2 hw hS2
          rcases hd2 with rfl | ⟨rfl, hd2⟩
          all_goals
            gi_wp2
            refine ⟨wide_room, hR2.mono ?_⟩
            rintro e Z2 (⟨rfl, hk3, hJ3, hab3⟩ | ⟨rfl, hJx⟩)
            · have HBz2 := Lib.hid (HBz.out.above hab3 hB)
              have HJ3 := Lib.hid hJ3
              clear hJ3 hab3 hR2 hy2
              gi_wp2
              gi_roundg (mz N (k + 1 + 1) ((y + 1) % (2 * p)) f)
              case measure => exact mz_lt (by omega) hk
              case rel => exact ⟨k + 1 + 1, (y + 1) % (2 * p), rfl, hk3, rfl, HA.out, HJ3.out, HBz2.out⟩
            · have HJx := Lib.hid hJx
              clear hJx
              gi_wp2
              refine bodyPost_ret (results_none rfl _ _ _) rfl ?_
              exact ⟨⟨_, rfl⟩, HJx.out⟩
      · have HJx := Lib.hid hJx
        clear hJx
        gi_wp2
        refine bodyPost_ret (results_none rfl _ _ _) rfl ?_
        exact ⟨⟨_, rfl⟩, HJx.out⟩
    · have hE2 := not_and_dec hE
      have hst : st = false ∨ (st = true ∧ (y == 2 * p - 1) = false) := by
        cases st
        · exact .inl rfl
        · refine .inr ⟨rfl, ?_⟩
          rw [en_1] at hE2
          simpa using hE2
      have HE := Lib.hid hE2
      clear hE hE2
      by_cases hS : (sk && decide (nxp p y = f)) = true
      · have h3 : sk = true ∧ nxp p y = f := by simpa using hS
        have hrem : (y + 1) % (2 * p) = f := by rw [Hrem.out, h3.2]
        have hyf : ¬ y = f := fun e => nxp_ne hp hf0 (by rw [← e]; exact h3.2.trans e.symm)
        have HA := Lib.hid (atK_skip hp hf0 hf1 Hat.out HE.out hS)
        have Hyf := Lib.hid hyf
        obtain ⟨rfl, -⟩ := h3
        clear hS hyf
        rcases hst with rfl | ⟨rfl, hd⟩
        all_goals
          gi_wp2
          refine ⟨fun _ h => (by cases h), ?_⟩
          gi_wp2
          gi_roundg (mz N k f f)
          case measure => exact mz_skip Hyf.out
          case rel => exact ⟨k, f, rfl, hk, congrArg _ hrem, HA.out, HJk.out, HBx.out⟩
      · have hS2 := not_and_dec hS
        have hpl2 := atK_pit Hat.out HE.out hS2
        rw [← Hrem.out] at hpl2
        have hq := HY.out k wr hk HJk.out
        rw [hpl2] at hq
        obtain ⟨fn2, tmps2, assign2, body2, hy2, hR2⟩ := hq
        have hw := nxp_bd hy0 hy1
        rw [← Hrem.out] at hw hS2
        have HA := Lib.hid (atK_next hw.1 hw.2 hpl2)
        have hd2 : sk = false ∨ (sk = true ∧ ((y + 1) % (2 * p) == f) = false) := sk_cases hS2
        clear Hat HE hpl2 hS hw hS2
        rcases hst with rfl | ⟨rfl, hd⟩
        all_goals
          rcases hd2 with rfl | ⟨rfl, hd2⟩
          all_goals
            gi_wp2
            refine ⟨fun _ h => (by cases h), ?_⟩
            gi_wp2
            refine ⟨wide_room, hR2.mono ?_⟩
            rintro e Z2 (⟨rfl, hk3, hJ3, hab3⟩ | ⟨rfl, hJx⟩)
            · have HBz2 := Lib.hid (HBx.out.above hab3 hB)
              have HJ3 := Lib.hid hJ3
              clear hJ3 hab3 hR2 hy2
              gi_wp2
              gi_roundg (mz N (k + 1) ((y + 1) % (2 * p)) f)
              case measure => exact mz_lt (by omega) hk
              case rel => exact ⟨k + 1, (y + 1) % (2 * p), rfl, hk3, rfl, HA.out, HJ3.out, HBz2.out⟩
            · have HJx := Lib.hid hJx
              clear hJx
              gi_wp2
              refine bodyPost_ret (results_none rfl _ _ _) rfl ?_
              exact ⟨⟨_, rfl⟩, HJx.out⟩
end Go.Proofs.Ytmngmbpdiaocjaa
