/- Majorities, needed seeds and leads of a position: the reference's and the program's. No conditions. -/
import Derived.Test.YtgogjjkecbgbiaaSide4
import Derived.Test.YtgogjjkecbgbiaaSame4
import Derived.Test.YtgogjjkecbgbiaaPosZ
import Derived.Laws.Small
import Derived.BigQuiet
namespace Go.Proofs.Ytgogjjkecbgbiaa
open Go.Joins Go.ChangeShapes Go.WideShapes Go.ChangeAt Go.RowKit Go.Deep
set_option linter.unusedVariables false

theorem two9 {ys : List Int} (h : ys.length = 2) : ∃ y0 y1, ys = [y0, y1] := by
  match ys, h with
  | [a, b], _ => exact ⟨a, b, rfl⟩
/-- The seeds that are needed for a majority. -/
def needV (t y : Int) : Int := if t / 2 + 1 - y < 0 then 0 else t / 2 + 1 - y
/-- Who has the majority. -/
def majV (t y0 y1 : Int) : Int := if t < 2 * y0 then 0 else if t < 2 * y1 then 1 else -1
theorem need_zero {t y : Int} (h0 : 0 ≤ t) : needV t y = 0 ↔ t < 2 * y := by
  unfold needV
  split <;> omega
theorem row_two {w : World} {a : Option Addr} {y0 y1 : Int} (h : RowN w a [y0, y1]) : ∃ g o, a = some ⟨g, o, none⟩ ∧ g < w.heap.size ∧ w.cell? ⟨g, o, none⟩ = some (.int .i64 y0) ∧ w.cell? ⟨g, o + 1, none⟩ = some (.int .i64 y1) := by
  obtain ⟨g, o, ha, hg, hx⟩ := h.2.resolve_left (by simp)
  exact ⟨g, o, ha, hg, hx 0 y0 rfl, hx 1 y1 rfl⟩
theorem tot2 (y0 y1 : Int) : tot [y0, y1] = y0 + y1 := by simp [tot]
/-- What is known of a valid position. -/
theorem ok9 {k : Bool} {p : Int} {n1 n2 : Nat} {pl : Int} {xs ys : List Int} (h : okP k p n1 n2 pl xs ys = true) (l2 : ys.length = n2) : ∃ y0 y1, ys = [y0, y1] ∧ n2 = 2 ∧ seedB xs [y0, y1] = true ∧ 0 ≤ y0 ∧ 0 ≤ y1 ∧ 0 ≤ tot xs ∧ tot xs + (y0 + y1) ≤ 96 := by
  obtain ⟨-, -, h2, -, hs⟩ := okP_parts h
  obtain ⟨y0, y1, rfl⟩ := two9 (l2.trans h2)
  obtain ⟨q1, q2, q3⟩ := seedB_parts hs
  have q4 := posB_tot q1
  simp only [posB, List.all_cons, List.all_nil, Bool.and_true, Bool.and_eq_true, decide_eq_true_eq] at q2
  rw [tot2] at q3
  exact ⟨y0, y1, rfl, h2, hs, q2.1, q2.2, q4, q3⟩
set_option maxHeartbeats 1000000 in
set_option maxRecDepth 100000 in
theorem l09All_any (p1 p2 : Option Addr) (pn1 pc1 pn2 pc2 : Nat) (pp : Int) (xs ys : List Int) (d : Nat) (w : World) (hq : PoAt w d p1 p2 pn1 pc1 pn2 pc2 pp) (h : PosR w p1 p2 pn1 pn2 xs ys) (hs : seedB xs ys = true) :
    Calls Try.prog 28 #[.pointer (some ⟨d, 0, none⟩)] w (Still (.int .i64 (tot xs + tot ys)) w) := by
  obtain ⟨q1, q2, q3⟩ := seedB_parts hs
  have q4 := posB_tot q1
  have q5 := posB_tot q2
  have e1 : sumC xs = tot xs := sumC_yes (inB_of_pos q1 (by omega)) (by omega)
  have e2 : sumC ys = tot ys := sumC_yes (inB_of_pos q2 (by omega)) (by omega)
  have H1 : Hid (∀ m, Calls Try.prog 43 #[.slice p1 pn1 pc1] (w.drewN m) fun e w' => e = .returned (.int .i64 (tot xs)) ∧ w.drewN m = w') := Lib.hid (fun m => by rw [← e1]; exact l04Sum_any p1 pc1 pn1 xs _ h.l1 (h.r1.drewN m))
  have H2 : Hid (∀ m, Calls Try.prog 43 #[.slice p2 pn2 pc2] (w.drewN m) fun e w' => e = .returned (.int .i64 (tot ys)) ∧ w.drewN m = w') := Lib.hid (fun m => by rw [← e2]; exact l04Sum_any p2 pc2 pn2 ys _ h.l2 (h.r2.drewN m))
  obtain ⟨_, t0, t1, t2⟩ := hq
  generalize tot xs = tx at *
  generalize tot ys = ty at *
  have hw1 : IntKind.i64.wrap (tx + ty) = tx + ty := IntWalk.i64_in _ ⟨by omega, by omega⟩
  clear hs h e1 e2
  go_enter Try.func28, Try.ntmps28
  go_wp2_with fail
  go_quiet ((first | (go_at_call 43; with_reducible exact quiet_w (H1.out _) ⟨_, rfl⟩) | (go_at_call 43; with_reducible exact quiet_w (H2.out _) ⟨_, rfl⟩)))
  go_wp2_with fail
  go_ret
  exact ⟨rfl, by first | exact ⟨_, rfl⟩ | exact ⟨_, World.drewN_drewN _ _ _⟩⟩
set_option maxHeartbeats 2000000 in
set_option maxRecDepth 100000 in
theorem l09Maj_any (p1 p2 : Option Addr) (pn1 pc1 pn2 pc2 : Nat) (pp : Int) (xs : List Int) (y0 y1 : Int) (d : Nat) (w : World) (hq : PoAt w d p1 p2 pn1 pc1 pn2 pc2 pp) (h : PosR w p1 p2 pn1 pn2 xs [y0, y1]) (hs : seedB xs [y0, y1] = true) :
    Calls Try.prog 30 #[.pointer (some ⟨d, 0, none⟩)] w (Still (.int .i64 (majV (tot xs + (y0 + y1)) y0 y1)) w) := by
  obtain ⟨q1, q2, q3⟩ := seedB_parts hs
  have q4 := posB_tot q1
  simp only [posB, List.all_cons, List.all_nil, Bool.and_true, Bool.and_eq_true, decide_eq_true_eq] at q2
  obtain ⟨r0, r1⟩ := q2
  rw [tot2] at q3
  have b0 : y0 ≤ 96 := by omega
  have b1 : y1 ≤ 96 := by omega
  have HA : Hid (∀ m n, Calls Try.prog 28 #[.pointer (some ⟨d, 0, none⟩)] ((w.drewN m).drewN n) (Still (.int .i64 (tot xs + (y0 + y1))) ((w.drewN m).drewN n))) := Lib.hid (fun m n => by have := l09All_any p1 p2 pn1 pc1 pn2 pc2 pp xs [y0, y1] d ((w.drewN m).drewN n) (hq.below (below_dn (below_dn (Below.refl _ _) m) n)) ((h.drewN m).drewN n) hs; rwa [tot2] at this)
  have HQ := Lib.hid hq
  obtain ⟨g, o, rfl, hg, z0, z1⟩ := row_two h.r2
  obtain rfl : 2 = pn2 := h.l2
  generalize tot xs + (y0 + y1) = t at *
  have HZ := Lib.hid (And.intro hg (And.intro z0 z1))
  clear h hs hq z0 z1
  by_cases m0 : t < 2 * y0
  · have e : majV t y0 y1 = 0 := by unfold majV; rw [if_pos m0]
    rw [e]
    clear e
    go_enter Try.func30, Try.ntmps30
    go_wp2_with fail
    go_loopw [3] (fun i wr => ∃ k m : Nat, k ≤ 0 ∧ i = .int .i64 k ∧ wr = w.drewN m) (fun i _ => 2 - (intOf i).toNat)
    case atStart => exact ⟨0, 0, Nat.le_refl _, rfl, rfl⟩
    case round =>
      obtain ⟨k, m, hk, rfl, hwr⟩ := hrel
      have HAr : Hid (∀ n, Calls Try.prog 28 #[.pointer (some ⟨d, 0, none⟩)] (wr.drewN n) (Still (.int .i64 t) (wr.drewN n))) := Lib.hid (by rw [hwr]; exact HA.out m)
      obtain ⟨_, t0, t1, t2⟩ : PoAt wr d p1 (some ⟨g, o, none⟩) pn1 pc1 2 pc2 pp := by rw [hwr]; exact HQ.out.below (below_dn (Below.refl _ _) m)
      have z0 : wr.cell? ⟨g, o, none⟩ = some (.int .i64 y0) := by rw [hwr]; exact (Below.cell (below_dn (Below.refl w.heap.size w) m) (p := ⟨g, o, none⟩) HZ.out.1).trans HZ.out.2.1
      have z1 : wr.cell? ⟨g, o + 1, none⟩ = some (.int .i64 y1) := by rw [hwr]; exact (Below.cell (below_dn (Below.refl w.heap.size w) m) (p := ⟨g, o + 1, none⟩) HZ.out.1).trans HZ.out.2.2
      have HWr := Lib.hid hwr
      clear hwr
      obtain rfl : k = 0 := by omega
      go_wp2_with fail
      go_quiet ((go_at_call 28; exact quiet_s (HAr.out _) ⟨_, rfl⟩))
      go_wp2_with fail
      go_ret
      exact ⟨rfl, by rw [HWr.out]; first | exact ⟨_, rfl⟩ | exact ⟨_, World.drewN_drewN _ _ _⟩⟩
  · by_cases m1 : t < 2 * y1
    · have e : majV t y0 y1 = 1 := by unfold majV; rw [if_neg m0, if_pos m1]
      rw [e]
      clear e
      go_enter Try.func30, Try.ntmps30
      go_wp2_with fail
      go_loopw [3] (fun i wr => ∃ k m : Nat, k ≤ 1 ∧ i = .int .i64 k ∧ wr = w.drewN m) (fun i _ => 2 - (intOf i).toNat)
      case atStart => exact ⟨0, 0, by omega, rfl, rfl⟩
      case round =>
        obtain ⟨k, m, hk, rfl, hwr⟩ := hrel
        have HAr : Hid (∀ n, Calls Try.prog 28 #[.pointer (some ⟨d, 0, none⟩)] (wr.drewN n) (Still (.int .i64 t) (wr.drewN n))) := Lib.hid (by rw [hwr]; exact HA.out m)
        obtain ⟨_, t0, t1, t2⟩ : PoAt wr d p1 (some ⟨g, o, none⟩) pn1 pc1 2 pc2 pp := by rw [hwr]; exact HQ.out.below (below_dn (Below.refl _ _) m)
        have z0 : wr.cell? ⟨g, o, none⟩ = some (.int .i64 y0) := by rw [hwr]; exact (Below.cell (below_dn (Below.refl w.heap.size w) m) (p := ⟨g, o, none⟩) HZ.out.1).trans HZ.out.2.1
        have z1 : wr.cell? ⟨g, o + 1, none⟩ = some (.int .i64 y1) := by rw [hwr]; exact (Below.cell (below_dn (Below.refl w.heap.size w) m) (p := ⟨g, o + 1, none⟩) HZ.out.1).trans HZ.out.2.2
        have HWr := Lib.hid hwr
        clear hwr
        rcases (show k = 0 ∨ k = 1 by omega) with rfl | rfl
        · go_wp2_with fail
          go_quiet ((go_at_call 28; exact quiet_s (HAr.out _) ⟨_, rfl⟩))
          go_wp2_with fail
          go_roundw
          case rel => exact ⟨1, _, by omega, by go_num, by rw [HWr.out]; first | rfl | exact World.drewN_drewN _ _ _⟩
          case measure => simp [intOf]
        · go_wp2_with fail
          go_quiet ((go_at_call 28; exact quiet_s (HAr.out _) ⟨_, rfl⟩))
          go_wp2_with fail
          go_ret
          exact ⟨rfl, by rw [HWr.out]; first | exact ⟨_, rfl⟩ | exact ⟨_, World.drewN_drewN _ _ _⟩⟩
    · have e : majV t y0 y1 = -1 := by unfold majV; rw [if_neg m0, if_neg m1]
      rw [e]
      clear e
      go_enter Try.func30, Try.ntmps30
      go_wp2_with fail
      go_loopw [3] (fun i wr => ∃ k m : Nat, k ≤ 2 ∧ i = .int .i64 k ∧ wr = w.drewN m) (fun i _ => 2 - (intOf i).toNat)
      case atStart => exact ⟨0, 0, by omega, rfl, rfl⟩
      case round =>
        obtain ⟨k, m, hk, rfl, hwr⟩ := hrel
        have HAr : Hid (∀ n, Calls Try.prog 28 #[.pointer (some ⟨d, 0, none⟩)] (wr.drewN n) (Still (.int .i64 t) (wr.drewN n))) := Lib.hid (by rw [hwr]; exact HA.out m)
        obtain ⟨_, t0, t1, t2⟩ : PoAt wr d p1 (some ⟨g, o, none⟩) pn1 pc1 2 pc2 pp := by rw [hwr]; exact HQ.out.below (below_dn (Below.refl _ _) m)
        have z0 : wr.cell? ⟨g, o, none⟩ = some (.int .i64 y0) := by rw [hwr]; exact (Below.cell (below_dn (Below.refl w.heap.size w) m) (p := ⟨g, o, none⟩) HZ.out.1).trans HZ.out.2.1
        have z1 : wr.cell? ⟨g, o + 1, none⟩ = some (.int .i64 y1) := by rw [hwr]; exact (Below.cell (below_dn (Below.refl w.heap.size w) m) (p := ⟨g, o + 1, none⟩) HZ.out.1).trans HZ.out.2.2
        have HWr := Lib.hid hwr
        clear hwr
        rcases (show k = 0 ∨ k = 1 ∨ k = 2 by omega) with rfl | rfl | rfl
        · go_wp2_with fail
          go_quiet ((go_at_call 28; exact quiet_s (HAr.out _) ⟨_, rfl⟩))
          go_wp2_with fail
          go_roundw
          case rel => exact ⟨1, _, by omega, by go_num, by rw [HWr.out]; first | rfl | exact World.drewN_drewN _ _ _⟩
          case measure => simp [intOf]
        · go_wp2_with fail
          go_quiet ((go_at_call 28; exact quiet_s (HAr.out _) ⟨_, rfl⟩))
          go_wp2_with fail
          go_roundw
          case rel => exact ⟨2, _, by omega, by go_num, by rw [HWr.out]; first | rfl | exact World.drewN_drewN _ _ _⟩
          case measure => simp [intOf]
        · go_wp2_with fail
          go_ret
          exact ⟨rfl, by rw [HWr.out]; first | exact ⟨_, rfl⟩ | exact ⟨_, World.drewN_drewN _ _ _⟩⟩
/-- The seeds that a player needs, as the program finds them. -/
theorem needed_any (p1 p2 : Option Addr) (pn1 pc1 pn2 pc2 : Nat) (pp : Int) (xs : List Int) (y0 y1 player : Int) (w : World) (h : PosR w p1 p2 pn1 pn2 xs [y0, y1]) (hs : seedB xs [y0, y1] = true) (hp : player = 0 ∨ player = 1) :
    Calls Try.prog 26 #[.agg #[.slice p1 pn1 pc1, .slice p2 pn2 pc2, .int .i64 pp], .int .i64 player] w fun e w' => e = .returned (.int .i64 (needV (tot xs + (y0 + y1)) (if player = 0 then y0 else y1))) ∧ Below w.heap.size w w' := by
  obtain rfl : 2 = pn2 := h.l2
  obtain ⟨q1, q2, q3⟩ := seedB_parts hs
  have q4 := posB_tot q1
  simp only [posB, List.all_cons, List.all_nil, Bool.and_true, Bool.and_eq_true, decide_eq_true_eq] at q2
  obtain ⟨r0, r1⟩ := q2
  rw [tot2] at q3
  have b0 : y0 ≤ 96 := by omega
  have b1 : y1 ≤ 96 := by omega
  have b2 : 0 ≤ tot xs + (y0 + y1) := by omega
  have HS : Hid (∀ u, Below w.heap.size w u → Calls Try.prog 39 #[.agg #[.slice p1 pn1 pc1, .slice p2 2 pc2, .int .i64 pp]] u fun e w' => e = .returned (.tuple #[.int .i64 (tot xs + (y0 + y1)), .bool true]) ∧ Below u.heap.size u w') := Lib.hid (fun u hu => (seeds_any p1 p2 pn1 pc1 2 pc2 pp xs [y0, y1] u (h.below hu)).mono (fun e w' hq => by unfold SeedP at hq; rw [hs, tot2] at hq; exact hq))
  have HP := Lib.hid (po_new p1 p2 pn1 pc1 2 pc2 pp w 28)
  have HB := Lib.hid (al1 w (.cells #[.slice p1 pn1 pc1, .slice p2 2 pc2, .int .i64 pp] 28))
  have HRw := Lib.hid h.r2
  generalize tot xs + (y0 + y1) = t at *
  clear h hs
  rcases hp with rfl | rfl
  · rw [if_pos rfl]
    by_cases hn : t / 2 + 1 - y0 < 0
    · have e : needV t y0 = 0 := by unfold needV; rw [if_pos hn]
      rw [e]
      clear e
      go_enter Try.func26, Try.ntmps26
      go_wp2_with fail
      refine (HS.out _ HB.out).mono ?_
      rintro e w5 ⟨rfl, hb⟩
      obtain ⟨g, o, rfl, hg, z0, z1⟩ := row_two (HRw.out.below (HB.out.trans (hb.mono HB.out.size)))
      obtain ⟨_, t0, t1, t2⟩ := HP.out.below hb
      have HB := Lib.hid (HB.out.trans (hb.mono HB.out.size))
      clear hb
      go_wp2_with fail
      go_ret
      exact ⟨rfl, HB.out⟩
    · have e : needV t y0 = t / 2 + 1 - y0 := by unfold needV; rw [if_neg hn]
      rw [e]
      clear e
      go_enter Try.func26, Try.ntmps26
      go_wp2_with fail
      refine (HS.out _ HB.out).mono ?_
      rintro e w5 ⟨rfl, hb⟩
      obtain ⟨g, o, rfl, hg, z0, z1⟩ := row_two (HRw.out.below (HB.out.trans (hb.mono HB.out.size)))
      obtain ⟨_, t0, t1, t2⟩ := HP.out.below hb
      have HB := Lib.hid (HB.out.trans (hb.mono HB.out.size))
      clear hb
      go_wp2_with fail
      go_ret
      exact ⟨rfl, HB.out⟩
  · rw [if_neg (by decide)]
    by_cases hn : t / 2 + 1 - y1 < 0
    · have e : needV t y1 = 0 := by unfold needV; rw [if_pos hn]
      rw [e]
      clear e
      go_enter Try.func26, Try.ntmps26
      go_wp2_with fail
      refine (HS.out _ HB.out).mono ?_
      rintro e w5 ⟨rfl, hb⟩
      obtain ⟨g, o, rfl, hg, z0, z1⟩ := row_two (HRw.out.below (HB.out.trans (hb.mono HB.out.size)))
      obtain ⟨_, t0, t1, t2⟩ := HP.out.below hb
      have HB := Lib.hid (HB.out.trans (hb.mono HB.out.size))
      clear hb
      go_wp2_with fail
      go_ret
      exact ⟨rfl, HB.out⟩
    · have e : needV t y1 = t / 2 + 1 - y1 := by unfold needV; rw [if_neg hn]
      rw [e]
      clear e
      go_enter Try.func26, Try.ntmps26
      go_wp2_with fail
      refine (HS.out _ HB.out).mono ?_
      rintro e w5 ⟨rfl, hb⟩
      obtain ⟨g, o, rfl, hg, z0, z1⟩ := row_two (HRw.out.below (HB.out.trans (hb.mono HB.out.size)))
      obtain ⟨_, t0, t1, t2⟩ := HP.out.below hb
      have HB := Lib.hid (HB.out.trans (hb.mono HB.out.size))
      clear hb
      go_wp2_with fail
      go_ret
      exact ⟨rfl, HB.out⟩
end Go.Proofs.Ytgogjjkecbgbiaa
