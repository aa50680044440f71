/- RankSeeds of both sides. No conditions. -/
import Derived.Test.YthbgfkklejnhiaaVd
namespace Go.Proofs.Ythbgfkklejnhiaa
open Go.Joins Go.ChangeShapes Go.WideShapes Go.ChangeAt Go.RowKit Go.Deep
set_option linter.unusedVariables false

/-- The answer on ranks. -/
def rkV (xs : List Int) : Int := if okD xs then (rk (xs.map Int.toNat) : Int) else 0
def rkC (xs : List Int) : Int := if okD xs then 0 else 1
def RkP (xs : List Int) (w : World) (e : Ending) (w' : World) : Prop := e = .returned (.tuple #[.int .i64 (rkV xs), .int .i64 (rkC xs)]) ∧ Below w.heap.size w w'
theorem vals_nat (ys : List Nat) : (vals ys).map Int.toNat = ys := by
  unfold vals
  rw [List.map_map]
  conv => rhs; rw [← List.map_id ys]
  apply List.map_congr_left
  intro y _
  simp
theorem rk_yes {ys : List Nat} {P : Nat} (h : DisOk ys P) : rkV (vals ys) = (rk ys : Int) ∧ rkC (vals ys) = 0 := by
  unfold rkV rkC
  rw [ok_of_dis h, vals_nat]
  exact ⟨rfl, rfl⟩
theorem rk_no {xs : List Int} (h : okD xs = false) : rkV xs = 0 ∧ rkC xs = 1 := by
  unfold rkV rkC
  rw [h]
  exact ⟨rfl, rfl⟩
theorem drop_cons {ys : List Nat} {k y : Nat} (h : ys[k]? = some y) : ys.drop k = y :: ys.drop (k + 1) := by
  obtain ⟨hk, rfl⟩ := List.getElem?_eq_some_iff.1 h
  exact List.drop_eq_getElem_cons hk
theorem sm_drop (ys : List Nat) (k : Nat) : sm (ys.drop k) ≤ sm ys := by
  have h : sm (ys.take k ++ ys.drop k) = sm ys := congrArg sm (List.take_append_drop _ _)
  rw [sm_app] at h
  omega
theorem rk_drop : ∀ (ys : List Nat) (k : Nat), rk (ys.drop k) ≤ rk ys
  | [], k => by simp
  | y :: ys, 0 => by simp
  | y :: ys, k + 1 => by
    have := rk_drop ys k
    show rk (ys.drop k) ≤ _ + rk ys
    omega
theorem rk_step {ys : List Nat} {k y : Nat} (h : ys[k]? = some y) : rk (ys.drop k) = cnt (sm (ys.drop k)) (ys.length - k) - cnt (sm (ys.drop (k + 1))) (ys.length - k) + rk (ys.drop (k + 1)) ∧ sm (ys.drop k) = y + sm (ys.drop (k + 1)) := by
  obtain ⟨hk, -⟩ := List.getElem?_eq_some_iff.1 h
  have e : (ys.drop (k + 1)).length + 1 = ys.length - k := by rw [List.length_drop]; omega
  rw [drop_cons h]
  refine ⟨?_, rfl⟩
  rw [← e]
  rfl
theorem cn_fit {S P : Nat} (h : S ≤ 96) (h2 : P ≤ 15) (h3 : cnt S (P + 1) ≤ 1000000000000000) : cnV (S : Int) ((P : Int) + 1) = (cnt S (P + 1) : Int) ∧ cnC (S : Int) ((P : Int) + 1) = 0 :=
  cn_val (by rw [cn_in h h2, decide_eq_true h3])

set_option maxHeartbeats 4000000 in
theorem implRk_yes (a : Option Addr) (c P : Nat) (ys : List Nat) (w : World) (hD : DisOk ys P) (h : RowN w a (vals ys)) :
    Calls Try.prog 52 #[.slice a (P + 1) c] w (RkP (vals ys) w) := by
  have hn : (vals ys).length = P + 1 := by rw [vals_len, hD.len]
  have HV := Lib.hid (implVd_any a c (P + 1) (vals ys) w hn h)
  rw [ok_of_dis hD] at HV
  have ht : tot (vals ys) ≤ 96 := by rw [vals_tot]; have := hD.s96; omega
  have HS := Lib.hid (fun (u : World) (hu : Below w.heap.size w u) => sumOf_any a c (P + 1) (vals ys) u hn (h.below hu) (posB_vals ys) ht)
  rw [vals_tot] at HS
  unfold RkP
  rw [(rk_yes hD).1, (rk_yes hD).2]
  obtain ⟨g, o, rfl, hg, hx⟩ := h.2.resolve_left (by intro e; rw [e] at hn; cases hn)
  have HX := Lib.hid hx
  have HD := Lib.hid hD
  have hP := hD.p15
  clear hx h ht hn hD
  go_enter Try.func52, Try.ntmps52
  go_wp2_with (first | (go_at_call 81; refine HV.out.mono ?_; rintro e w1 ⟨rfl, hb⟩; have HB := Lib.hid hb; clear hb) | (go_at_call 44; refine (HS.out _ HB.out).mono ?_; rintro e w2 ⟨rfl, rfl⟩))
  go_loopw [4, 5, 20] (fun r l i wr => ∃ (k R : Nat), k ≤ P + 1 ∧ i = .int .i64 (k : Int) ∧ l = .int .i64 ((sm (ys.drop k) : Nat) : Int) ∧ r = .int .i64 (R : Int) ∧ R + rk (ys.drop k) = rk ys ∧ Below w.heap.size w wr) (fun _ _ i _ => P + 1 - (intOf i).toNat)
  case atStart => exact ⟨0, 0, Nat.zero_le _, rfl, by simp, rfl, by simp, HB.out⟩
  case round =>
    obtain ⟨k, R, hk, rfl, rfl, rfl, hr, hb⟩ := hrel
    have HB := Lib.hid hb
    have HR := Lib.hid hr
    have hbd := rk_lt ys
    have hfit := HD.out.fit
    rw [HD.out.len] at hbd
    have b0 : R ≤ 1000000000000000 := by omega
    clear hb hr hbd hfit
    by_cases hlt : k < P + 1
    · obtain ⟨y, hy⟩ : ∃ y, ys[k]? = some y := ⟨ys[k]'(by rw [HD.out.len]; exact hlt), List.getElem?_eq_getElem _⟩
      have y1 : wr.cell? ⟨g, o + k, none⟩ = some (.int .i64 (y : Int)) := by rw [HB.out.cell (p := ⟨g, o + k, none⟩) hg]; exact HX.out k _ (vals_at ys hy)
      obtain ⟨r1, r2⟩ := rk_step hy
      have s1 := sm_drop ys k
      have s96 := HD.out.s96
      have hlen := HD.out.len
      obtain ⟨Q, hQ⟩ : ∃ Q, P = k + Q := ⟨P - k, by omega⟩
      rw [hlen, show P + 1 - k = Q + 1 by omega] at r1
      generalize hl0 : sm (ys.drop k) = l0 at *
      generalize hl1 : sm (ys.drop (k + 1)) = l1 at *
      have f0 : cnt l0 (Q + 1) ≤ 1000000000000000 := Nat.le_trans (cnt_both s1 (by omega)) HD.out.fit
      have f1 : cnt l1 (Q + 1) ≤ cnt l0 (Q + 1) := cnt_le Q (by omega)
      obtain ⟨v0, c0⟩ := cn_fit (S := l0) (P := Q) (by omega) (by omega) f0
      obtain ⟨v1, c1⟩ := cn_fit (S := l1) (P := Q) (by omega) (by omega) (by omega)
      have HR2 := HR.out
      rw [r1] at HR2
      have hrb : R + (cnt l0 (Q + 1) - cnt l1 (Q + 1)) ≤ 1000000000000000 := by
        have := rk_lt ys
        rw [hlen] at this
        have := HD.out.fit
        omega
      have HC0 : Hid (∀ (u : World) (p l : Int), p = (Q : Int) + 1 → l = (l0 : Int) → Calls Try.prog 49 #[.int .i64 l, .int .i64 p] u fun e w' => e = .returned (.tuple #[.int .i64 (cnt l0 (Q + 1) : Int), .int .i64 0]) ∧ Below u.heap.size u w') := Lib.hid (by
        rintro u p l rfl rfl
        have := implCnt_any (l0 : Int) ((Q : Int) + 1) u
        unfold CnP at this
        rwa [v0, c0] at this)
      have HC1 : Hid (∀ (u : World) (p l : Int), p = (Q : Int) + 1 → l = (l1 : Int) → Calls Try.prog 49 #[.int .i64 l, .int .i64 p] u fun e w' => e = .returned (.tuple #[.int .i64 (cnt l1 (Q + 1) : Int), .int .i64 0]) ∧ Below u.heap.size u w') := Lib.hid (by
        rintro u p l rfl rfl
        have := implCnt_any (l1 : Int) ((Q : Int) + 1) u
        unfold CnP at this
        rwa [v1, c1] at this)
      have HL := Lib.hid (And.intro hl0 hl1)
      have H2 := Lib.hid r2
      have HR3 := Lib.hid HR2
      have q0 : (0 : Int) ≤ (k : Int) := by omega
      have q1 : (k : Int) < (P : Int) + 1 := by omega
      have hQ2 : (P : Int) + 1 - (k : Int) = (Q : Int) + 1 := by omega
      have hl2 : (l0 : Int) - (y : Int) = (l1 : Int) := by omega
      have hl96 : l0 ≤ 96 := by omega
      have hy96 : y ≤ 96 := by omega
      generalize cnt l0 (Q + 1) = n0 at *
      generalize cnt l1 (Q + 1) = n1 at *
      clear v0 c0 v1 c1 hy r1 HR2 hl0 hl1 s1 s96 hlen
      have HQ := Lib.hid hQ
      have hQ3 := Lib.hid hQ2
      clear hQ r2
      have hl3 := Lib.hid hl2
      clear hQ2 hl2
      go_wp2_with (first | (go_at_call 49; first | (with_reducible refine (HC0.out _ _ _ (by have := HQ.out; omega) rfl).mono ?_; rintro e w5 ⟨rfl, hb⟩; have HB := Lib.hid (HB.out.trans (hb.mono HB.out.size)); clear hb) | (with_reducible refine (HC1.out _ _ _ (by have := HQ.out; omega) (by have := H2.out; omega)).mono ?_; rintro e w5 ⟨rfl, hb⟩; have HB := Lib.hid (HB.out.trans (hb.mono HB.out.size)); clear hb)))
      go_roundw
      case rel => exact ⟨k + 1, R + (n0 - n1), by omega, by go_num, by rw [HL.out.2]; have := H2.out; go_num, by have := f1; go_num, by have := HR3.out; omega, HB.out⟩
      case measure => simp [intOf]; omega
    · obtain rfl : k = P + 1 := by omega
      have e : rk (ys.drop (P + 1)) = 0 := by rw [List.drop_of_length_le (by rw [HD.out.len]; exact Nat.le_refl _)]; rfl
      have er : R = rk ys := by have := HR.out; omega
      have HE := Lib.hid er
      clear e er
      go_wp2_with fail
      go_ret2
      exact ⟨by rw [HE.out]; rfl, HB.out⟩
set_option maxHeartbeats 1000000 in
theorem implRk_any (a : Option Addr) (c n : Nat) (xs : List Int) (w : World) (hn : xs.length = n) (h : RowN w a xs) :
    Calls Try.prog 52 #[.slice a n c] w (RkP xs w) := by
  rcases hk : okD xs with _ | _
  · have HV := Lib.hid (implVd_any a c n xs w hn h)
    rw [hk] at HV
    have H := Lib.hid (rk_no hk)
    have hl : n ≤ 1000000000000 := by rw [← hn]; exact h.1
    clear hk hn h
    go_enter Try.func52, Try.ntmps52
    go_wp2_with (go_at_call 81; refine HV.out.mono ?_; rintro e w1 ⟨rfl, hb⟩; have HB := Lib.hid hb; clear hb)
    go_ret2
    exact ⟨by rw [H.out.1, H.out.2]; rfl, HB.out⟩
  · obtain ⟨ys, P, rfl, hD⟩ := okD_parts hk
    obtain rfl : n = P + 1 := by rw [← hn, vals_len, hD.len]
    exact implRk_yes a c P ys w hD h
set_option maxHeartbeats 4000000 in
theorem specR_any (a : Option Addr) (c P : Nat) (ys : List Nat) (w : World) (hD : DisOk ys P) (h : RowN w a (vals ys)) :
    Calls Try.prog 86 #[.slice a (P + 1) c] w fun e w' => e = .returned (.int .i64 (rk ys : Int)) ∧ Below w.heap.size w w' := by
  have hn : (vals ys).length = P + 1 := by rw [vals_len, hD.len]
  have hs := l04Sum_any a c (P + 1) (vals ys) w hn h
  rw [sumC_yes (inB_of_pos (posB_vals ys) (by rw [vals_tot]; have := hD.s96; omega)) (by rw [vals_tot]; have := hD.s96; omega), vals_tot] at hs
  have HS := Lib.hid hs
  obtain ⟨g, o, rfl, hg, hx⟩ := h.2.resolve_left (by intro e; rw [e] at hn; cases hn)
  have HX := Lib.hid hx
  have HD := Lib.hid hD
  have hP := hD.p15
  clear hx h hn hD hs
  go_enter Try.func86, Try.ntmps86
  go_wp2_with (go_at_call 46; refine HS.out.mono ?_; rintro e w1 ⟨rfl, rfl⟩)
  go_loopw [3, 4, 5] (fun l r i wr => ∃ (k R : Nat), k ≤ P ∧ i = .int .i64 (k : Int) ∧ l = .int .i64 ((sm (ys.drop k) : Nat) : Int) ∧ r = .int .i64 (R : Int) ∧ R + rk (ys.drop k) = rk ys ∧ Below w.heap.size w wr) (fun _ _ i _ => P + 1 - (intOf i).toNat)
  case atStart => exact ⟨0, 0, Nat.zero_le _, rfl, by simp, rfl, by simp, Below.refl _ _⟩
  case round =>
    obtain ⟨k, R, hk, rfl, rfl, rfl, hr, hb⟩ := hrel
    have HB := Lib.hid hb
    have HR := Lib.hid hr
    have hbd := rk_lt ys
    have hfit := HD.out.fit
    rw [HD.out.len] at hbd
    have b0 : R ≤ 1000000000000000 := by omega
    clear hb hr hbd hfit
    by_cases hlt : k < P
    · obtain ⟨y, hy⟩ : ∃ y, ys[k]? = some y := ⟨ys[k]'(by rw [HD.out.len]; omega), List.getElem?_eq_getElem _⟩
      obtain ⟨r1, r2⟩ := rk_step hy
      have s1 := sm_drop ys k
      have s96 := HD.out.s96
      have hlen := HD.out.len
      obtain ⟨Q, hQ⟩ : ∃ Q, P = k + (Q + 1) := ⟨P - k - 1, by omega⟩
      rw [hlen, show P + 1 - k = Q + 1 + 1 by omega] at r1
      have HY : Hid (∀ u : World, Below w.heap.size w u → u.cell? ⟨g, o + k, none⟩ = some (.int .i64 (y : Int))) := Lib.hid (fun u hu => by rw [hu.cell (p := ⟨g, o + k, none⟩) hg]; exact HX.out k _ (vals_at ys hy))
      generalize hl0 : sm (ys.drop k) = l0 at *
      generalize hl1 : sm (ys.drop (k + 1)) = l1 at *
      have f0 : cnt l0 (Q + 1 + 1) ≤ 1000000000000000 := Nat.le_trans (cnt_both s1 (by omega)) HD.out.fit
      have hl96 : l0 ≤ 96 := by omega
      have hy96 : y ≤ 96 := by omega
      have hQ15 : Q ≤ 15 := by omega
      have q0 : (0 : Int) ≤ (k : Int) := by omega
      have q1 : (k : Int) + 1 < (P : Int) + 1 := by omega
      have q1b : (k : Int) < (P : Int) + 1 := by omega
      have HC : Hid (∀ (j : Nat) (u : World) (s p : Int), j ≤ l0 → s = (l0 : Int) - (j : Int) → p = (Q : Int) + 1 → Calls Try.prog 59 #[.int .i64 s, .int .i64 p] u fun e w' => e = .returned (.int .i64 (cnt (l0 - j) (Q + 1) : Int)) ∧ Below u.heap.size u w') := Lib.hid (by
        rintro j u s p hj rfl rfl
        have hc := specN_any (l0 - j) Q ((l0 : Int) - (j : Int)) ((Q : Int) + 1) u (by omega) rfl (by omega) (by omega)
        rwa [cap_lo (Nat.le_trans (Nat.le_trans (cnt_le Q (by omega : l0 - j ≤ l0)) (cnt_pit l0 (Q + 1))) f0)] at hc)
      have HL := Lib.hid (And.intro hl0 hl1)
      have H2 := Lib.hid r2
      have H1 := Lib.hid r1
      have HQ := Lib.hid hQ
      have HF := Lib.hid f0
      have yr := HY.out wr HB.out
      clear hy r1 r2 hl0 hl1 s1 s96 hlen hQ f0
      go_wp2_with fail
      go_loopw [4, 7] (fun r i wr => ∃ (j T : Nat), j ≤ y ∧ i = .int .i64 (j : Int) ∧ r = .int .i64 (T : Int) ∧ T = R + (cnt l0 (Q + 1 + 1) - cnt (l0 - j) (Q + 1 + 1)) ∧ Below w.heap.size w wr) (fun _ i _ => y + 1 - (intOf i).toNat)
      case atStart => exact ⟨0, R, Nat.zero_le _, rfl, rfl, by simp, HB.out⟩
      case round =>
        obtain ⟨j, T, hj, rfl, rfl, hT, hb⟩ := hrel
        have HB := Lib.hid hb
        have yr := HY.out wr hb
        have HT := Lib.hid hT
        have t0 : T ≤ 3000000000000000 := by have := HF.out; omega
        clear hb hT
        by_cases hjy : j < y
        · have q2 : (j : Int) < (y : Int) := by omega
          have hyl : y ≤ l0 := by have := H2.out; omega
          have hcs := cnt_succ (l0 - (j + 1)) (Q + 1)
          rw [show l0 - (j + 1) + 1 = l0 - j by omega] at hcs
          have hmn := cnt_le (Q + 1) (show l0 - j ≤ l0 by omega)
          have hn0 : cnt (l0 - j) (Q + 1) ≤ 1000000000000000 := by have := HF.out; omega
          have HCs := Lib.hid (And.intro hcs hmn)
          have HCj := Lib.hid (fun u s p => HC.out j u s p (by omega))
          generalize cnt (l0 - j) (Q + 1) = n0 at *
          clear hcs hmn hyl
          go_wp2_with (go_at_call 59; refine (HCj.out _ _ _ (by omega) (by have := HQ.out; omega)).mono ?_; rintro e w5 ⟨rfl, hb⟩; have HB := Lib.hid (HB.out.trans (hb.mono HB.out.size)); clear hb)
          go_roundw
          case rel => exact ⟨j + 1, T + n0, by omega, by go_num, by go_num, by have := HT.out; have := HCs.out; omega, HB.out⟩
          case measure => simp [intOf]; omega
        · obtain rfl : j = y := by omega
          have hyl : j ≤ l0 := by have := H2.out; omega
          have yr := HY.out wr HB.out
          go_wp2_with fail
          go_roundw
          case rel => exact ⟨k + 1, T, by omega, by go_num, by rw [HL.out.2]; have := H2.out; go_num, rfl, by
            have h1 := HT.out
            have h2 := H1.out
            have h3 := HR.out
            have h4 := H2.out
            rw [show l0 - j = l1 by omega] at h1
            omega, HB.out⟩
          case measure => simp [intOf]; omega
    · obtain rfl : k = P := by omega
      obtain ⟨y, hy⟩ : ∃ y, ys[k]? = some y := ⟨ys[k]'(by rw [HD.out.len]; omega), List.getElem?_eq_getElem _⟩
      have e : rk (ys.drop k) = 0 := by
        rw [drop_cons hy, List.drop_of_length_le (by rw [HD.out.len]; exact Nat.le_refl _)]
        show cnt (y + 0) 1 - cnt 0 1 + 0 = 0
        rw [cnt_one, cnt_one]
      have er : R = rk ys := by have := HR.out; omega
      have HE := Lib.hid er
      clear e er
      go_wp2_with fail
      go_ret
      exact ⟨by rw [HE.out]; rfl, HB.out⟩
end Go.Proofs.Ythbgfkklejnhiaa
