/- UnrankSeeds and NextSeeds of the program once more, with the room of what they return. No conditions. -/
import Derived.Test.YthbgfkklejnhiaaNx
namespace Go.Proofs.Ythbgfkklejnhiaa
open Go.Joins Go.ChangeShapes Go.WideShapes Go.ChangeAt Go.RowKit Go.Deep
set_option linter.unusedVariables false

def NxP (L : List Int) (n : Nat) (cd : Int) (w : World) (e : Ending) (w' : World) : Prop :=
  ∃ G C, e = .returned (.tuple #[.slice (some ⟨G, 0, none⟩) n C, .int .i64 cd]) ∧ OutN w' w.heap.size (some ⟨G, 0, none⟩) G L ∧ G < w'.heap.size ∧ n ≤ C ∧ Below w.heap.size w w'
set_option maxHeartbeats 4000000 in
set_option maxRecDepth 100000 in
theorem implUn_yes2 (S P R : Nat) (w : World) (hS : S ≤ 96) (hP : P ≤ 15) (hf : cnt S (P + 1) ≤ 1000000000000000) (hr : R < cnt S (P + 1)) :
    Calls Try.prog 55 #[.int .i64 S, .int .i64 ((P : Int) + 1), .int .i64 R] w (NxP (vals (unr P S R)) (P + 1) 0 w) := by
  have hmk := run_make_row' (P := Try.prog) 26 2 (.int .i64 0) 8 Try.underlying26 infoN rfl .i64 .i64 (P + 1) (by omega) (by omega)
  rw [show ((P + 1 : Nat) : Int) = (P : Int) + 1 by omega] at hmk
  have HC : Hid (∀ (s q : Nat) (u : World) (si pi : Int), s ≤ S → q + 1 ≤ P + 1 → si = (s : Int) → pi = (q : Int) + 1 → Calls Try.prog 49 #[.int .i64 si, .int .i64 pi] u fun e w' => e = .returned (.tuple #[.int .i64 (cnt s (q + 1) : Int), .int .i64 0]) ∧ Below u.heap.size u w') := Lib.hid (by
    rintro s q u si pi hs hq rfl rfl
    have hc := implCnt_any (s : Int) ((q : Int) + 1) u
    obtain ⟨v0, c0⟩ := cn_fit (S := s) (P := q) (by omega) (by omega) (Nat.le_trans (cnt_both hs hq) hf)
    unfold CnP at hc
    rwa [v0, c0] at hc)
  have HF := Lib.hid hf
  have HR := Lib.hid hr
  have HC0 := Lib.hid (fun (u : World) => HC.out S P u S ((P : Int) + 1) (Nat.le_refl _) (Nat.le_refl _) rfl rfl)
  have g1 : (R : Int) < (cnt S (P + 1) : Int) := by omega
  have g2 : ¬ ((R : Int) < 0) := by omega
  have hRM : R ≤ 1000000000000000 := by omega
  generalize hM : cnt S (P + 1) = M at HC0 g1
  clear hf hr hM
  go_enter Try.func55, Try.ntmps55
  go_wp2_with (go_at_call 49; refine (HC0.out _).mono ?_; rintro e w1 ⟨rfl, hb⟩; have HB := Lib.hid hb; clear hb)
  have hA := arr_made w1 (P + 1) 2
  have hB2 := HB.out.trans ((alo w1 (.cells (madeCells #[.int .i64 0] (P + 1)) 2)).mono HB.out.size)
  have hG : w.heap.size ≤ w1.heap.size := HB.out.size
  generalize w1.alloc (.cells (madeCells #[.int .i64 0] (P + 1)) 2) = w2 at *
  generalize w1.heap.size = G at *
  clear hmk HB g1
  have HA := Lib.hid hA
  have HB := Lib.hid hB2
  clear hA hB2
  go_loopw [0, 2, 36] (fun sv rv iv wr => ∃ (acc : List Nat) (q s r : Nat), iv = .int .i64 (acc.length : Int) ∧ sv = .int .i64 (s : Int) ∧ rv = .int .i64 (r : Int) ∧ Arr wr G (vals acc ++ List.replicate (q + 1) 0) ∧ acc ++ unr q s r = unr P S R ∧ r < cnt s (q + 1) ∧ s ≤ S ∧ acc.length + q = P ∧ Below w.heap.size w wr) (fun _ _ iv _ => P - (intOf iv).toNat)
  case atStart => exact ⟨[], P, S, R, rfl, rfl, rfl, HA.out, rfl, HR.out, Nat.le_refl _, by simp, HB.out⟩
  case round =>
    obtain ⟨acc, q, s, r, rfl, rfl, rfl, harr, hacc, hr, hs, hq, hb⟩ := hrel
    have HA := Lib.hid harr
    have HE := Lib.hid hacc
    have HB := Lib.hid hb
    have HR := Lib.hid hr
    have HQ := Lib.hid hq
    have hrM : r ≤ 1000000000000000 := by
      have h1 := cnt_both hs (show q + 1 ≤ P + 1 by omega)
      have h2 := HF.out
      omega
    have hsl : s ≤ 96 := by omega
    have hal : acc.length ≤ 15 := by omega
    clear harr hacc hb hr hq
    rcases q with _ | q
    · have q1 : ¬ ((acc.length : Int) < (P : Int)) := by have := HQ.out; omega
      have hPa : P = acc.length := by have := HQ.out; omega
      obtain ⟨hG1, hG2, hG3⟩ := HA.out
      have y0 := hG2 acc.length 0 (by simp [vals])
      have f0 := hG3 acc.length
      have HS := Lib.hid (HA.out.set acc.length (by simp [vals]) (s : Int))
      have ep : (P : Int) = (acc.length : Int) := by omega
      rw [ep]
      have HEp := Lib.hid hPa
      have qq0 : (0 : Int) ≤ (acc.length : Int) := by omega
      have qq1 : (acc.length : Int) < (P : Int) + 1 := by omega
      clear hG2 hG3 hPa ep HR
      go_wp2_with fail
      go_ret2
      have e := HE.out
      refine ⟨G, P + 1, rfl, ?_, by simpa using hG1, Nat.le_refl _, HB.out.setCell (p := ⟨G, acc.length, none⟩) hG _⟩
      have e2 : (vals acc ++ List.replicate (0 + 1) 0).set acc.length (s : Int) = vals (unr P S R) := by
        rw [← e]
        have := set_mid (vals acc) [] 0 (s : Int)
        rw [vals_len] at this
        show (vals acc ++ [0]).set acc.length (s : Int) = vals (acc ++ [s])
        rw [this]
        simp [vals]
      have hS2 := HS.out
      rw [e2] at hS2
      exact Arr.out (n := P + 1) hS2 (by rw [vals_len, ← e, List.length_append]; have := HEp.out; simp only [unr, List.length_cons, List.length_nil]; omega) (by omega) hG
    · have q1 : (acc.length : Int) < (P : Int) := by have := HQ.out; omega
      have HCq := Lib.hid (fun (s' : Nat) (u : World) (si pi : Int) (h : s' ≤ S) h1 h2 => HC.out s' q u si pi h (by have := HQ.out; omega) h1 h2)
      have HP2 : Hid ((P : Int) - (acc.length : Int) = (q : Int) + 1) := Lib.hid (by have := HQ.out; omega)
      have qq0 : (0 : Int) ≤ (acc.length : Int) := by omega
      have qq1 : (acc.length : Int) < (P : Int) + 1 := by omega
      go_wp2_with (go_at_call 49; with_reducible refine (HCq.out s _ _ _ (by omega) rfl (by have := HP2.out; omega)).mono ?_; rintro e w5 ⟨rfl, hb⟩; have HA := Lib.hid (HA.out.below hb); have HB := Lib.hid (HB.out.trans (hb.mono HB.out.size)); clear hb)
      have HR0 := Lib.hid (show uk (q + 1) s r = (0 + (uk (q + 1) (s - 0) r).1, (uk (q + 1) (s - 0) r).2) by simp)
      go_loopw [0, 2, 13] (fun sv rv mv wr => ∃ (j rj : Nat), j ≤ s ∧ sv = .int .i64 ((s - j : Nat) : Int) ∧ rv = .int .i64 (rj : Int) ∧ mv = .int .i64 ((cnt (s - j) (q + 1) : Nat) : Int) ∧ rj ≤ r ∧ rj < cnt (s - j) (q + 1 + 1) ∧ uk (q + 1) s r = (j + (uk (q + 1) (s - j) rj).1, (uk (q + 1) (s - j) rj).2) ∧ Arr wr G (vals acc ++ (j : Int) :: List.replicate (q + 1) 0) ∧ Below w.heap.size w wr) (fun sv _ _ _ => (intOf sv).toNat)
      case atStart => exact ⟨0, r, Nat.zero_le _, rfl, rfl, rfl, Nat.le_refl _, HR.out, HR0.out, HA.out, HB.out⟩
      case round =>
        obtain ⟨j, rj, hj, rfl, rfl, rfl, hrj, hfit, huk, harr, hb⟩ := hrel
        have HA := Lib.hid harr
        have HB := Lib.hid hb
        have HU := Lib.hid huk
        have HFi := Lib.hid hfit
        obtain ⟨m, hm⟩ : ∃ m, m = cnt (s - j) (q + 1) := ⟨_, rfl⟩
        obtain ⟨t, ht⟩ : ∃ t, t = s - j := ⟨_, rfl⟩
        have hmM : m ≤ 1000000000000000 := by
          have h1 := cnt_both (show s - j ≤ S by omega) (show q + 1 ≤ P + 1 by have := HQ.out; omega)
          have h2 := HF.out
          omega
        have HM := Lib.hid hm
        have HT := Lib.hid ht
        rw [← hm, ← ht]
        have ht96 : t ≤ 96 := by omega
        obtain ⟨hG1, hG2, hG3⟩ := harr
        have y0 := hG2 acc.length j (by rw [List.getElem?_append_right (by rw [vals_len]; exact Nat.le_refl _), vals_len]; simp)
        have f0 := hG3 acc.length
        have HST := Lib.hid (HA.out.set acc.length (by simp [vals]) ((j : Int) + 1))
        clear hb huk hfit hm ht hG2 hG3
        by_cases hge : m ≤ rj
        · have hjs : j < s := by
            rcases Nat.lt_or_ge j s with h | h
            · exact h
            · exfalso
              have h1 := HFi.out
              have h2 := HM.out
              rw [show s - j = 0 by omega, cnt_zero] at h1 h2
              omega
          have q2 : (m : Int) ≤ (rj : Int) := by omega
          have ht1 : 1 ≤ t := by have := HT.out; omega
          have HCj := Lib.hid (fun (u : World) (si pi : Int) h1 h2 => HCq.out (s - (j + 1)) u si pi (by omega) h1 h2)
          go_wp2_with (go_at_call 49; with_reducible refine (HCj.out _ _ _ (by have := HT.out; omega) (by have := HP2.out; omega)).mono ?_; rintro e w5 ⟨rfl, hb⟩; have HB5 := Lib.hid hb; clear hb)
          go_roundw
          case rel =>
            refine ⟨j + 1, rj - m, by omega, by have := HT.out; go_num, by go_num, rfl, by omega, ?_, by rw [HM.out]; exact uk_next (r0 := 0) HU.out hjs (by rw [← HM.out]; exact hge), ?_, ?_⟩
            · have h1 := HFi.out
              have h2 := cnt_succ (s - (j + 1)) (q + 1)
              rw [show s - (j + 1) + 1 = s - j by omega, ← HM.out] at h2
              omega
            · have hA2 := HST.out
              have e := set_mid (vals acc) (List.replicate (q + 1) 0) (j : Int) ((j : Int) + 1)
              rw [vals_len] at e
              rw [e] at hA2
              exact hA2.below HB5.out
            · exact (HB.out.setCell (p := ⟨G, acc.length, none⟩) hG _).trans (HB5.out.mono (by have := HB.out.size; simpa using this))
          case measure => simp [intOf]; omega
        · have q2 : ¬ ((m : Int) ≤ (rj : Int)) := by omega
          have hst := uk_stop (p := q + 1) (s := s - j) (r := rj) (by rw [← HM.out]; omega)
          have hz := HU.out
          rw [hst] at hz
          have HZ := Lib.hid hz
          have HJ := Lib.hid hj
          clear hst hz
          go_wp2_with fail
          go_roundw
          case rel =>
            have hz := HZ.out
            refine ⟨.int .i64 (t : Int), .int .i64 (rj : Int), _, _, _, .int .i64 ((acc.length : Int) + 1), ⟨acc ++ [j], by rw [List.length_append]; go_num, q, t, rfl, rj, rfl, ?_, ?_, ?_, by have := HT.out; omega, by have := HQ.out; rw [List.length_append]; simp only [List.length_cons, List.length_nil]; omega, HB.out⟩, rfl, rfl, rfl, rfl, rfl, rfl⟩
            · have e2 : vals (acc ++ [j]) ++ List.replicate (q + 1) 0 = vals acc ++ (j : Int) :: List.replicate (q + 1) 0 := by simp [vals]
              rw [e2]
              exact HA.out
            · have e := HE.out
              rw [← e, HT.out]
              show acc ++ [j] ++ unr q (s - j) rj = acc ++ ((uk (q + 1) s r).1 :: unr q (s - (uk (q + 1) s r).1) (uk (q + 1) s r).2)
              rw [hz]
              simp
            · rw [HT.out, ← HM.out]; omega
          case measure => have := HQ.out; simp [intOf]; omega
end Go.Proofs.Ythbgfkklejnhiaa
