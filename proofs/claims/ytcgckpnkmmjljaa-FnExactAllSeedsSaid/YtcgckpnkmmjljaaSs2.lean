/- What the laws' own functions on rows of rows of numbers do. No conditions. -/
import Derived.Test.YtcgckpnkmmjljaaSs
import Derived.Deep.RegionHeld3
namespace Go.Proofs.Ytcgckpnkmmjljaa
open Go.Joins Go.ChangeShapes Go.WideShapes Go.ChangeAt Go.RowKit Go.Deep
set_option linter.unusedVariables false

set_option maxHeartbeats 4000000 in
theorem eqSS_same (B1 B2 p n : Nat) (v1 v2 : Value) (G1 C1 G2 C2 : Nat → Nat) (L : Nat → List Int) (w : World) (hn : n ≤ 3000) (hp : p ≤ 1000) (h1 : Gr w B1 v1 p n G1 C1 L) (h2 : Gr w B2 v2 p n G2 C2 L) :
    Calls Try.prog 36 #[v1, v2] w fun e w' => e = .returned (.bool true) ∧ Below w.heap.size w w' := by
  obtain ⟨a1, c1, rfl⟩ := h1.len
  obtain ⟨a2, c2, rfl⟩ := h2.len
  have H1 := Lib.hid h1
  have H2 := Lib.hid h2
  clear h1 h2
  go_enter Try.func36, Try.ntmps36
  go_wp2_with fail
  go_loopw [5] (fun i wr => ∃ k : Nat, k ≤ n ∧ i = .int .i64 k ∧ Below w.heap.size w wr) (fun i _ => n - (intOf i).toNat)
  case atStart => exact ⟨0, Nat.zero_le _, rfl, Below.refl _ _⟩
  case round =>
    obtain ⟨k, hk, rfl, hb⟩ := hrel
    have HB := Lib.hid hb
    clear hb
    by_cases hlt : k < n
    · obtain ⟨g1, d1, e1, -, hg1, -, hc1⟩ := H1.out.cells (by omega)
      obtain ⟨g2, d2, e2, -, hg2, -, hc2⟩ := H2.out.cells (by omega)
      cases e1
      cases e2
      have y1 := hc1 k hlt
      have y2 := hc2 k hlt
      have HY : Hid (∀ u, Below w.heap.size w u → u.cell? ⟨g1, k, none⟩ = some (.slice (some ⟨G1 k, 0, none⟩) p (C1 k)) ∧ u.cell? ⟨g2, k, none⟩ = some (.slice (some ⟨G2 k, 0, none⟩) p (C2 k)) ∧ Below w.heap.size w u) := Lib.hid (fun u hu => ⟨by rw [hu.cell (p := ⟨g1, k, none⟩) hg1]; exact y1, by rw [hu.cell (p := ⟨g2, k, none⟩) hg2]; exact y2, hu⟩)
      have HR : Hid (∀ u, Below w.heap.size w u → Calls Try.prog 29 #[.slice (some ⟨G1 k, 0, none⟩) p (C1 k), .slice (some ⟨G2 k, 0, none⟩) p (C2 k)] u fun e w' => e = .returned (.bool true) ∧ Below u.heap.size u w') := Lib.hid (fun u hu => eqN_same _ _ _ _ p (L k) u (H1.out.it k hlt).2.2 ((H1.out.it k hlt).1.row.below hu) ((H2.out.it k hlt).1.row.below hu))
      have q0 : (0 : Int) ≤ (k : Int) := by omega
      have q1 : (k : Int) < (n : Int) := by omega
      clear hc1 hc2 y1 y2
      go_wp2_with fail
      have HYw := Lib.hid (HY.out _ HB.out)
      have HYd := Lib.hid (HY.out _ HB.out.drew)
      go_region_held3 (fun u => u.cell? ⟨g1, k, none⟩ = some (.slice (some ⟨G1 k, 0, none⟩) p (C1 k)) ∧ u.cell? ⟨g2, k, none⟩ = some (.slice (some ⟨G2 k, 0, none⟩) p (C2 k)) ∧ Below w.heap.size w u) (first | exact HYw.out | exact HYd.out | with_reducible exact HY.out _ HB.out | with_reducible exact HY.out _ HB.out.drew)
        ((go_at_call 29; first | (with_reducible refine (HR.out _ HB.out).mono ?_; rintro e w5 ⟨rfl, hb⟩; have HB := Lib.hid (HB.out.trans (hb.mono HB.out.size)); clear hb) | (with_reducible refine (HR.out _ HB.out.drew).mono ?_; rintro e w5 ⟨rfl, hb⟩; have HB := Lib.hid (HB.out.drew.trans (hb.mono HB.out.drew.size)); clear hb)))
      go_wp2_with fail
      go_roundw
      case rel => exact ⟨k + 1, by omega, by go_num, by first | exact HB.out | exact HB.out.drew⟩
      case measure => simp [intOf]; omega
    · obtain rfl : k = n := by omega
      go_wp2_with fail
      go_ret
      exact ⟨rfl, HB.out⟩
set_option maxHeartbeats 4000000 in
theorem markSS_any (B p n k0 : Nat) (v : Value) (G C : Nat → Nat) (L : Nat → List Int) (w : World) (hn : n ≤ 3000) (hp : p ≤ 1000) (hk0 : k0 ≤ 1000) (h : Gr w B v p n G C L) (hB : B ≤ w.heap.size) :
    Calls Try.prog 37 #[v, .int .i64 k0] w fun e w' => e = .returned (.int .i64 ((k0 + n * p : Nat) : Int)) ∧ Below B w w' ∧ Gr w' B v p n G C (fun j => marksN (k0 + j * p) p) := by
  obtain ⟨a, c, rfl⟩ := h.len
  have H := Lib.hid h
  clear h
  go_enter Try.func37, Try.ntmps37
  go_wp2_with fail
  go_loopw [1, 5] (fun q i wr => ∃ k : Nat, k ≤ n ∧ i = .int .i64 k ∧ q = .int .i64 ((k0 + k * p : Nat) : Int) ∧ Below B w wr ∧ Gr wr B (.slice a n c) p n G C (fun j => if j < k then marksN (k0 + j * p) p else L j)) (fun _ i _ => n - (intOf i).toNat)
  case atStart => exact ⟨0, Nat.zero_le _, rfl, by simp, Below.refl _ _, by simpa using H.out⟩
  case round =>
    obtain ⟨k, hk, rfl, rfl, hb, hgr⟩ := hrel
    have HB := Lib.hid hb
    have HG := Lib.hid hgr
    clear hb hgr
    by_cases hlt : k < n
    · obtain ⟨g, d, e, -, hg, -, hc⟩ := HG.out.cells (by omega)
      cases e
      have y := hc k hlt
      obtain ⟨o, hl, hlen⟩ := HG.out.it k hlt
      rw [if_neg (by omega)] at o hlen
      have hkp : k0 + k * p ≤ 1000 + 3000 * 1000 := by
        have : k * p ≤ 3000 * 1000 := Nat.mul_le_mul (by omega) hp
        omega
      have HM := Lib.hid (marksN_any B (G k) (some ⟨G k, 0, none⟩) (C k) p (k0 + k * p) (L k) wr hlen o (by omega))
      have eM : (k0 + k * p + p : Nat) = k0 + (k + 1) * p := by rw [Nat.succ_mul]; omega
      have q0 : (0 : Int) ≤ (k : Int) := by omega
      have q1 : (k : Int) < (n : Int) := by omega
      have hBg := o.new
      obtain ⟨K, hK⟩ : ∃ K, K = k0 + k * p := ⟨_, rfl⟩
      rw [← hK] at HM ⊢ eM
      have HE := Lib.hid eM
      have HK := Lib.hid hK
      clear hc o hlen eM hK
      go_wp2_with fail
      refine HM.out.mono ?_
      rintro e w5 ⟨rfl, hbut, ho⟩
      have HB5 := Lib.hid (hbut.below HB.out hBg (Nat.le_trans hB HB.out.size))
      have HG5 := Lib.hid (HG.out.write hlt hbut ho (marksN_len _ _))
      clear hbut ho
      go_wp2_with fail
      go_roundw
      case rel =>
        refine ⟨k + 1, by omega, by go_num, by rw [← HE.out]; go_num, HB5.out, ?_⟩
        have e : (fun j => if j < k + 1 then marksN (k0 + j * p) p else L j) = (fun j => if j = k then marksN K p else if j < k then marksN (k0 + j * p) p else L j) := by
          funext j
          by_cases h1 : j = k
          · subst h1; rw [if_pos (by omega), if_pos rfl, HK.out]
          · by_cases h2 : j < k
            · rw [if_pos (by omega), if_neg h1, if_pos h2]
            · rw [if_neg (by omega), if_neg h1, if_neg h2]
        rw [e]
        exact HG5.out
      case measure => simp [intOf]; omega
    · obtain rfl : k = n := by omega
      go_wp2_with fail
      go_ret
      refine ⟨rfl, HB.out, ⟨HG.out.own, fun i hi => ?_, HG.out.ne, HG.out.pw⟩⟩
      have := HG.out.it i hi
      rwa [if_pos hi] at this
set_option maxHeartbeats 4000000 in
theorem heldSS_any (B p n k0 : Nat) (v : Value) (G C : Nat → Nat) (w : World) (hn : n ≤ 3000) (hp : p ≤ 1000) (hk0 : k0 ≤ 1000) (h : Gr w B v p n G C (fun j => marksN (k0 + j * p) p)) :
    Calls Try.prog 38 #[v, .int .i64 k0] w fun e w' => e = .returned (.int .i64 ((k0 + n * p : Nat) : Int)) ∧ Below w.heap.size w w' := by
  obtain ⟨a, c, rfl⟩ := h.len
  have H := Lib.hid h
  clear h
  go_enter Try.func38, Try.ntmps38
  go_wp2_with fail
  go_loopw [1, 5] (fun q i wr => ∃ k : Nat, k ≤ n ∧ i = .int .i64 k ∧ q = .int .i64 ((k0 + k * p : Nat) : Int) ∧ Below w.heap.size w wr) (fun _ i _ => n - (intOf i).toNat)
  case atStart => exact ⟨0, Nat.zero_le _, rfl, by simp, Below.refl _ _⟩
  case round =>
    obtain ⟨k, hk, rfl, rfl, hb⟩ := hrel
    have HB := Lib.hid hb
    clear hb
    by_cases hlt : k < n
    · obtain ⟨g, d, e, -, hg, -, hc⟩ := H.out.cells (by omega)
      cases e
      have y : wr.cell? ⟨g, k, none⟩ = some (.slice (some ⟨G k, 0, none⟩) p (C k)) := by rw [HB.out.cell (p := ⟨g, k, none⟩) hg]; exact hc k hlt
      obtain ⟨o, hl, hlen⟩ := H.out.it k hlt
      have hkp : k0 + k * p ≤ 1000 + 3000 * 1000 := by
        have : k * p ≤ 3000 * 1000 := Nat.mul_le_mul (by omega) hp
        omega
      have HM := Lib.hid (heldN_any (some ⟨G k, 0, none⟩) (C k) p (k0 + k * p) wr (o.row.below HB.out) (by omega))
      have eM : (k0 + k * p + p : Nat) = k0 + (k + 1) * p := by rw [Nat.succ_mul]; omega
      have q0 : (0 : Int) ≤ (k : Int) := by omega
      have q1 : (k : Int) < (n : Int) := by omega
      obtain ⟨K, hK⟩ : ∃ K, K = k0 + k * p := ⟨_, rfl⟩
      rw [← hK] at HM ⊢ eM
      have q2 : ¬ (((K + p : Nat) : Int) < 0) := by omega
      obtain ⟨K2, hK2⟩ : ∃ K2, K2 = K + p := ⟨_, rfl⟩
      rw [← hK2] at HM q2 eM
      have HE := Lib.hid eM
      clear hc o hlen eM hK hK2
      go_wp2_with fail
      refine HM.out.mono ?_
      rintro e w5 ⟨rfl, hb⟩
      have HB := Lib.hid (HB.out.trans (hb.mono HB.out.size))
      clear hb
      go_wp2_with fail
      go_roundw
      case rel => exact ⟨k + 1, by omega, by go_num, by rw [HE.out], HB.out⟩
      case measure => simp [intOf]; omega
    · obtain rfl : k = n := by omega
      go_wp2_with fail
      go_ret
      exact ⟨rfl, HB.out⟩
end Go.Proofs.Ytcgckpnkmmjljaa
