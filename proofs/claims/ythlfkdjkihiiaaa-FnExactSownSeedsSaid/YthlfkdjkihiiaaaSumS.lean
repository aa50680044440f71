/- The sum of all numbers of sown seeds, whatever they are: the reference's and the program's. No conditions. -/
import Derived.Test.YthlfkdjkihiiaaaBoxS
import Derived.Test.YthlfkdjkihiiaaaTot
import Derived.Deep.RegionHeld3
namespace Go.Proofs.Ythlfkdjkihiiaaa
open Go.Joins Go.ChangeShapes Go.WideShapes Go.ChangeAt Go.RowKit Go.Deep
set_option linter.unusedVariables false

theorem wrap_l (a b : Int) : wrap64 (wrap64 a + b) = wrap64 (a + b) := by unfold wrap64; omega
theorem wrap_2 (a b : Int) : wrap64 (wrap64 a + wrap64 b) = wrap64 (a + b) := by unfold wrap64; omega
/-- The cell of a row's number. -/
theorem cellS_of {w : World} {a : Option Addr} {xs : List Int} {k : Nat} {x : Int} (h : RowN w a xs) (hx : xs[k]? = some x) : ∃ g o, a = some ⟨g, o, none⟩ ∧ w.cell? ⟨g, o + k, none⟩ = some (.int .i64 x) := by
  have hne : xs ≠ [] := by intro e; subst e; cases hx
  obtain ⟨g, o, rfl, _, hc⟩ := h.2.resolve_left hne
  exact ⟨g, o, rfl, hc k x hx⟩
set_option maxHeartbeats 1000000 in
theorem sumW_any (a : Option Addr) (c n : Nat) (xs : List Int) (w : World) (hn : xs.length = n) (h : RowN w a xs) :
    Calls Try.prog 54 #[.slice a n c] w fun e w' => e = .returned (.int .i64 (wrap64 (tot xs))) ∧ w = w' := by
  have hl : n ≤ 1000000000000 := by rw [← hn]; exact h.1
  have Hn := Lib.hid hn
  have H := Lib.hid h
  clear hn h
  go_enter Try.func54, Try.ntmps54
  go_wp2
  go_loop [3, 8] (fun s i => ∃ (k : Nat) (t : Int), k ≤ n ∧ i = .int .i64 k ∧ s = .int .i64 t ∧ t = wrap64 (tot (xs.take k))) (fun _ i => n - (intOf i).toNat)
  case atStart => exact ⟨0, 0, Nat.zero_le _, rfl, rfl, by simp [tot, wrap64]⟩
  case round =>
    obtain ⟨k, t, hk, rfl, rfl, ht⟩ := hrel
    have Ht := Lib.hid ht
    clear ht
    by_cases hlt : k < n
    · obtain ⟨x, hx⟩ : ∃ x, xs[k]? = some x := ⟨xs[k]'(by rw [Hn.out]; exact hlt), List.getElem?_eq_getElem _⟩
      obtain ⟨g, o, rfl, y1⟩ := cellS_of H.out hx
      have Hx := Lib.hid hx
      have q0 : (0 : Int) ≤ (k : Int) := by omega
      have q1 : (k : Int) < (n : Int) := by omega
      clear hx
      go_wp2
      go_round
      case rel => exact ⟨k + 1, _, by omega, by go_num, rfl, by rw [take_next Hx.out, tot_snoc, Ht.out]; exact wrap_l _ _⟩
      case measure => simp [intOf]; omega
    · obtain rfl : k = n := by omega
      have e2 : t = wrap64 (tot xs) := by rw [Ht.out, List.take_of_length_le (by rw [Hn.out]; exact Nat.le_refl _)]
      have E2 := Lib.hid e2
      clear e2
      go_wp2
      go_ret
      exact ⟨by rw [E2.out]; rfl, rfl⟩
set_option maxHeartbeats 1000000 in
theorem implSum_any (p1 p2 : Option Addr) (pn1 pc1 pn2 pc2 : Nat) (pp pq : Int) (xs ys : List Int) (w : World) (h : PosR w p1 p2 pn1 pn2 xs ys) :
    Calls Try.prog 19 #[.agg #[.slice p1 pn1 pc1, .slice p2 pn2 pc2, .int .i64 pp, .int .i64 pq]] w fun e w' => e = .returned (.int .i64 (wrap64 (tot xs + tot ys))) ∧ Below w.heap.size w w' := by
  have H := Lib.hid h
  have HB := Lib.hid ((Below.refl w.heap.size w).alloc (Nat.le_refl _) (.cells #[.slice p1 pn1 pc1, .slice p2 pn2 pc2, .int .i64 pp, .int .i64 pq] 33))
  have C1 := Lib.hid (fun u (hu : Below w.heap.size w u) => sumW_any p1 pc1 pn1 xs u h.l1 (h.below hu).r1)
  have C2 := Lib.hid (fun u (hu : Below w.heap.size w u) => sumW_any p2 pc2 pn2 ys u h.l2 (h.below hu).r2)
  have E := Lib.hid (wrap_2 (tot xs) (tot ys))
  clear h
  generalize wrap64 (tot xs) = t1 at *
  generalize wrap64 (tot ys) = t2 at *
  generalize wrap64 (tot xs + tot ys) = t3 at *
  go_enter Try.func19, Try.ntmps19
  go_wp2_with fail
  go_quiet ((first | (go_at_call 54; with_reducible exact quiet_w (C1.out _ (below_dn HB.out _)) ⟨_, rfl⟩) | (go_at_call 54; with_reducible exact quiet_w (C2.out _ (below_dn HB.out _)) ⟨_, rfl⟩)))
  go_wp2_with fail
  go_ret
  exact ⟨by rw [← E.out]; rfl, below_dn HB.out _⟩
set_option maxHeartbeats 2000000 in
theorem specSum_any (p1 p2 : Option Addr) (pn1 pc1 pn2 pc2 : Nat) (pp pq : Int) (xs ys : List Int) (w : World) (h : PosR w p1 p2 pn1 pn2 xs ys) :
    Calls Try.prog 45 #[.agg #[.slice p1 pn1 pc1, .slice p2 pn2 pc2, .int .i64 pp, .int .i64 pq]] w fun e w' => e = .returned (.int .i64 (wrap64 (tot xs + tot ys))) ∧ Below w.heap.size w w' := by
  have hl : pn1 ≤ 1000000000000 := by rw [← h.l1]; exact h.r1.1
  have hl2 : pn2 ≤ 1000000000000 := by rw [← h.l2]; exact h.r2.1
  have HB := Lib.hid ((Below.refl w.heap.size w).alloc (Nat.le_refl _) (.cells #[.slice p1 pn1 pc1, .slice p2 pn2 pc2, .int .i64 pp, .int .i64 pq] 33))
  have H := Lib.hid (h.below ((Below.refl _ w).alloc (Nat.le_refl _) (.cells #[.slice p1 pn1 pc1, .slice p2 pn2 pc2, .int .i64 pp, .int .i64 pq] 33)))
  obtain ⟨_, k0, k1, k2, k3⟩ := so_new p1 p2 pn1 pc1 pn2 pc2 pp pq w 33
  clear h
  go_enter Try.func45, Try.ntmps45
  go_wp2
  generalize w.alloc (.cells #[.slice p1 pn1 pc1, .slice p2 pn2 pc2, .int .i64 pp, .int .i64 pq] 33) = w1 at *
  go_loop [3, 4] (fun s i => ∃ (k : Nat) (t : Int), k ≤ pn1 ∧ i = .int .i64 k ∧ s = .int .i64 t ∧ t = wrap64 (tot (xs.take k))) (fun _ i => pn1 - (intOf i).toNat)
  case atStart => exact ⟨0, 0, Nat.zero_le _, rfl, rfl, by simp [tot, wrap64]⟩
  case round =>
    obtain ⟨k, t, hk, rfl, rfl, ht⟩ := hrel
    have Ht := Lib.hid ht
    clear ht
    by_cases hlt : k < pn1
    · obtain ⟨x, hx⟩ : ∃ x, xs[k]? = some x := ⟨xs[k]'(by rw [H.out.l1]; exact hlt), List.getElem?_eq_getElem _⟩
      obtain ⟨g, o, rfl, y1⟩ := cellS_of H.out.r1 hx
      have Hx := Lib.hid hx
      have q0 : (0 : Int) ≤ (k : Int) := by omega
      have q1 : (k : Int) < (pn1 : Int) := by omega
      clear hx
      go_wp2
      go_round
      case rel => exact ⟨k + 1, _, by omega, by go_num, rfl, by rw [take_next Hx.out, tot_snoc, Ht.out]; exact wrap_l _ _⟩
      case measure => simp [intOf]; omega
    · obtain rfl : k = pn1 := by omega
      have e2 : t = wrap64 (tot xs) := by rw [Ht.out, List.take_of_length_le (by rw [H.out.l1]; exact Nat.le_refl _)]
      have E2 := Lib.hid e2
      clear e2
      go_wp2
      go_loop [3, 5] (fun s i => ∃ (m : Nat) (t : Int), m ≤ pn2 ∧ i = .int .i64 m ∧ s = .int .i64 t ∧ t = wrap64 (tot xs + tot (ys.take m))) (fun _ i => pn2 - (intOf i).toNat)
      case atStart => exact ⟨0, t, Nat.zero_le _, rfl, rfl, by rw [E2.out]; simp [tot]⟩
      case round =>
        obtain ⟨m, t2, hm, rfl, rfl, ht⟩ := hrel
        have Ht2 := Lib.hid ht
        clear ht
        by_cases hlt2 : m < pn2
        · obtain ⟨x, hx⟩ : ∃ x, ys[m]? = some x := ⟨ys[m]'(by rw [H.out.l2]; exact hlt2), List.getElem?_eq_getElem _⟩
          obtain ⟨g, o, rfl, y1⟩ := cellS_of H.out.r2 hx
          have Hx := Lib.hid hx
          have q0 : (0 : Int) ≤ (m : Int) := by omega
          have q1 : (m : Int) < (pn2 : Int) := by omega
          clear hx
          go_wp2
          go_round
          case rel => exact ⟨m + 1, _, by omega, by go_num, rfl, by rw [take_next Hx.out, tot_snoc, Ht2.out, ← Int.add_assoc]; exact wrap_l _ _⟩
          case measure => simp [intOf]; omega
        · obtain rfl : m = pn2 := by omega
          have e3 : t2 = wrap64 (tot xs + tot ys) := by rw [Ht2.out, List.take_of_length_le (l := ys) (by rw [H.out.l2]; exact Nat.le_refl _)]
          have E3 := Lib.hid e3
          clear e3
          go_wp2
          go_ret
          exact ⟨by rw [E3.out]; rfl, HB.out⟩
end Go.Proofs.Ythlfkdjkihiiaaa
