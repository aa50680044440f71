/- FnStandard: the games that are given have valid rules and are found by their rules: for every input. No conditions. -/
import Derived.Test.YtkpmocjghpeppaaStart5
import Derived.Test.YtkpmocjghpeppaaDraw
import Derived.Test.YtkpmocjghpeppaaStdN
import Derived.Test.YtkpmocjghpeppaaWhole4
import Derived.Test.YtkpmocjghpeppaaSum4
import Derived.Test.YtkpmocjghpeppaaLong
namespace Go.Proofs.Ytkpmocjghpeppaa
open Go.Joins Go.ChangeShapes Go.WideShapes Go.ChangeAt Go.RowKit Go.Deep
open Go.ChangeMaps (open_string shut_string)
set_option linter.unusedVariables false

theorem std_full {t : ByteArray} (h : t ∈ names4) : ∃ (P : Nat) (s c l : Int) (st sk re fe ag : Bool) (k m o r : Bool), stdR t = (.agg #[.int .i64 P, .int .i64 s, .bool st, .bool sk, .bool re, .bool fe, .bool ag, .int .i64 c, .int .i64 l], 0) ∧ okR (P : Int) s c l st ag = true ∧
    eqB 6 4 2 0 true false false false true (P : Int) s c l st sk re fe ag = k ∧ eqB 3 2 1 0 false false false true false (P : Int) s c l st sk re fe ag = m ∧ eqB 6 4 1 2 false true false true false (P : Int) s c l st sk re fe ag = o ∧ eqB 4 2 2 0 false false true false false (P : Int) s c l st sk re fe ag = r ∧ nameR k m o r = (t, 0) := by
  simp only [names4, List.mem_cons, List.not_mem_nil, or_false] at h
  rcases h with rfl | rfl | rfl | rfl
  · exact ⟨6, 4, 2, 0, true, false, false, false, true, true, false, false, false, by simp [stdR, rKalah, ByteArray.toList_mk], by decide, by decide, by decide, by decide, by decide, by simp [nameR]⟩
  · exact ⟨3, 2, 1, 0, false, false, false, true, false, false, true, false, false, by simp [stdR, rMini, ByteArray.toList_mk], by decide, by decide, by decide, by decide, by decide, by simp [nameR]⟩
  · exact ⟨6, 4, 1, 2, false, true, false, true, false, false, false, true, false, by simp [stdR, rOware, ByteArray.toList_mk], by decide, by decide, by decide, by decide, by decide, by simp [nameR]⟩
  · exact ⟨4, 2, 2, 0, false, false, true, false, false, false, false, false, true, by simp [stdR, rRelay, ByteArray.toList_mk], by decide, by decide, by decide, by decide, by decide, by simp [nameR]⟩
theorem tot_rep (n : Nat) (x : Int) : tot (List.replicate n x) = n * x ∧ (0 ≤ x → posB (List.replicate n x) = true) := by
  induction n with
  | zero => exact ⟨by simp [tot], fun _ => rfl⟩
  | succ n ih =>
    refine ⟨?_, fun h => ?_⟩
    · rw [List.replicate_succ, tot, ih.1, Int.natCast_add, Int.add_mul]
      simp only [Int.natCast_one, Int.one_mul]
      omega
    · have := ih.2 h
      unfold posB at this ⊢
      rw [List.replicate_succ, List.all_cons, this]
      simp [h]
theorem start_ok {P : Nat} {s : Int} {k : Bool} (hk : k = true) (hP : P ≤ 8) (h0 : 0 ≤ s) (h6 : s ≤ 6) : okP k (P : Int) (2 * P) 2 0 (List.replicate (2 * P) s) [0, 0] = true ∧ tot (List.replicate (2 * P) s) + tot [0, 0] = 2 * P * s ∧ tot (List.replicate (2 * P) s) ≤ 96 ∧ posB (List.replicate (2 * P) s) = true := by
  obtain ⟨a1, a2⟩ := tot_rep (2 * P) s
  have b2 : tot [0, 0] = 0 := by simp [tot]
  have e : ((2 * P : Nat) : Int) = 2 * (P : Int) := by omega
  rw [e] at a1
  have h1 : 2 * (P : Int) * s ≤ 2 * (P : Int) * 6 := Int.mul_le_mul_of_nonneg_left h6 (by omega)
  have c1 : tot (List.replicate (2 * P) s) ≤ 96 := by rw [a1]; omega
  have c : tot (List.replicate (2 * P) s) + tot [0, 0] ≤ 96 := by rw [b2]; omega
  have b1 : posB [0, 0] = true := rfl
  refine ⟨?_, by rw [a1, b2]; omega, c1, a2 h0⟩
  unfold okP seedB
  simp [hk, a2 h0, b1, c, e]

def AtP (n : Int) (w : World) (e : Ending) (w' : World) : Prop := ∃ v, (0 ≤ v ∧ v < n) ∧ e = .returned (.int .i64 v) ∧ Below w.heap.size w w'
theorem at_any (a : Option Addr) (len cap : Nat) (n : Int) (w : World) (hB : Bytes w a len) (hn : 1 ≤ n) (hn2 : n ≤ 1000000) :
    Calls Try.prog 16 #[.slice a len cap, .int .i64 0, .int .i64 n] w (AtP n w) := by
  obtain ⟨hl, h⟩ := hB
  by_cases h0 : len = 0
  · subst h0
    clear h
    go_enter Try.func16, Try.ntmps16
    go_wp2
    go_ret
    exact ⟨0, ⟨by omega, by omega⟩, rfl, Below.refl _ _⟩
  · rcases h with h | ⟨c, off, rfl, hc, hx⟩
    · exact absurd h h0
    · obtain ⟨x, hx, x0, x1⟩ := hx 0 (by omega)
      simp only [Nat.add_zero] at hx
      have g0 : (0 : Int) < (len : Int) := by omega
      go_enter Try.func16, Try.ntmps16
      go_wp2
      go_ret
      exact ⟨x % n, ⟨Int.emod_nonneg _ (by omega), Int.emod_lt_of_pos _ (by omega)⟩, rfl, Below.refl _ _⟩
theorem valid_spec (p s c l : Int) (st sk re fe ag : Bool) (w : World) :
    Calls Try.prog 27 #[.agg #[.int .i64 p, .int .i64 s, .bool st, .bool sk, .bool re, .bool fe, .bool ag, .int .i64 c, .int .i64 l]] w fun e w' => e = .returned (.bool (okR p s c l st ag)) ∧ Below w.heap.size w w' := by
  go_enter Try.func27, Try.ntmps27
  go_wp2_with (go_at_call 59; refine (l02Ok_any p s c l st sk re fe ag _ _ (by go_simp) (by go_simp) (by go_simp) (by go_simp) (by go_simp) (by go_simp) (by go_simp) (by go_simp) (by go_simp)).mono ?_; rintro e w' ⟨rfl, rfl⟩)
  go_ret
  exact ⟨rfl, (by repeat (first | exact Below.refl _ _ | assumption | (refine Below.drew ?_) | (refine Below.setCell ?_ (by first | omega | (simp; done) | (simp; omega)) _) | (refine Below.alloc ?_ (by first | omega | (simp; done) | (simp; omega)) _) | (refine Below.trans ?_ (Below.mono (by assumption) (by first | omega | (simp; done) | (simp; omega))))))⟩
def NamesQ (w : World) (e : Ending) (w' : World) : Prop :=
  e = .returned (.slice (some ⟨w.heap.size, 0, none⟩) 4 4) ∧ Below w.heap.size w w' ∧ w.heap.size < w'.heap.size ∧ ∀ i t, names4[i]? = some t → w'.cell? ⟨w.heap.size, i, none⟩ = some (.string t)
theorem names_q (w : World) : Calls Try.prog 22 #[] w (NamesQ w) := by
  go_enter Try.func22, Try.ntmps22
  go_wp2
  go_ret
  refine ⟨rfl, (Below.refl _ _).alloc (Nat.le_refl _) _, by simp, ?_⟩
  intro i t ht
  have hi : i < 4 := (List.getElem?_eq_some_iff.1 ht).1
  match i, hi with
  | 0, _ => cases ht; go_simp
  | 1, _ => cases ht; go_simp
  | 2, _ => cases ht; go_simp
  | 3, _ => cases ht; go_simp
set_option maxHeartbeats 1000000 in
theorem a2sum_any (a : Option Addr) (c n : Nat) (xs : List Int) (w : World) (hn : xs.length = n) (h : RowN w a xs) (hp : posB xs = true) (ht : tot xs ≤ 96) :
    Calls Try.prog 60 #[.slice a n c] w fun e w' => e = .returned (.int .i64 (tot xs)) ∧ w = w' := by
  have hl : n ≤ 1000000000000 := by rw [← hn]; exact h.1
  have Hn := Lib.hid hn
  have H := Lib.hid h
  have HP := Lib.hid hp
  have HT := Lib.hid ht
  clear hn h hp ht
  go_enter Try.func60, Try.ntmps60
  go_wp2
  go_loop [3, 4] (fun s i => ∃ (k : Nat) (t : Int), k ≤ n ∧ i = .int .i64 k ∧ s = .int .i64 t ∧ t = tot (xs.take k)) (fun _ i => n - (intOf i).toNat)
  case atStart => exact ⟨0, 0, Nat.zero_le _, rfl, rfl, rfl⟩
  case round =>
    obtain ⟨k, t, hk, rfl, rfl, ht⟩ := hrel
    have hb := tot_take_le HP.out k
    rw [← ht] at hb
    obtain ⟨b0, b1⟩ := hb
    have b2 := HT.out
    have b3 : t ≤ 96 := by omega
    have Ht := Lib.hid ht
    clear ht b1 b2
    by_cases hlt : k < n
    · obtain ⟨x, hx⟩ : ∃ x, xs[k]? = some x := ⟨xs[k]'(by rw [Hn.out]; exact hlt), List.getElem?_eq_getElem _⟩
      have hne : xs ≠ [] := by intro h; subst h; cases hx
      obtain ⟨g, o, rfl, l1, x1⟩ := H.out.2.resolve_left hne
      have y1 := x1 k x hx
      have x0 := posB_mem HP.out hx
      have x96 : x ≤ 96 := by
        have := posB_le HP.out x (List.mem_of_getElem? hx)
        have := HT.out
        omega
      have Hx := Lib.hid hx
      have q0 : (0 : Int) ≤ (k : Int) := by omega
      have q1 : (k : Int) < (n : Int) := by omega
      clear x1 hx hne
      go_wp2
      go_round
      case rel => exact ⟨k + 1, t + x, by omega, by go_num, by go_num, by rw [take_next Hx.out, tot_snoc, Ht.out]⟩
      case measure => simp [intOf]; omega
    · obtain rfl : k = n := by omega
      have e1 : xs.take k = xs := List.take_of_length_le (by rw [Hn.out]; exact Nat.le_refl _)
      have e2 : t = tot xs := by rw [Ht.out, e1]
      have E2 := Lib.hid e2
      clear e1 e2
      go_wp2
      go_ret
      exact ⟨by rw [E2.out]; rfl, rfl⟩
set_option maxHeartbeats 2000000 in
theorem a2all_any (p1 p2 : Option Addr) (pn1 pc1 pn2 pc2 : Nat) (pp : Int) (xs ys : List Int) (w : World) (h : PosR w p1 p2 pn1 pn2 xs ys) (h1 : posB xs = true) (h2 : posB ys = true) (t1 : tot xs ≤ 96) (t2 : tot ys ≤ 96) :
    Calls Try.prog 28 #[.agg #[.slice p1 pn1 pc1, .slice p2 pn2 pc2, .int .i64 pp]] w fun e w' => e = .returned (.int .i64 (tot xs + tot ys)) ∧ Below w.heap.size w w' := by
  have H := Lib.hid h
  have p1' := posB_tot h1
  have p2' := posB_tot h2
  have H1 := Lib.hid h1
  have H2 := Lib.hid h2
  have HP := Lib.hid (po_new p1 p2 pn1 pc1 pn2 pc2 pp w 39)
  have HB := Lib.hid (show OnW w _ from al1 w (.cells #[.slice p1 pn1 pc1, .slice p2 pn2 pc2, .int .i64 pp] 39))
  have hw1 : IntKind.i64.wrap (tot xs + tot ys) = tot xs + tot ys := IntWalk.i64_in _ ⟨by omega, by omega⟩
  clear h h1 h2
  go_enter Try.func28, Try.ntmps28
  go_wp2_with fail
  have HT : Hid (∀ u : World, PoAt u w.heap.size p1 p2 pn1 pc1 pn2 pc2 pp → OnW w u → (w.heap.size < u.heap.size ∧ u.cell? ⟨w.heap.size, 0, none⟩ = some (.slice p1 pn1 pc1) ∧ u.cell? ⟨w.heap.size, 1, none⟩ = some (.slice p2 pn2 pc2) ∧ u.cell? ⟨w.heap.size, 2, none⟩ = some (.int .i64 pp)) ∧ OnW w u) := Lib.hid (fun u h k => ⟨h, k⟩)
  go_region_held3 (fun u => (w.heap.size < u.heap.size ∧ u.cell? ⟨w.heap.size, 0, none⟩ = some (.slice p1 pn1 pc1) ∧ u.cell? ⟨w.heap.size, 1, none⟩ = some (.slice p2 pn2 pc2) ∧ u.cell? ⟨w.heap.size, 2, none⟩ = some (.int .i64 pp)) ∧ OnW w u) (first | (with_reducible exact HT.out _ HP.out HB.out) | (with_reducible exact HT.out _ HP.out.drew HB.out.drew))
    (first
    | (go_at_call 60; (with_reducible refine (a2sum_any p1 pc1 pn1 xs _ H.out.l1 ?_ H1.out t1).mono ?_); (first | exact H.out.r1.below HB.out | exact H.out.r1.below HB.out.drew); rintro e w5 ⟨rfl, rfl⟩)
    | (go_at_call 60; (with_reducible refine (a2sum_any p2 pc2 pn2 ys _ H.out.l2 ?_ H2.out t2).mono ?_); (first | exact H.out.r2.below HB.out | exact H.out.r2.below HB.out.drew); rintro e w5 ⟨rfl, rfl⟩))
  go_wp2_with fail
  go_ret
  exact ⟨rfl, HB.out.drew⟩
end Go.Proofs.Ytkpmocjghpeppaa
