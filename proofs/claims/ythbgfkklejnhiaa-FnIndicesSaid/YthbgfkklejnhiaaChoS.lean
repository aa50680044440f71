/- Choose of the reference: rows of Pascal's triangle, cut at a bound. No conditions. -/
import Derived.Test.YthbgfkklejnhiaaCho
namespace Go.Proofs.Ythbgfkklejnhiaa
open Go.Joins Go.ChangeShapes Go.WideShapes Go.ChangeAt Go.RowKit Go.Deep
set_option linter.unusedVariables false

/-- A number, or the bound where it is greater. -/
def cap (x : Nat) : Int := if x ≤ 1000000000000000 then (x : Int) else 1000000000000001
theorem cap_bd (x : Nat) : 0 ≤ cap x ∧ cap x ≤ 1000000000000001 := by unfold cap; split <;> omega
theorem cap_lo {x : Nat} (h : x ≤ 1000000000000000) : cap x = (x : Int) := if_pos h
theorem cap_hi {x : Nat} (h : 1000000000000000 < x) : cap x = 1000000000000001 := if_neg (by omega)
theorem cap_one : cap 1 = 1 := rfl
theorem cap_nil : cap 0 = 0 := rfl
/-- The lesser one. -/
def lo2 (a b : Int) : Int := if a < b then a else b
theorem cap_two (x y : Nat) : lo2 (cap x + cap y) 1000000000000001 = cap (x + y) := by
  unfold lo2 cap
  split <;> split <;> split <;> split <;> omega
theorem cap_self (x : Nat) : lo2 (cap x) 1000000000000001 = cap x := by
  unfold lo2 cap
  split <;> split <;> omega
/-- The first numbers of a row of the triangle. -/
def capL (i n : Nat) : List Int := (List.range n).map fun t => cap (ch i t)
theorem capL_len (i n : Nat) : (capL i n).length = n := by simp [capL]
theorem capL_succ (i n : Nat) : capL i (n + 1) = capL i n ++ [cap (ch i n)] := by simp [capL, List.range_succ]
theorem capL_at {i n t : Nat} (h : t < n) : (capL i n)[t]? = some (cap (ch i t)) := by simp [capL, h]
theorem capL_one (i : Nat) : capL i 1 = [1] := by simp [capL, ch_zero, cap_one]
theorem row_sng (u : World) (x : Int) (T : TypeId) : RowN (u.alloc (.cells #[.int .i64 x] T)) (some ⟨u.heap.size, 0, none⟩) [x] :=
  ⟨by simp, .inr ⟨u.heap.size, 0, rfl, by simp, fun i z hi => by
    match i, hi with
    | 0, hi =>
      cases hi
      rw [World.cell?_alloc_new]
      rfl⟩⟩
theorem own_sng (u : World) (x : Int) (B : Nat) (hB : B ≤ u.heap.size) : (u.alloc (.cells #[.int .i64 x] 2)).ownsRow B 2 1 (.slice (some ⟨u.heap.size, 0, none⟩) 1 1) 1 (nvs [x]) :=
  ⟨rfl, .inr ⟨u.heap.size, 1, #[.int .i64 x], rfl, hB, by show (u.heap.push _)[u.heap.size]? = _; simp, Nat.le_refl _, by decide, rfl, rfl⟩⟩
theorem alo (u : World) (o : Obj) : Below u.heap.size u (u.alloc o) := (Below.refl _ _).alloc (Nat.le_refl _) o
/-- A row that is read while a later one grows. -/
def Rd (w : World) (B g : Nat) (L : List Int) (wr : World) : Prop := Below w.heap.size w wr ∧ g < B ∧ B ≤ wr.heap.size ∧ w.heap.size ≤ B ∧ RowN wr (some ⟨g, 0, none⟩) L
theorem Rd.below {w wr u : World} {B g : Nat} {L : List Int} (h : Rd w B g L wr) (k : Below wr.heap.size wr u) : Rd w B g L u :=
  ⟨h.1.trans (k.mono h.1.size), h.2.1, Nat.le_trans h.2.2.1 k.size, h.2.2.2.1, h.2.2.2.2.below k⟩
theorem Rd.grown {w wr u : World} {B g : Nat} {L : List Int} {row : Option Nat} (h : Rd w B g L wr) (hg : wr.grownBy u row) (hr : ∀ k, row = some k → B ≤ k) : Rd w B g L u :=
  ⟨h.1.grown hg h.1.size (fun k hk => Nat.le_trans h.2.2.2.1 (hr k hk)), h.2.1, Nat.le_trans h.2.2.1 hg.size, h.2.2.2.1, h.2.2.2.2.grown hg (fun g' o k e hk => by cases e; have := hr k hk; have := h.2.1; omega)⟩

theorem min_any (a b : Int) (w : World) : Calls Try.prog 88 #[.int .i64 a, .int .i64 b] w fun e w' => e = .returned (.int .i64 (lo2 a b)) ∧ w = w' := by
  by_cases h : a < b
  · go_enter Try.func88, Try.ntmps88
    go_wp2
    go_ret
    exact ⟨by unfold lo2; rw [if_pos h]; rfl, rfl⟩
  · go_enter Try.func88, Try.ntmps88
    go_wp2
    go_ret
    exact ⟨by unfold lo2; rw [if_neg (by omega)]; rfl, rfl⟩
theorem specCh_far (N K : Nat) (w : World) (h : N < K) :
    Calls Try.prog 85 #[.int .i64 N, .int .i64 K] w fun e w' => e = .returned (.int .i64 (cap (ch N K))) ∧ Below w.heap.size w w' := by
  rw [ch_big N K h]
  have h1 : (N : Int) < (K : Int) := by omega
  go_enter Try.func85, Try.ntmps85
  go_wp2
  go_ret
  exact ⟨rfl, Below.refl _ _⟩
set_option maxHeartbeats 4000000 in
set_option maxRecDepth 100000 in
theorem specCh_in (N K : Nat) (w : World) (h : N ≤ 200) (h2 : K ≤ N) :
    Calls Try.prog 85 #[.int .i64 N, .int .i64 K] w fun e w' => e = .returned (.int .i64 (cap (ch N K))) ∧ Below w.heap.size w w' := by
  obtain ⟨i0, hi, hz0, hz1, hz2⟩ := info_parts infoN
  obtain ⟨m, hm⟩ : ∃ m, m = min K (N - K) := ⟨_, rfl⟩
  have hm1 : m ≤ N := by omega
  have hm2 : ch N m = ch N K := by
    rcases Nat.le_total K (N - K) with e | e
    · rw [hm, Nat.min_eq_left e]
    · rw [hm, Nat.min_eq_right e, ch_flip h2]
  have hlo : lo2 (K : Int) ((N : Int) - K) = (m : Int) := by unfold lo2; split <;> omega
  rw [← hm2]
  have HN := Lib.hid h
  have HLo := Lib.hid hlo
  have h5 : ¬ ((N : Int) < (K : Int)) := by omega
  clear hm2 hlo hm
  go_enter Try.func85, Try.ntmps85
  go_wp2_with (go_at_call 88; refine (min_any _ _ _).mono ?_; rintro e w' ⟨rfl, rfl⟩; rw [HLo.out])
  have hR := row_sng w 1 2
  have hB := alo w (.cells #[.int .i64 1] 2)
  have hz : w.heap.size < (w.alloc (.cells #[.int .i64 1] 2)).heap.size := by simp
  generalize w.alloc (.cells #[.int .i64 1] 2) = w1 at *
  go_loopw [5, 6] (fun r i wr => ∃ (q g c : Nat), q ≤ N ∧ i = .int .i64 ((q : Int) + 1) ∧ r = .slice (some ⟨g, 0, none⟩) (min m q + 1) c ∧ g < wr.heap.size ∧ RowN wr (some ⟨g, 0, none⟩) (capL q (min m q + 1)) ∧ Below w.heap.size w wr) (fun _ i _ => N + 1 - (intOf i).toNat)
  case atStart => exact ⟨0, w.heap.size, 1, Nat.zero_le _, rfl, by simp, hz, by simpa [capL_one] using hR, hB⟩
  case round =>
    obtain ⟨q, g, c, hq, rfl, rfl, hg, hrow, hbl⟩ := hrel
    have HR := Lib.hid hrow
    have HB := Lib.hid hbl
    clear hrow hbl hR hB hz
    by_cases hlt : q < N
    · have q1 : (q : Int) + 1 ≤ (N : Int) := by omega
      have q1b := HN.out
      go_wp2_with fail
      have HRd := Lib.hid (show Rd w wr.heap.size g (capL q (min m q + 1)) (wr.alloc (.cells #[.int .i64 1] 2)) from ⟨HB.out.trans ((alo wr _).mono HB.out.size), hg, by simp, HB.out.size, HR.out.alloc _⟩)
      have hown := own_sng wr 1 wr.heap.size (Nat.le_refl _)
      have HO := Lib.hid hown
      generalize hD : wr.heap.size = D at *
      generalize wr.alloc (.cells #[.int .i64 1] 2) = w2 at *
      clear HR HB hown hD
      go_loopw [7, 8] (fun v i wr => ∃ (J : Nat), J ≤ min m (q + 1) ∧ i = .int .i64 ((J : Int) + 1) ∧ wr.ownsRow D 2 1 v (J + 1) (nvs (capL (q + 1) (J + 1))) ∧ Rd w D g (capL q (min m q + 1)) wr) (fun _ i _ => 300 - (intOf i).toNat)
      case atStart =>
        refine ⟨0, by omega, rfl, ?_, HRd.out⟩
        rw [capL_one]
        exact HO.out
      case round =>
        obtain ⟨J, hJ, rfl, hown, hrd⟩ := hrel
        have HO := Lib.hid hown
        have HRd := Lib.hid hrd
        obtain ⟨g', o', he, hgl, hc⟩ := hrd.2.2.2.2.2.resolve_left (by intro e; have := capL_len q (min m q + 1); rw [e] at this; simp at this)
        cases he
        have hDs := hrd.2.2.1
        have k0 : (0 : Int) ≤ (J : Int) := by omega
        clear hown hrd
        by_cases hJm : J < min m (q + 1)
        · have q2 : (J : Int) + 1 ≤ (m : Int) := by omega
          have q3 : (J : Int) + 1 ≤ (q : Int) + 1 := by omega
          have y0 := hc J _ (capL_at (i := q) (n := min m q + 1) (t := J) (by omega))
          rw [Nat.zero_add] at y0
          have bd0 := cap_bd (ch q J)
          by_cases hJq : J < min m q
          · have y1 := hc (J + 1) _ (capL_at (i := q) (n := min m q + 1) (t := J + 1) (by omega))
            rw [Nat.zero_add] at y1
            have bd1 := cap_bd (ch q (J + 1))
            have ht := cap_two (ch q J) (ch q (J + 1))
            rw [← ch_succ] at ht
            have HT := Lib.hid ht
            have q4 : (J : Int) + 1 < ((min m q + 1 : Nat) : Int) := by omega
            have q5 : (J : Int) < ((min m q + 1 : Nat) : Int) := by omega
            generalize cap (ch q J) = x0 at *
            generalize cap (ch q (J + 1)) = x1 at *
            generalize min m q + 1 = L0 at *
            clear hc ht
            have hb9 : J < 500 := by omega
            go_wp2_with (first | (go_at_call 88; refine (min_any _ _ _).mono ?_; rintro e w' ⟨rfl, rfl⟩; rw [HT.out]) | (at_builtin; refine wpList_append_own _ rfl _ _ 26 rfl D 2 i0 (.int .i64 0) 1 8 Try.underlying26 hi hz0 hz1 hz2 rfl (by decide) _ (J + 1) (nvs (capL (q + 1) (J + 1))) rfl (own_keep HO.out (alo _ _)) ⟨_, 0, none⟩ 1 1 (nvs [cap (ch (q + 1) (J + 1))]) rfl (by simp [nvs]) (row_news (row_sng _ _ 2)) (nvs_cell _) (by unfold maxLen; omega) (by omega) (by simp; omega) ?_; intro v1 w3 hown1 hgrow1 hnil1))
            go_roundw
            case rel =>
              refine ⟨J + 1, by omega, by go_num, ?_, ?_⟩
              · rw [capL_succ, nvs_app]
                exact hown1
              · exact (HRd.out.below (alo _ _)).grown hgrow1 (fun k hk => (HO.out.lt k hk).1)
            case measure => simp [intOf]; omega
          · have hbig : ch q (J + 1) = 0 := ch_big _ _ (by omega)
            have ht := cap_self (ch q J)
            rw [show ch q J = ch (q + 1) (J + 1) by rw [ch_succ, hbig]; omega] at ht bd0 y0
            have HT := Lib.hid ht
            have q4 : ¬ ((J : Int) + 1 < ((min m q + 1 : Nat) : Int)) := by omega
            have q5 : (J : Int) < ((min m q + 1 : Nat) : Int) := by omega
            have hJ5 : J < 500 := by omega
            generalize hX : cap (ch (q + 1) (J + 1)) = x0 at *
            generalize min m q + 1 = L0 at *
            clear hc ht
            go_wp2_with (first | (go_at_call 88; refine (min_any _ _ _).mono ?_; rintro e w' ⟨rfl, rfl⟩; rw [HT.out]) | (at_builtin; refine wpList_append_own _ rfl _ _ 26 rfl D 2 i0 (.int .i64 0) 1 8 Try.underlying26 hi hz0 hz1 hz2 rfl (by decide) _ (J + 1) (nvs (capL (q + 1) (J + 1))) rfl (own_keep HO.out (alo _ _)) ⟨_, 0, none⟩ 1 1 (nvs [x0]) rfl (by simp [nvs]) (row_news (row_sng _ _ 2)) (nvs_cell _) (by unfold maxLen; omega) (by omega) (by simp; omega) ?_; intro v1 w3 hown1 hgrow1 hnil1))
            go_roundw
            case rel =>
              refine ⟨J + 1, by omega, by go_num, ?_, ?_⟩
              · rw [capL_succ, nvs_app, hX]
                exact hown1
              · exact (HRd.out.below (alo _ _)).grown hgrow1 (fun k hk => (HO.out.lt k hk).1)
            case measure => simp [intOf]; omega
        · obtain rfl : J = min m (q + 1) := by omega
          obtain ⟨c5, b5, rfl, ho5, hl5, -⟩ := outN_own HO.out (capL_len _ _) (by omega) (by intro e; have := capL_len (q + 1) (min m (q + 1) + 1); rw [e] at this; simp at this)
          have HO5 := Lib.hid ho5
          have q2 : ¬ (((min m (q + 1) : Nat) : Int) + 1 ≤ (m : Int) ∧ ((min m (q + 1) : Nat) : Int) + 1 ≤ (q : Int) + 1) := by omega
          clear ho5 hc
          by_cases q3 : ((min m (q + 1) : Nat) : Int) + 1 ≤ (m : Int)
          · have q4 : ¬ (((min m (q + 1) : Nat) : Int) + 1 ≤ (q : Int) + 1) := by omega
            clear q2
            go_wp2_with fail
            go_roundw
            case rel => exact ⟨q + 1, b5, c5, by omega, by go_num, rfl, hl5, HO5.out.row, HRd.out.1⟩
            case measure => simp [intOf]; omega
          · clear q2
            go_wp2_with fail
            go_roundw
            case rel => exact ⟨q + 1, b5, c5, by omega, by go_num, rfl, hl5, HO5.out.row, HRd.out.1⟩
            case measure => simp [intOf]; omega
    · obtain rfl : q = N := by omega
      have q1 : ¬ ((q : Int) + 1 ≤ (q : Int)) := by omega
      have q1b := HN.out
      have hx := HR.out.2.resolve_left (by intro e; have := capL_len q (min m q + 1); rw [e] at this; simp at this)
      obtain ⟨g', o', he, hgl, hc⟩ := hx
      cases he
      have y := hc m _ (capL_at (i := q) (n := min m q + 1) (t := m) (by omega))
      have hmq : min m q = m := by omega
      rw [hmq]
      rw [Nat.zero_add] at y
      have k0 : (0 : Int) ≤ (m : Int) := by omega
      have k1 : (m : Int) < ((m + 1 : Nat) : Int) := by omega
      clear hc
      go_wp2_with fail
      go_ret
      exact ⟨rfl, HB.out⟩
theorem specCh_any (N K : Nat) (w : World) (h : N ≤ 200) : Calls Try.prog 85 #[.int .i64 N, .int .i64 K] w fun e w' => e = .returned (.int .i64 (cap (ch N K))) ∧ Below w.heap.size w w' := by
  rcases Nat.lt_or_ge N K with h2 | h2
  · exact specCh_far N K w h2
  · exact specCh_in N K w h h2
end Go.Proofs.Ythbgfkklejnhiaa
