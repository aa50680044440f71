/- What the library's functions on rows of numbers give: copies, rows joined, a number repeated. No conditions. -/
import Derived.Test.YthbgfkklejnhiaaOwn4
import Derived.Lib.AppendZerosOnto
import Derived.Laws.CopyOwn
import Derived.WalkSpells
import Derived.Deep.RegionLaw
namespace Go.Proofs.Ythbgfkklejnhiaa
open Go.Joins Go.ChangeShapes Go.WideShapes Go.ChangeAt Go.RowKit Go.Deep
set_option linter.unusedVariables false

set_option maxHeartbeats 1000000 in
theorem clone_any (a : Option Addr) (c n : Nat) (xs : List Int) (w : World) (hn : xs.length = n) (h : RowN w a xs) (hne : xs ≠ []) :
    Calls Try.prog 93 #[.slice a n c] w (OwnP xs n w) := by
  have hl : n ≤ 1000000000000 := by rw [← hn]; exact h.1
  obtain ⟨i0, hi, hz0, hz1, hz2⟩ := info_parts infoN
  obtain ⟨g, o, rfl, hg, hx⟩ := h.2.resolve_left hne
  have Hn := Lib.hid hn
  have H := Lib.hid h
  have qe : ∀ (w : World) (a : Option Addr) (n c n' c' : Nat), (binOp .eql 26 (.slice a n c) (.slice none n' c')).run Try.prog w = .ok (.bool a.isNone) w := fun w a n c n' c' => Lib.run_eql_slice_nil w _ _ a n c n' c' Try.underlying26
  clear hn h hne hx
  go_enter Try.func93, Try.ntmps93
  go_wp2_with (at_builtin; refine wpList_append_own _ rfl _ _ 26 rfl w.heap.size 2 i0 (.int .i64 0) 1 8 Try.underlying26 hi hz0 hz1 hz2 rfl (by decide) _ 0 [] rfl (World.ownsRow_made w #[] 0 (Nat.le_refl _) (by decide) rfl) ⟨g, o, none⟩ n c (nvs xs) rfl (by rw [nvs_len, Hn.out]; simp) (row_news (H.out.alloc _)) (nvs_cell xs) (by unfold maxLen; omega) (by omega) (by simp) ?_; intro v' w1 hown1 hgrow1 hnil1)
  have hb1 : Below w.heap.size w w1 := ((Below.refl _ _).alloc (Nat.le_refl _) _).grown hgrow1 (by simp) (fun k hk => by cases hk; exact Nat.le_refl _)
  simp only [Nat.zero_add, List.nil_append] at hown1
  have HO := Lib.hid hown1
  have HB := Lib.hid hb1
  clear hown1 hb1 hgrow1 hnil1
  go_wp2
  go_ret
  exact ⟨_, rfl, HO.out, HB.out⟩
set_option maxHeartbeats 1000000 in
theorem growNil_any (n : Nat) (h0 : 0 < n) (hn : n ≤ 4000000000000) (w : World) :
    Calls Try.prog 95 #[.slice none 0 0, .int .i64 n] w (OwnP [] 0 w) := by
  obtain ⟨i0, hi, hz0, hz1, hz2⟩ := info_parts infoN
  have q0 : ¬ ((n : Int) < 0) := by omega
  have q1 : (0 : Int) < (n : Int) := by omega
  have hfit : Builtin.nextslicecap (0 + n) 0 * i0.bytes ≤ 281474976710656 := by rw [hz2]; exact growslice_fits (by omega) (by omega)
  have hr : ∀ ty, (Builtin.append_ #[26, 3] ty #[.slice none 0 0, .int .i64 n]).run Try.prog w = _ := fun ty =>
    Lib.run_append_grow_zeros (P := Try.prog) w 26 3 ty 2 i0 (.int .i64 0) .i64 .i64 Try.underlying26 Try.underlying3 hi hz0 none 0 0 [] (run_firstCells_none w.drew i0.size 0 0 0) n h0 (by omega) (by omega) (by omega) (by rw [hz2]; omega) hfit
  obtain ⟨G, hG⟩ : ∃ G, grownCap w (0 + n) 0 2 = G := ⟨_, rfl⟩
  have hGn : 0 + n ≤ G := by rw [← hG]; exact grownCap_ge w _ _ _
  have hGm : G ≤ maxLen := by rw [← hG]; exact grownCap_le_maxLen w (0 + n) 0 2 (by unfold maxLen; omega)
  rw [hG] at hr
  have hG63 : G ≤ 9223372036854775807 := by unfold maxLen at hGm; omega
  have ho : ((w.alloc (.cells (Builtin.zeroCells #[.int .i64 0] n ++ Builtin.zeroCells #[.int .i64 0] (G - n)) 2)).drew).ownsRow w.heap.size 2 1 (.slice (some ⟨w.heap.size, 0, none⟩) 0 G) 0 (nvs []) :=
    ⟨rfl, .inr ⟨w.heap.size, G, _, rfl, Nat.le_refl _, (heap_alloc_new w _), Nat.zero_le _, hGm, by rw [Array.size_append, size_zeroCells, size_zeroCells]; simp; omega, by simp [nvs]⟩⟩
  have HO := Lib.hid ho
  have HB := Lib.hid (((Below.refl w.heap.size w).alloc (Nat.le_refl _) (.cells (Builtin.zeroCells #[.int .i64 0] n ++ Builtin.zeroCells #[.int .i64 0] (G - n)) 2)).drew)
  clear ho hG hGm hfit
  go_enter Try.func95, Try.ntmps95
  go_wp2_with (at_builtin; refine Lib.wpList_append_run _ rfl _ _ _ _ rfl _ _ rfl rfl _ _ (hr _) ?_)
  go_ret
  exact ⟨_, rfl, HO.out, HB.out⟩
set_option maxHeartbeats 4000000 in
theorem concat_any (h : Nat) (c : Nat) (a1 a2 : Option Addr) (c1 c2 n1 n2 : Nat) (xs ys : List Int) (w : World) (hh : h < w.heap.size) (y0 : w.cell? ⟨h, 0, none⟩ = some (.slice a1 n1 c1)) (y1 : w.cell? ⟨h, 1, none⟩ = some (.slice a2 n2 c2))
    (l1 : xs.length = n1) (l2 : ys.length = n2) (r1 : RowN w a1 xs) (r2 : RowN w a2 ys) (e1 : xs ≠ []) (e2 : ys ≠ []) :
    Calls Try.prog 91 #[.slice (some ⟨h, 0, none⟩) 2 c] w (OwnP (xs ++ ys) (n1 + n2) w) := by
  have hb1 : n1 ≤ 1000000000000 := by rw [← l1]; exact r1.1
  have hb2 : n2 ≤ 1000000000000 := by rw [← l2]; exact r2.1
  have p1 : 0 < n1 := by rw [← l1]; exact List.length_pos_iff.2 e1
  obtain ⟨i0, hi, hz0, hz1, hz2⟩ := info_parts infoN
  obtain ⟨g1, o1, rfl, hg1, -⟩ := r1.2.resolve_left e1
  obtain ⟨g2, o2, rfl, hg2, -⟩ := r2.2.resolve_left e2
  have R1 := Lib.hid r1
  have R2 := Lib.hid r2
  have L1 := Lib.hid l1
  have L2 := Lib.hid l2
  clear r1 r2 l1 l2 e1 e2
  go_enter Try.func91, Try.ntmps91
  go_wp2
  go_loop [3, 11] (fun s i => (i = .int .i64 0 ∧ s = .int .i64 0) ∨ (i = .int .i64 1 ∧ s = .int .i64 n1) ∨ (i = .int .i64 2 ∧ s = .int .i64 ((n1 + n2 : Nat) : Int))) (fun _ i => 2 - (intOf i).toNat)
  case atStart => exact .inl ⟨rfl, rfl⟩
  case round =>
    rcases hrel with ⟨rfl, rfl⟩ | ⟨rfl, rfl⟩ | ⟨rfl, rfl⟩
    · have q : ¬ ((n1 : Int) < 0) := by omega
      go_wp2
      go_round
      case rel => exact .inr (.inl ⟨by go_num, by go_num⟩)
      case measure => simp [intOf]
    · have q : ¬ (((n1 : Int) + (n2 : Int)) < 0) := by omega
      go_wp2
      go_round
      case rel => exact .inr (.inr ⟨by go_num, by go_num⟩)
      case measure => simp [intOf]
    · go_wp2_with fail
      refine (growNil_any (n1 + n2) (by omega) (by omega) _).mono ?_
      rintro e u ⟨v, rfl, ho, hb⟩
      have HO := Lib.hid ho
      have HB := Lib.hid hb
      clear ho hb
      have YS := Lib.hid (⟨y0, y1⟩ : w.cell? ⟨h, 0, none⟩ = some (.slice (some ⟨g1, o1, none⟩) n1 c1) ∧ w.cell? ⟨h, 1, none⟩ = some (.slice (some ⟨g2, o2, none⟩) n2 c2))
      clear y0 y1
      go_wp2_with fail
      go_loopw [6, 27] (fun v i wr => Below w.heap.size w wr ∧ ((i = .int .i64 0 ∧ wr.ownsRow w.heap.size 2 1 v 0 (nvs [])) ∨ (i = .int .i64 1 ∧ wr.ownsRow w.heap.size 2 1 v n1 (nvs xs)) ∨ (i = .int .i64 2 ∧ wr.ownsRow w.heap.size 2 1 v (n1 + n2) (nvs (xs ++ ys))))) (fun _ i _ => 2 - (intOf i).toNat)
      case atStart => exact ⟨HB.out, .inl ⟨rfl, HO.out⟩⟩
      case round =>
        obtain ⟨hb, ⟨rfl, ho⟩ | ⟨rfl, ho⟩ | ⟨rfl, ho⟩⟩ := hrel
        · have HO := Lib.hid ho
          have HB := Lib.hid hb
          have y0 := (hb.cell (p := ⟨h, 0, none⟩) hh).trans YS.out.1
          clear ho hb
          go_wp2_with (at_builtin; refine wpList_append_own _ rfl _ _ 26 rfl w.heap.size 2 i0 (.int .i64 0) 1 8 Try.underlying26 hi hz0 hz1 hz2 rfl (by decide) _ 0 (nvs []) rfl HO.out ⟨g1, o1, none⟩ n1 c1 (nvs xs) rfl (by rw [nvs_len, L1.out]; simp) (row_news (R1.out.below HB.out)) (nvs_cell xs) (by unfold maxLen; omega) (by omega) HB.out.size ?_; intro v' w1 hown1 hgrow1 hnil1)
          have hb1 := HB.out.grown hgrow1 HB.out.size (fun k hk => (HO.out.lt k hk).1)
          go_roundw
          case rel => exact ⟨hb1, .inr (.inl ⟨by go_num, by simpa [nvs] using hown1⟩)⟩
          case measure => simp [intOf]
        · have HO := Lib.hid ho
          have HB := Lib.hid hb
          have y1 := (hb.cell (p := ⟨h, 1, none⟩) hh).trans YS.out.2
          clear ho hb
          go_wp2_with (at_builtin; refine wpList_append_own _ rfl _ _ 26 rfl w.heap.size 2 i0 (.int .i64 0) 1 8 Try.underlying26 hi hz0 hz1 hz2 rfl (by decide) _ n1 (nvs xs) rfl HO.out ⟨g2, o2, none⟩ n2 c2 (nvs ys) rfl (by rw [nvs_len, L2.out]; simp) (row_news (R2.out.below HB.out)) (nvs_cell ys) (by unfold maxLen; omega) (by omega) HB.out.size ?_; intro v' w1 hown1 hgrow1 hnil1)
          have hb1 := HB.out.grown hgrow1 HB.out.size (fun k hk => (HO.out.lt k hk).1)
          go_roundw
          case rel => exact ⟨hb1, .inr (.inr ⟨by go_num, by rw [nvs_app]; exact hown1⟩)⟩
          case measure => simp [intOf]
        · have HO := Lib.hid ho
          have HB := Lib.hid hb
          clear ho hb
          go_wp2
          go_ret
          exact ⟨_, rfl, HO.out, HB.out⟩
end Go.Proofs.Ythbgfkklejnhiaa
