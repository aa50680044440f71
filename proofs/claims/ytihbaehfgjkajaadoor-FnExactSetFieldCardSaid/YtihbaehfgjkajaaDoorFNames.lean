/- FieldNames of the program returns the names of the nine fields in memory of its own. No conditions. -/
import Derived.Test.YtihbaehfgjkajaaDoorFields
namespace Go.Proofs.YtihbaehfgjkajaaDoor
open Go.Joins Go.ChangeShapes Go.WideShapes Go.ChangeAt Go.RowKit Go.Deep
set_option linter.unusedVariables false

theorem infoS : (Tryd.prog.info? 9).map (fun i => (i.zero, i.size, i.bytes)) = some (some (.string ⟨#[]⟩), 1, 16) := by kernel_rfl
def svs (xs : List ByteArray) : List Value := xs.map Value.string
/-- A new row of texts. -/
def OwnS (xs : List ByteArray) (n : Nat) (w : World) (e : Ending) (w' : World) : Prop :=
  ∃ v, e = .returned v ∧ w'.ownsRow w.heap.size 9 1 v n (svs xs) ∧ Below w.heap.size w w'
set_option maxHeartbeats 4000000 in
theorem impl_fnames (w : World) : Calls Tryd.prog 23 #[] w (OwnS flds 9 w) := by
  obtain ⟨i0, hi, hz0, hz1, hz2⟩ := info_parts infoS
  go_enter Tryd.func23, Tryd.ntmps23
  go_wp2_with fail
  refine (fields_any _).mono ?_
  rintro e w1 ⟨g, cap, r0, r1, r7, r8, rfl, hb, hlt, ht⟩
  have HT := Lib.hid ht.1
  have HB1 := Lib.hid hb
  have hz := hb.size
  clear ht hb
  go_wp2_with fail
  go_loopw [6, 1] (fun k v wr => ∃ (n : Nat), n ≤ 9 ∧ k = .int .i64 n ∧ wr.ownsRow w1.heap.size 9 1 v n (svs (flds.take n)) ∧ Below w1.heap.size w1 wr) (fun k _ _ => 9 - (intOf k).toNat)
  case atStart => exact ⟨0, by omega, rfl, World.ownsRow_nil _ _ _ _, Below.refl _ _⟩
  case round =>
    obtain ⟨n, hn, rfl, hown, hbl⟩ := hrel
    have HO := Lib.hid hown
    have HB := Lib.hid hbl
    have hsz := hbl.size
    clear hown hbl
    by_cases hl9 : n < 9
    · rcases (by omega : n = 0 ∨ n = 1 ∨ n = 2 ∨ n = 3 ∨ n = 4 ∨ n = 5 ∨ n = 6 ∨ n = 7 ∨ n = 8) with rfl | rfl | rfl | rfl | rfl | rfl | rfl | rfl | rfl
      · have c0 := (HT.out.below HB.out).2 0 _ rfl
        go_wp2_with (first | (go_at_call 59; go_in) | (at_builtin; refine wpList_append_own _ rfl _ _ 32 rfl w1.heap.size 9 i0 (.string ⟨#[]⟩) 1 16 Tryd.underlying32 hi hz0 hz1 hz2 rfl (by decide) _ 0 _ rfl (HO.out.alloc _) ⟨wr.heap.size, 0, none⟩ 1 1 [.string ⟨#[112, 105, 116, 115]⟩] rfl rfl (alloc_cells (by simp) rfl) (by simp [Value.oneCell']) (by unfold maxLen; omega) (by omega) (by simp; omega) ?_; intro v' w2 hown1 hgrow1 hnil1))
        go_roundw
        case rel => exact ⟨0 + 1, by omega, by go_num, hown1, (HB.out.alloc hsz _).grown hgrow1 (by simp; omega) (fun q hq => (HO.out.lt q hq).1)⟩
        case measure => simp [intOf]
      · have c0 := (HT.out.below HB.out).2 1 _ rfl
        go_wp2_with (first | (go_at_call 59; go_in) | (at_builtin; refine wpList_append_own _ rfl _ _ 32 rfl w1.heap.size 9 i0 (.string ⟨#[]⟩) 1 16 Tryd.underlying32 hi hz0 hz1 hz2 rfl (by decide) _ 1 _ rfl (HO.out.alloc _) ⟨wr.heap.size, 0, none⟩ 1 1 [.string ⟨#[115, 101, 101, 100, 115]⟩] rfl rfl (alloc_cells (by simp) rfl) (by simp [Value.oneCell']) (by unfold maxLen; omega) (by omega) (by simp; omega) ?_; intro v' w2 hown1 hgrow1 hnil1))
        go_roundw
        case rel => exact ⟨1 + 1, by omega, by go_num, hown1, (HB.out.alloc hsz _).grown hgrow1 (by simp; omega) (fun q hq => (HO.out.lt q hq).1)⟩
        case measure => simp [intOf]
      · have c0 := (HT.out.below HB.out).2 2 _ rfl
        go_wp2_with (first | (go_at_call 59; go_in) | (at_builtin; refine wpList_append_own _ rfl _ _ 32 rfl w1.heap.size 9 i0 (.string ⟨#[]⟩) 1 16 Tryd.underlying32 hi hz0 hz1 hz2 rfl (by decide) _ 2 _ rfl (HO.out.alloc _) ⟨wr.heap.size, 0, none⟩ 1 1 [.string ⟨#[115, 116, 111, 114, 101, 115]⟩] rfl rfl (alloc_cells (by simp) rfl) (by simp [Value.oneCell']) (by unfold maxLen; omega) (by omega) (by simp; omega) ?_; intro v' w2 hown1 hgrow1 hnil1))
        go_roundw
        case rel => exact ⟨2 + 1, by omega, by go_num, hown1, (HB.out.alloc hsz _).grown hgrow1 (by simp; omega) (fun q hq => (HO.out.lt q hq).1)⟩
        case measure => simp [intOf]
      · have c0 := (HT.out.below HB.out).2 3 _ rfl
        go_wp2_with (first | (go_at_call 59; go_in) | (at_builtin; refine wpList_append_own _ rfl _ _ 32 rfl w1.heap.size 9 i0 (.string ⟨#[]⟩) 1 16 Tryd.underlying32 hi hz0 hz1 hz2 rfl (by decide) _ 3 _ rfl (HO.out.alloc _) ⟨wr.heap.size, 0, none⟩ 1 1 [.string ⟨#[115, 107, 105, 112]⟩] rfl rfl (alloc_cells (by simp) rfl) (by simp [Value.oneCell']) (by unfold maxLen; omega) (by omega) (by simp; omega) ?_; intro v' w2 hown1 hgrow1 hnil1))
        go_roundw
        case rel => exact ⟨3 + 1, by omega, by go_num, hown1, (HB.out.alloc hsz _).grown hgrow1 (by simp; omega) (fun q hq => (HO.out.lt q hq).1)⟩
        case measure => simp [intOf]
      · have c0 := (HT.out.below HB.out).2 4 _ rfl
        go_wp2_with (first | (go_at_call 59; go_in) | (at_builtin; refine wpList_append_own _ rfl _ _ 32 rfl w1.heap.size 9 i0 (.string ⟨#[]⟩) 1 16 Tryd.underlying32 hi hz0 hz1 hz2 rfl (by decide) _ 4 _ rfl (HO.out.alloc _) ⟨wr.heap.size, 0, none⟩ 1 1 [.string ⟨#[114, 101, 108, 97, 121]⟩] rfl rfl (alloc_cells (by simp) rfl) (by simp [Value.oneCell']) (by unfold maxLen; omega) (by omega) (by simp; omega) ?_; intro v' w2 hown1 hgrow1 hnil1))
        go_roundw
        case rel => exact ⟨4 + 1, by omega, by go_num, hown1, (HB.out.alloc hsz _).grown hgrow1 (by simp; omega) (fun q hq => (HO.out.lt q hq).1)⟩
        case measure => simp [intOf]
      · have c0 := (HT.out.below HB.out).2 5 _ rfl
        go_wp2_with (first | (go_at_call 59; go_in) | (at_builtin; refine wpList_append_own _ rfl _ _ 32 rfl w1.heap.size 9 i0 (.string ⟨#[]⟩) 1 16 Tryd.underlying32 hi hz0 hz1 hz2 rfl (by decide) _ 5 _ rfl (HO.out.alloc _) ⟨wr.heap.size, 0, none⟩ 1 1 [.string ⟨#[102, 101, 101, 100]⟩] rfl rfl (alloc_cells (by simp) rfl) (by simp [Value.oneCell']) (by unfold maxLen; omega) (by omega) (by simp; omega) ?_; intro v' w2 hown1 hgrow1 hnil1))
        go_roundw
        case rel => exact ⟨5 + 1, by omega, by go_num, hown1, (HB.out.alloc hsz _).grown hgrow1 (by simp; omega) (fun q hq => (HO.out.lt q hq).1)⟩
        case measure => simp [intOf]
      · have c0 := (HT.out.below HB.out).2 6 _ rfl
        go_wp2_with (first | (go_at_call 59; go_in) | (at_builtin; refine wpList_append_own _ rfl _ _ 32 rfl w1.heap.size 9 i0 (.string ⟨#[]⟩) 1 16 Tryd.underlying32 hi hz0 hz1 hz2 rfl (by decide) _ 6 _ rfl (HO.out.alloc _) ⟨wr.heap.size, 0, none⟩ 1 1 [.string ⟨#[97, 103, 97, 105, 110]⟩] rfl rfl (alloc_cells (by simp) rfl) (by simp [Value.oneCell']) (by unfold maxLen; omega) (by omega) (by simp; omega) ?_; intro v' w2 hown1 hgrow1 hnil1))
        go_roundw
        case rel => exact ⟨6 + 1, by omega, by go_num, hown1, (HB.out.alloc hsz _).grown hgrow1 (by simp; omega) (fun q hq => (HO.out.lt q hq).1)⟩
        case measure => simp [intOf]
      · have c0 := (HT.out.below HB.out).2 7 _ rfl
        go_wp2_with (first | (go_at_call 59; go_in) | (at_builtin; refine wpList_append_own _ rfl _ _ 32 rfl w1.heap.size 9 i0 (.string ⟨#[]⟩) 1 16 Tryd.underlying32 hi hz0 hz1 hz2 rfl (by decide) _ 7 _ rfl (HO.out.alloc _) ⟨wr.heap.size, 0, none⟩ 1 1 [.string ⟨#[99, 97, 112, 116, 117, 114, 101]⟩] rfl rfl (alloc_cells (by simp) rfl) (by simp [Value.oneCell']) (by unfold maxLen; omega) (by omega) (by simp; omega) ?_; intro v' w2 hown1 hgrow1 hnil1))
        go_roundw
        case rel => exact ⟨7 + 1, by omega, by go_num, hown1, (HB.out.alloc hsz _).grown hgrow1 (by simp; omega) (fun q hq => (HO.out.lt q hq).1)⟩
        case measure => simp [intOf]
      · have c0 := (HT.out.below HB.out).2 8 _ rfl
        go_wp2_with (first | (go_at_call 59; go_in) | (at_builtin; refine wpList_append_own _ rfl _ _ 32 rfl w1.heap.size 9 i0 (.string ⟨#[]⟩) 1 16 Tryd.underlying32 hi hz0 hz1 hz2 rfl (by decide) _ 8 _ rfl (HO.out.alloc _) ⟨wr.heap.size, 0, none⟩ 1 1 [.string ⟨#[115, 108, 97, 109]⟩] rfl rfl (alloc_cells (by simp) rfl) (by simp [Value.oneCell']) (by unfold maxLen; omega) (by omega) (by simp; omega) ?_; intro v' w2 hown1 hgrow1 hnil1))
        go_roundw
        case rel => exact ⟨8 + 1, by omega, by go_num, hown1, (HB.out.alloc hsz _).grown hgrow1 (by simp; omega) (fun q hq => (HO.out.lt q hq).1)⟩
        case measure => simp [intOf]
    · obtain rfl : n = 9 := by omega
      go_wp2_with fail
      go_ret
      obtain ⟨g', cap', hv⟩ := own_formN HO.out (by omega)
      obtain ⟨h1, h2 | ⟨g2, cap2, cur, hv2, hb2, hr⟩⟩ := HO.out
      · omega
      · exact ⟨_, rfl, ⟨h1, .inr ⟨g2, cap2, cur, hv2, by omega, hr⟩⟩, HB1.out.trans (HB.out.mono hz)⟩
end Go.Proofs.YtihbaehfgjkajaaDoor
