/- What the reference's splitting of a text between bytes gives. No conditions. -/
import Derived.Test.YtmoilphgibigkaaDoorOpen
import Derived.Laws.AppendOwn
import Derived.OwnWalk
import Derived.WalkSpells
namespace Go.Proofs.YtmoilphgibigkaaDoor
open Go.Joins Go.ChangeShapes Go.WideShapes Go.ChangeAt Go.RowKit Go.Deep
set_option linter.unusedVariables false

/-- The parts of a text between bytes c, behind a beginning. -/
def splitL (c : UInt8) : List UInt8 → List UInt8 → List (List UInt8)
  | [], cur => [cur]
  | b :: r, cur => if b = c then cur :: splitL c r [] else splitL c r (cur ++ [b])
def lists (ps : List ByteArray) : List (List UInt8) := ps.map fun p => p.data.toList
/-- What has been done at byte i: the parts ps are done, the next one begins at f. -/
def SplitTo (c : UInt8) (s : ByteArray) (i f : Nat) (ps : List ByteArray) : Prop :=
  f ≤ i ∧ splitL c s.data.toList [] = lists ps ++ splitL c (s.data.toList.drop i) (s.extract f i).data.toList
theorem ext_list (s : ByteArray) (a b : Nat) : (s.extract a b).data.toList = (s.data.toList.drop a).take (b - a) := by
  rw [ByteArray.data_extract, Array.toList_extract]
theorem split_0 (c : UInt8) (s : ByteArray) : SplitTo c s 0 0 [] := by
  refine ⟨Nat.le_refl _, ?_⟩
  rw [ext_list]
  simp [lists]
theorem list_at {s : ByteArray} {i : Nat} (h : i < s.size) : s.data.toList.drop i = (s[i]'h) :: s.data.toList.drop (i + 1) := by
  have hl : i < s.data.toList.length := by simp only [Array.length_toList]; exact h
  rw [List.drop_eq_getElem_cons hl]
  rfl
theorem split_cut {c : UInt8} {s : ByteArray} {i f : Nat} {ps : List ByteArray} (h : SplitTo c s i f ps) (hi : i < s.size) (hc : s[i]'hi = c) : SplitTo c s (i + 1) (i + 1) (ps ++ [s.extract f i]) := by
  refine ⟨Nat.le_refl _, ?_⟩
  rw [h.2, list_at hi, splitL, if_pos hc, ext_list s (i + 1) (i + 1)]
  simp [lists]
theorem split_go {c : UInt8} {s : ByteArray} {i f : Nat} {ps : List ByteArray} (h : SplitTo c s i f ps) (hi : i < s.size) (hc : s[i]'hi ≠ c) : SplitTo c s (i + 1) f ps := by
  have hf := h.1
  refine ⟨by omega, ?_⟩
  rw [h.2, list_at hi, splitL, if_neg hc]
  congr 2
  have hl : i < s.data.toList.length := by simp only [Array.length_toList]; exact hi
  have e : s[i]'hi = s.data.toList[i] := rfl
  rw [ext_list, ext_list, show i + 1 - f = (i - f) + 1 by omega, List.take_add_one, List.getElem?_drop, show f + (i - f) = i by omega, List.getElem?_eq_getElem hl, e]
  rfl
theorem split_end {c : UInt8} {s : ByteArray} {i f : Nat} {ps : List ByteArray} (h : SplitTo c s i f ps) (hi : s.size ≤ i) : splitL c s.data.toList [] = lists (ps ++ [s.extract f s.size]) := by
  have hd : s.data.toList.drop i = [] := List.drop_eq_nil_of_le (by simp only [Array.length_toList]; exact hi)
  rw [h.2, hd, splitL]
  have hf := h.1
  have e : (s.extract f i).data.toList = (s.extract f s.size).data.toList := by
    have hlen : (s.data.toList.drop f).length = s.size - f := by rw [List.length_drop]; simp only [Array.length_toList]; rfl
    rw [ext_list, ext_list, List.take_of_length_le (by rw [hlen]; omega), List.take_of_length_le (by rw [hlen]; exact Nat.le_refl _)]
  rw [e]
  simp [lists]

def sv (ps : List ByteArray) : List Value := ps.map Value.string
theorem info9 : (Tryd.prog.info? 9).map (fun i => (i.zero, i.size, i.bytes)) = some (some (.string ⟨#[]⟩), 1, 16) := by kernel_rfl
theorem own_form1 {w : World} {B e n : Nat} {v : Value} {xs : List Value} (h : w.ownsRow B e 1 v (n + 1) xs) : ∃ g cap, v = .slice (some ⟨g, 0, none⟩) (n + 1) cap := by
  obtain ⟨_, ⟨hv, hn⟩ | ⟨g', cap', cur, hv, _⟩⟩ := h
  · omega
  · exact ⟨_, _, hv⟩
/-- What splitting leaves. -/
def SplitP (c : UInt8) (s : ByteArray) (w : World) (e : Ending) (w' : World) : Prop :=
  ∃ g cap ps, e = .returned (.slice (some ⟨g, 0, none⟩) (List.length ps) cap) ∧ w'.ownsRow w.heap.size 9 1 (.slice (some ⟨g, 0, none⟩) ps.length cap) ps.length (sv ps) ∧ Below w.heap.size w w' ∧ lists ps = splitL c s.data.toList [] ∧ ps.length ≤ s.size + 1

theorem split_close {w wr w1 : World} {ps : List ByteArray} {x : ByteArray} {v' : Value} {row : Option Nat} (hB : Below w.heap.size w wr)
    (hown : w1.ownsRow w.heap.size 9 1 v' (ps.length + 1) (sv ps ++ [.string x])) (hg : (wr.alloc (.cells #[.string x] 9)).grownBy w1 row) (hr : ∀ k, row = some k → w.heap.size ≤ k) :
    ∃ g cap, v' = .slice (some ⟨g, 0, none⟩) (List.length (ps ++ [x])) cap ∧ w1.ownsRow w.heap.size 9 1 v' (ps ++ [x]).length (sv (ps ++ [x])) ∧ Below w.heap.size w w1 := by
  obtain ⟨g, cap, hv⟩ := own_form1 hown
  refine ⟨g, cap, by rw [List.length_append]; exact hv, ?_, ?_⟩
  · rw [List.length_append, show sv (ps ++ [x]) = sv ps ++ [.string x] by simp [sv]]
    exact hown
  · exact (hB.alloc hB.size _).grown hg (by have := hB.size; simp; omega) hr

set_option maxHeartbeats 4000000 in
theorem split_any (s : ByteArray) (hs : s.size ≤ 100000000) (c : UInt8) (w : World) :
    Calls Tryd.prog 19 #[.string s, .int .u8 (c.toNat : Int)] w (SplitP c s w) := by
  obtain ⟨i0, hi, hz0, hz1, hz2⟩ := info_parts info9
  have hc0 : (0 : Int) ≤ (c.toNat : Int) := by omega
  have hc1 : (c.toNat : Int) ≤ 255 := by have := UInt8.toNat_lt c; omega
  go_enter Tryd.func19, Tryd.ntmps19
  go_wp2
  go_loopw [5, 6, 7] (fun v f i wr => ∃ (k j : Nat) (ps : List ByteArray) (g cap : Nat), i = .int .i64 k ∧ f = .int .i64 j ∧ k ≤ s.size ∧ v = .slice (some ⟨g, 0, none⟩) ps.length cap ∧ wr.ownsRow w.heap.size 9 1 v ps.length (sv ps) ∧ Below w.heap.size w wr ∧ SplitTo c s k j ps ∧ ps.length ≤ k) (fun _ _ i _ => s.size - (intOf i).toNat)
  case atStart => exact ⟨0, 0, [], w.heap.size, 0, rfl, rfl, Nat.zero_le _, rfl, World.ownsRow_made w #[] 0 (Nat.le_refl _) (by decide) rfl, (Below.refl _ _).alloc (Nat.le_refl _) _, split_0 c s, by decide⟩
  case round =>
    obtain ⟨k, j, ps, g, cap, rfl, rfl, hk, rfl, hown, hbl, hsp, hpl⟩ := hrel
    have HO := Lib.hid hown
    have HB := Lib.hid hbl
    have HS := Lib.hid hsp
    have hsz := hbl.size
    have hjk : (j : Int) ≤ (k : Int) := by have := hsp.1; omega
    have hj0 : (0 : Int) ≤ (j : Int) := by omega
    have hgB := hown.lt g rfl
    clear hown hbl hsp
    by_cases hlt : k < s.size
    · by_cases hc : s[k]'hlt = c
      · have e1 : (((s[k]'hlt).toNat : Int) == (c.toNat : Int)) = true := by rw [hc]; simp
        have hks : (k : Int) ≤ (s.size : Int) := by omega
        have Hc := Lib.hid hc
        clear hc
        go_wp2_with (at_builtin; refine wpList_append_own _ rfl _ _ 33 rfl w.heap.size 9 i0 (.string ⟨#[]⟩) 1 16 Tryd.underlying33 hi hz0 hz1 hz2 rfl (by decide) _ ps.length (sv ps) rfl (HO.out.alloc _) ⟨wr.heap.size, 0, none⟩ 1 1 [.string (s.extract j k)] rfl rfl (fun j' u hu => by match j', hu with | 0, hu => (cases hu; simp [Addr.add])) (by simp [Value.oneCell']) (by unfold maxLen; omega) (by omega) (by simp; omega) ?_; intro v' w1 hown1 hgrow1 hnil1)
        obtain ⟨g', cap', hv, ho, hb⟩ := split_close HB.out hown1 hgrow1 (fun q hq => by cases hq; exact hgB.1)
        go_roundw
        case rel => exact ⟨k + 1, k + 1, ps ++ [s.extract j k], g', cap', by go_num, by go_num, by omega, hv, ho, hb, split_cut HS.out hlt Hc.out, by rw [List.length_append]; simp; omega⟩
        case measure => simp [intOf]; omega
      · have e1 : (((s[k]'hlt).toNat : Int) == (c.toNat : Int)) = false := by
          rw [beq_eq_false_iff_ne]
          intro h
          exact hc (UInt8.toNat_inj.1 (by omega))
        have Hc := Lib.hid hc
        clear hc
        go_wp2
        go_roundw
        case rel => exact ⟨k + 1, j, ps, g, cap, by go_num, rfl, by omega, rfl, HO.out, HB.out, split_go HS.out hlt Hc.out, by omega⟩
        case measure => simp [intOf]; omega
    · have hks : (j : Int) ≤ (s.size : Int) := by omega
      go_wp2_with (at_builtin; refine wpList_append_own _ rfl _ _ 33 rfl w.heap.size 9 i0 (.string ⟨#[]⟩) 1 16 Tryd.underlying33 hi hz0 hz1 hz2 rfl (by decide) _ ps.length (sv ps) rfl (HO.out.alloc _) ⟨wr.heap.size, 0, none⟩ 1 1 [.string (s.extract j s.size)] rfl rfl (fun j' u hu => by match j', hu with | 0, hu => (cases hu; simp [Addr.add])) (by simp [Value.oneCell']) (by unfold maxLen; omega) (by omega) (by simp; omega) ?_; intro v' w1 hown1 hgrow1 hnil1)
      obtain ⟨g', cap', rfl, ho, hb⟩ := split_close HB.out hown1 hgrow1 (fun q hq => by cases hq; exact hgB.1)
      go_ret
      exact ⟨g', cap', ps ++ [s.extract j s.size], rfl, ho, hb, (split_end HS.out (by omega)).symm, by rw [List.length_append]; simp; omega⟩
end Go.Proofs.YtmoilphgibigkaaDoor
