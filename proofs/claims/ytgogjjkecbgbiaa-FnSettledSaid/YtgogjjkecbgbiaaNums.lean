/- The method that hands over the numbers of a position: first those of the pits, then those of the stores. No conditions. -/
import Derived.Test.YtgogjjkecbgbiaaRange
import Derived.Test.YtgogjjkecbgbiaaTot
import Derived.Test.YtgogjjkecbgbiaaPos
import Derived.RangeFuncNested
import Derived.Shelf.Abstract
import Derived.Shelf.RegionOpen
import Derived.WalkKit
import Derived.OwnWalkIn
import Derived.TacticsInMore
import Derived.LoopNIn
import Derived.LoopIn
import Derived.Outline
namespace Go.Proofs.Ytgogjjkecbgbiaa
open Go.RowKit Go.Shelf
attribute [local go_sem] Oper.semAt_some
set_option linter.unusedVariables false

/-- One number, as a round gets it. -/
def encN (x : Int) : Array Value := #[.int .i64 x]

set_option maxHeartbeats 2000000 in
set_option maxRecDepth 100000 in
theorem numbers_hands (F : Fence) (n : Nat) (hF : F.fn 52) (hro : F.round = none) (hn : 1 ≤ n) (p1 p2 : Option Addr) (pn1 pc1 pn2 pc2 : Nat) (pp : Int) (xs ys : List Int) (w : World) (h : PosR w p1 p2 pn1 pn2 xs ys) :
    Hands F n Try.prog 52 #[.agg #[.slice p1 pn1 pc1, .slice p2 pn2 pc2, .int .i64 pp]] encN (xs ++ ys) w.heap.size w := by
  intro l J Jx W hb hJ hY h0
  have hb1 : pn1 ≤ 1000000000000 := by rw [← h.l1]; exact h.r1.1
  have hb2 : pn2 ≤ 1000000000000 := by rw [← h.l2]; exact h.r2.1
  have H := Lib.hid h
  have HB := Lib.hid hb
  have HY := Lib.hid hY
  have HJ := Lib.hid hJ
  have H0 := Lib.hid h0
  clear h hb hY hJ h0
  have i0 : ∀ (u v : Value) (w : World), (Instr.index 80 (.agg #[u, v]) (.int .i64 0)).run Try.prog w = .ok u w := fun _ _ _ => by kernel_rfl
  have i1 : ∀ (u v : Value) (w : World), (Instr.index 80 (.agg #[u, v]) (.int .i64 1)).run Try.prog w = .ok v w := fun _ _ _ => by kernel_rfl
  refine callsIn_of_wp Try.func52 rfl hF ?_ hro
  simp only [Try.ntmps52, List.size_toArray, List.length_cons, List.length_nil, Nat.reduceAdd, Nat.reduceSub, Array.replicate_succ, Array.replicate_zero, List.push_toArray, List.append_toArray, List.nil_append, List.cons_append]
  gi_wp2
  have HB1 : Hid (Below w.heap.size w (W.alloc (.cells #[.slice p1 pn1 pc1, .slice p2 pn2 pc2, .int .i64 pp] 28))) := Lib.hid (HB.out.alloc HB.out.size _)
  have HJ1 := Lib.hid (HJ.out 0 _ _ H0.out ((Below.refl _ W).alloc (Nat.le_refl _) (.cells #[.slice p1 pn1 pc1, .slice p2 pn2 pc2, .int .i64 pp] 28)))
  gi_loopw [13] (fun i wr => ∃ k : Nat, Below w.heap.size w wr ∧ J k wr ∧ (i = .int .i64 0 ∧ k = 0 ∨ i = .int .i64 1 ∧ k = pn1 ∨ i = .int .i64 2 ∧ k = pn1 + pn2)) (fun i _ => 2 - (intOf i).toNat)
  case atStart => exact ⟨0, HB1.out, HJ1.out, .inl ⟨rfl, rfl⟩⟩
  case round =>
    clear HB1 HJ1
    obtain ⟨k, hbl, hjk, ⟨rfl, hk⟩ | ⟨rfl, hk⟩ | ⟨rfl, hk⟩⟩ := hrel <;> obtain rfl := hk.symm
    · have HBl := Lib.hid hbl
      have HJk := Lib.hid hjk
      clear hbl hjk
      gi_wp2
      obtain ⟨wo, rfl⟩ : ∃ wo : World, wo = wr := ⟨_, rfl⟩
      gi_loopw [18] (fun i wi => ∃ c : Nat, c ≤ pn1 ∧ i = .int .i64 c ∧ Below w.heap.size w wi ∧ J (c) wi) (fun i _ => pn1 - (intOf i).toNat)
      case atStart => exact ⟨0, Nat.zero_le _, rfl, HBl.out, HJk.out⟩
      case round =>
        clear HBl HJk
        obtain ⟨c, hc, rfl, hbl, hjk⟩ := hrel
        have HBl := Lib.hid hbl
        have HJk := Lib.hid hjk
        clear hbl hjk
        by_cases hlt : c < pn1
        · obtain ⟨x, hx⟩ : ∃ x, xs[c]? = some x := ⟨xs[c]'(by rw [H.out.l1]; exact hlt), List.getElem?_eq_getElem _⟩
          have hne : xs ≠ [] := by intro h; subst h; cases hx
          obtain ⟨g, o, rfl, l1, x1⟩ := H.out.r1.2.resolve_left hne
          have y1 : wr.cell? ⟨g, o + c, none⟩ = some (.int .i64 x) := by rw [HBl.out.cell (p := ⟨g, o + c, none⟩) l1]; exact x1 c x hx
          obtain ⟨fn, tmps, assign, body, hy, hR⟩ := HY.out (c) x wr HJk.out (by rw [List.getElem?_append_left (by rw [H.out.l1]; exact hlt)]; exact hx)
          unfold encN at hy
          have q0 : (0 : Int) ≤ (c : Int) := by omega
          have q1 : (c : Int) < (pn1 : Int) := by omega
          clear x1 hx hne
          gi_wp2
          refine hR.mono ?_
          rintro e W3 (⟨rfl, hJ3, hk3⟩ | ⟨rfl, hJx3⟩)
          · have HJ3 := Lib.hid hJ3
            have HB3 := Lib.hid (HBl.out.trans hk3)
            clear hJ3 hk3 hR hy
            gi_wp2
            go_roundw
            case rel => exact ⟨c + 1, by omega, by go_num, HB3.out, HJ3.out⟩
            case measure => simp [intOf]; omega
          · have HX3 := Lib.hid hJx3
            clear hJx3 hR hy
            gi_wp2
            refine bodyPost_ret (results_none rfl _ _ _) rfl ?_
            exact ⟨⟨_, rfl⟩, .inr HX3.out⟩
        · obtain rfl : c = pn1 := by omega
          gi_wp2
          go_roundw
          case rel => exact ⟨_, HBl.out, HJk.out, .inr (.inl ⟨by go_num, rfl⟩)⟩
          case measure => simp [intOf]
    · have HBl := Lib.hid hbl
      have HJk := Lib.hid hjk
      clear hbl hjk
      gi_wp2
      obtain ⟨wo, rfl⟩ : ∃ wo : World, wo = wr := ⟨_, rfl⟩
      gi_loopw [18] (fun i wi => ∃ c : Nat, c ≤ pn2 ∧ i = .int .i64 c ∧ Below w.heap.size w wi ∧ J (pn1 + c) wi) (fun i _ => pn2 - (intOf i).toNat)
      case atStart => exact ⟨0, Nat.zero_le _, rfl, HBl.out, HJk.out⟩
      case round =>
        clear HBl HJk
        obtain ⟨c, hc, rfl, hbl, hjk⟩ := hrel
        have HBl := Lib.hid hbl
        have HJk := Lib.hid hjk
        clear hbl hjk
        by_cases hlt : c < pn2
        · obtain ⟨x, hx⟩ : ∃ x, ys[c]? = some x := ⟨ys[c]'(by rw [H.out.l2]; exact hlt), List.getElem?_eq_getElem _⟩
          have hne : ys ≠ [] := by intro h; subst h; cases hx
          obtain ⟨g, o, rfl, l1, x1⟩ := H.out.r2.2.resolve_left hne
          have y1 : wr.cell? ⟨g, o + c, none⟩ = some (.int .i64 x) := by rw [HBl.out.cell (p := ⟨g, o + c, none⟩) l1]; exact x1 c x hx
          obtain ⟨fn, tmps, assign, body, hy, hR⟩ := HY.out (pn1 + c) x wr HJk.out (by rw [List.getElem?_append_right (by rw [H.out.l1]; omega), H.out.l1, show pn1 + c - pn1 = c by omega]; exact hx)
          unfold encN at hy
          have q0 : (0 : Int) ≤ (c : Int) := by omega
          have q1 : (c : Int) < (pn2 : Int) := by omega
          clear x1 hx hne
          gi_wp2
          refine hR.mono ?_
          rintro e W3 (⟨rfl, hJ3, hk3⟩ | ⟨rfl, hJx3⟩)
          · have HJ3 := Lib.hid hJ3
            have HB3 := Lib.hid (HBl.out.trans hk3)
            clear hJ3 hk3 hR hy
            gi_wp2
            go_roundw
            case rel => exact ⟨c + 1, by omega, by go_num, HB3.out, HJ3.out⟩
            case measure => simp [intOf]; omega
          · have HX3 := Lib.hid hJx3
            clear hJx3 hR hy
            gi_wp2
            refine bodyPost_ret (results_none rfl _ _ _) rfl ?_
            exact ⟨⟨_, rfl⟩, .inr HX3.out⟩
        · obtain rfl : c = pn2 := by omega
          gi_wp2
          go_roundw
          case rel => exact ⟨_, HBl.out, HJk.out, .inr (.inr ⟨by go_num, rfl⟩)⟩
          case measure => simp [intOf]
    · have hl : (xs ++ ys).length = pn1 + pn2 := by rw [List.length_append, H.out.l1, H.out.l2]
      have HJe : Hid (J (xs ++ ys).length wr) := by rw [hl]; exact Lib.hid hjk
      clear hbl hjk hl
      gi_wp2
      go_end0
      exact ⟨⟨_, rfl⟩, .inl (by simpa using HJe.out)⟩
end Go.Proofs.Ytgogjjkecbgbiaa
