/- A name that is drawn and often changed: from the same bytes the same text. No conditions. -/
import Derived.Test.YtkfflhhnaohhaaaSrcD
import Derived.Test.YtkfflhhnaohhaaaCapLaw
import Derived.Deep.RegionWith
namespace Go.Proofs.Ytkfflhhnaohhaaa
open Go.Joins Go.ChangeShapes Go.WideShapes Go.ChangeAt Go.RowKit Go.Deep
set_option linter.unusedVariables false

def spoilT : List ByteArray := [⟨#[32]⟩, ⟨#[48]⟩, ⟨#[45]⟩, ⟨#[120]⟩, ⟨#[49]⟩, ⟨#[57]⟩, ⟨#[46]⟩]
/-- The drawn number and what is left of the source, without their texts. -/
theorem pick_told (a : Option Addr) (len cap : Nat) (f : Nat → Int) (i : Nat) (u n : Int) (hi : i < 1000000) (h1 : 1 ≤ n) (hn : n ≤ 200) :
    ∃ (j : Nat) (i' : Nat) (u' : Int), (j : Int) < n ∧ i' ≤ i + 1 ∧ ∀ b w, SrcD w b a len cap f i u → Calls Try.prog 14 #[.pointer (some ⟨b, 0, none⟩), .int .i64 n] w (StepD b a len cap f i' j u' w) := by
  obtain ⟨v0, v1⟩ := pk_bd f len i u n h1
  refine ⟨(pkV f len i u n).toNat, pkI i n, pkU f len i u n, by omega, pkI_le _ _, fun b w h => ?_⟩
  rw [Int.toNat_of_nonneg v0]
  exact pickD_any b a len cap f i u n w h hi h1 hn
theorem text_told (a : Option Addr) (len cap : Nat) (f : Nat → Int) (i : Nat) (u : Int) (ss : List ByteArray) (k : Nat) (hss : ss.length = k) (hi : i < 1000000) (h1 : 0 < k) (hn : k ≤ 200) :
    ∃ (s : ByteArray) (i' : Nat) (u' : Int), s ∈ ss ∧ i' ≤ i + 1 ∧ ∀ b w d m, SrcD w b a len cap f i u → d < w.heap.size → d ≠ b → (∀ i s, ss[i]? = some s → w.cell? ⟨d, i, none⟩ = some (.string s)) →
      Calls Try.prog 12 #[.pointer (some ⟨b, 0, none⟩), .slice (some ⟨d, 0, none⟩) k m] w fun e w' => e = .returned (.string s) ∧ But b w w' ∧ SrcD w' b a len cap f i' u' := by
  obtain ⟨v0, v1⟩ := pk_bd f len i u k (by omega)
  obtain ⟨s, hs⟩ : ∃ s, ss[(pkV f len i u k).toNat]? = some s := ⟨ss[(pkV f len i u k).toNat]'(by omega), List.getElem?_eq_getElem _⟩
  exact ⟨s, pkI i k, pkU f len i u k, List.mem_of_getElem? hs, pkI_le _ _, fun b w d m h hd hdb hx => textD_any b a len cap f i u d m k ss s w h hi hss h1 hn hd hdb hx hs⟩

set_option maxHeartbeats 4000000 in
theorem spoil_told (a : Option Addr) (len cap : Nat) (f : Nat → Int) (i : Nat) (u : Int) (t : ByteArray) (hi : i < 1000) (ht1 : 1 ≤ t.size) (ht : t.size ≤ 100) (hte : t.toList.isEmpty = false) :
    ∃ r : ByteArray, ∀ b w, SrcD w b a len cap f i u → Calls Try.prog 11 #[.pointer (some ⟨b, 0, none⟩), .string t] w fun e w' => e = .returned (.string r) ∧ But b w w' := by
  obtain ⟨j, i1, u1, hj, hi1, c1⟩ := pick_told a len cap f i u 5 (by omega) (by omega) (by omega)
  have C1 := Lib.hid c1
  clear c1
  have q0 : (0 : Int) ≤ (j : Int) := by omega
  by_cases h0 : j = 0
  · subst h0
    obtain ⟨k, i2, u2, hk, hi2, c2⟩ := pick_told a len cap f i1 u1 ((t.size : Int) + 1) (by omega) (by omega) (by omega)
    have C2 := Lib.hid c2
    clear c2
    obtain ⟨s7, i3, u3, hs7, hi3, c3⟩ := text_told a len cap f i2 u2 spoilT 7 rfl (by omega) (by omega) (by omega)
    have C3 := Lib.hid c3
    clear c3
    have hs1 : s7.size = 1 := by
      simp only [spoilT, List.mem_cons, List.not_mem_nil, or_false] at hs7
      rcases hs7 with rfl | rfl | rfl | rfl | rfl | rfl | rfl <;> rfl
    clear hs7
    refine ⟨t.extract 0 k ++ s7 ++ t.extract k t.size, fun b w h => ?_⟩
    have H := Lib.hid h
    clear h
    have k0 : (0 : Int) ≤ (k : Int) := by omega
    have k1 : (k : Int) ≤ (t.size : Int) := by omega
    go_enter Try.func11, Try.ntmps11
    go_wp2_with fail
    refine (C1.out _ _ H.out).mono ?_
    rintro e w1 ⟨rfl, b1, s1⟩
    have B1 := Lib.hid b1
    have S1 := Lib.hid s1
    clear b1 s1
    go_wp2_with fail
    refine (C2.out _ _ S1.out).mono ?_
    rintro e w2 ⟨rfl, b2, s2⟩
    have B2 := Lib.hid (B1.out.trans b2)
    have S2 := Lib.hid s2
    clear b2 s2
    go_wp2_with fail
    have hdb : w2.heap.size ≠ b := by have := S2.out.at_.lt; omega
    have e1 : (t.extract 0 k).size = k := by rw [ByteArray.size_extract]; omega
    have e2 : (t.extract k t.size).size = t.size - k := by rw [ByteArray.size_extract]; omega
    have m1 : ¬ 9223372036854775807 < (t.extract 0 k).size + s7.size := by omega
    have m2 : ¬ 9223372036854775807 < (t.extract 0 k).size + s7.size + (t.extract k t.size).size := by omega
    have k2 : ¬ (t.size : Int) < (k : Int) := by omega
    clear e1 e2
    go_region_with ((go_at_call 12; (first | refine (C3.out b _ w2.heap.size 7 (S2.out.below ((Below.refl _ _).alloc (Nat.le_refl _) _).drew) (by simp) hdb (RowT.below (row_new w2 spoilT 9) (Below.refl _ _).drew).2).mono ?_ | refine (C3.out b _ w2.heap.size 7 (S2.out.below ((Below.refl _ _).alloc (Nat.le_refl _) _)) (by simp) hdb (row_new w2 spoilT 9).2).mono ?_); rintro e w3 ⟨rfl, b3, -⟩; have B3 := Lib.hid b3; clear b3))
    go_wp2
    go_ret
    exact ⟨rfl, by first | exact (B2.out.trans ((But.refl b _).alloc _).drew).trans B3.out | exact ((B2.out.trans ((But.refl b _).alloc _).drew).trans B3.out).drew | exact (B2.out.trans ((But.refl b _).alloc _)).trans B3.out⟩
  · by_cases h1 : j = 1
    · subst h1
      obtain ⟨k, i2, u2, hk, hi2, c2⟩ := pick_told a len cap f i1 u1 (t.size : Int) (by omega) (by omega) (by omega)
      have C2 := Lib.hid c2
      clear c2
      refine ⟨t.extract 0 k ++ t.extract (k + 1) t.size, fun b w h => ?_⟩
      have H := Lib.hid h
      clear h
      have k0 : (0 : Int) ≤ (k : Int) := by omega
      have k1 : (k : Int) + 1 ≤ (t.size : Int) := by omega
      go_enter Try.func11, Try.ntmps11
      go_wp2_with fail
      refine (C1.out _ _ H.out).mono ?_
      rintro e w1 ⟨rfl, b1, s1⟩
      have B1 := Lib.hid b1
      have S1 := Lib.hid s1
      clear b1 s1
      go_wp2_with fail
      refine (C2.out _ _ S1.out).mono ?_
      rintro e w2 ⟨rfl, b2, s2⟩
      have B2 := Lib.hid (B1.out.trans b2)
      clear b2 s2
      have e1 : (t.extract 0 k).size = k := by rw [ByteArray.size_extract]; omega
      have e2 : (t.extract (k + 1) t.size).size = t.size - (k + 1) := by rw [ByteArray.size_extract]; omega
      have m2 : ¬ 9223372036854775807 < (t.extract 0 k).size + (t.extract (k + 1) t.size).size := by omega
      have k2 : (k : Int) ≤ (t.size : Int) := by omega
      clear e1 e2
      go_wp2_with fail
      go_region
      go_wp2
      go_ret
      exact ⟨rfl, B2.out.drew⟩
    · refine ⟨t, fun b w h => ?_⟩
      have H := Lib.hid h
      clear h
      have j0 : ((j : Int) == 0) = false := by rw [beq_eq_false_iff_ne]; omega
      have j1 : ((j : Int) == 1) = false := by rw [beq_eq_false_iff_ne]; omega
      go_enter Try.func11, Try.ntmps11
      go_wp2_with fail
      refine (C1.out _ _ H.out).mono ?_
      rintro e w1 ⟨rfl, b1, s1⟩
      have B1 := Lib.hid b1
      clear b1 s1
      go_wp2_with fail
      go_ret
      exact ⟨rfl, B1.out⟩
end Go.Proofs.Ytkfflhhnaohhaaa
