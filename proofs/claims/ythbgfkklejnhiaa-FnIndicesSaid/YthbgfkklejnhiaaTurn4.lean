/- The turned board: the reference's. No conditions. -/
import Derived.Test.YthbgfkklejnhiaaOwn4
import Derived.Test.YthbgfkklejnhiaaSpec4
import Derived.Test.YthbgfkklejnhiaaSide4
import Derived.Deep.RegionHeld3
import Derived.Deep.AppendLies
import Derived.IntWalk
namespace Go.Proofs.Ythbgfkklejnhiaa
open Go.Joins Go.ChangeShapes Go.WideShapes Go.ChangeAt Go.RowKit Go.Deep
set_option linter.unusedVariables false

/-- The pits of the turned board. -/
def turnL (P : Nat) (xs : List Int) : List Int := xs.drop P ++ xs.take P
theorem turnL_len {P : Nat} {xs : List Int} (h : xs.length = 2 * P) : (turnL P xs).length = 2 * P := by
  unfold turnL
  rw [List.length_append, List.length_drop, List.length_take]
  omega
theorem two_of {ys : List Int} (h : ys.length = 2) : ∃ a b, ys = [a, b] := by
  match ys, h with
  | [a, b], _ => exact ⟨a, b, rfl⟩

set_option maxHeartbeats 4000000 in
set_option maxRecDepth 100000 in
theorem l04Turn_any (P : Nat) (s c l : Int) (st sk re fe ag : Bool) (p1 p2 : Option Addr) (pn1 pc1 pn2 pc2 : Nat) (pp : Int) (xs : List Int) (y0 y1 : Int) (b d : Nat) (w : World) (hr : RuAt w b (P : Int) s c l st sk re fe ag) (hp : PoAt w d p1 p2 pn1 pc1 pn2 pc2 pp) (h : PosR w p1 p2 pn1 pn2 xs [y0, y1]) (hP : 2 ≤ P) (hP2 : P ≤ 8) (hn : pn1 = 2 * P) (h2 : pn2 = 2) (hc1 : pn1 ≤ pc1) (h0 : 0 ≤ pp) (h1 : pp ≤ 1) :
    Calls Try.prog 57 #[.pointer (some ⟨b, 0, none⟩), .pointer (some ⟨d, 0, none⟩)] w (PosQ (2 * P) 2 (1 - pp) (turnL P xs) [y1, y0] w) := by
  subst hn
  subst h2
  obtain ⟨i0, hi, hz0, hz1, hz2⟩ := info_parts infoN
  have hlen : xs.length = 2 * P := h.l1
  have hne : xs ≠ [] := by intro e; rw [e] at hlen; simp at hlen; omega
  obtain ⟨g, o, rfl, hg, hx⟩ := h.r1.2.resolve_left hne
  obtain ⟨g2, o2, rfl, hg2, hy⟩ := h.r2.2.resolve_left (by simp)
  have R1 := Lib.hid h.r1
  have s0 := hy 0 y0 rfl
  have s1 := hy 1 y1 rfl
  rw [Nat.add_zero] at s0
  obtain ⟨hrb, r0, -, -, -, -, -, -, -, -⟩ := hr
  obtain ⟨hpd, k0, k1, k2⟩ := hp
  have D1 := Lib.hid (R1.out.part hne P P)
  have T1 := Lib.hid (R1.out.part hne 0 P)
  have e1 : 2 * P - P = P := by omega
  have Hne := Lib.hid hne
  have Hlen := Lib.hid hlen
  have HD : Hid ((xs.drop P).take P = xs.drop P) := Lib.hid (List.take_of_length_le (by rw [List.length_drop]; omega))
  have HT : Hid (∀ u : World, Below w.heap.size w u → (u.cell? ⟨b, 0, none⟩ = some (.int .i64 P) ∧ u.cell? ⟨d, 0, none⟩ = some (.slice (some ⟨g, o, none⟩) (2 * P) pc1) ∧ u.cell? ⟨d, 1, none⟩ = some (.slice (some ⟨g2, o2, none⟩) 2 pc2) ∧ u.cell? ⟨d, 2, none⟩ = some (.int .i64 pp) ∧ u.cell? ⟨g2, o2, none⟩ = some (.int .i64 y0) ∧ u.cell? ⟨g2, o2 + 1, none⟩ = some (.int .i64 y1) ∧ Below w.heap.size w u)) := Lib.hid (fun u hb => ⟨(hb.cell (p := ⟨b, 0, none⟩) hrb).trans r0, (hb.cell (p := ⟨d, 0, none⟩) hpd).trans k0, (hb.cell (p := ⟨d, 1, none⟩) hpd).trans k1, (hb.cell (p := ⟨d, 2, none⟩) hpd).trans k2, (hb.cell (p := ⟨g2, o2, none⟩) hg2).trans s0, (hb.cell (p := ⟨g2, o2 + 1, none⟩) hg2).trans s1, hb⟩)
  have HB := Lib.hid ((Below.refl w.heap.size w).alloc (Nat.le_refl _) (.cells #[.slice none 0 0, .slice none 0 0, .int .i64 0] 28))
  have a0 : (0 : Int) ≤ (P : Int) := by omega
  have a1 : (P : Int) ≤ ((2 * P : Nat) : Int) := by omega
  have a2 : ((2 * P : Nat) : Int) ≤ (pc1 : Int) := by omega
  have a3 : (P : Int) ≤ 2 * (P : Int) := by omega
  have a4 : (P : Int) ≤ (pc1 : Int) := by omega
  have a5 : ¬ pc1 = P := by omega
  have HLd : Hid ((xs.drop P).length = P) := Lib.hid (by rw [List.length_drop]; omega)
  have HNd : Hid (xs.drop P ≠ []) := Lib.hid (fun e => by have := congrArg List.length e; rw [List.length_drop] at this; simp at this; omega)
  have HLt : Hid ((xs.take P).length = P) := Lib.hid (by rw [List.length_take]; omega)
  have HRd : Hid (∀ u : World, Below w.heap.size w u → RowN u (some ⟨g, o + P, none⟩) (xs.drop P)) := Lib.hid (fun u hb => by
    have := D1.out
    rw [HD.out] at this
    exact this.below hb)
  have HRt : Hid (∀ u : World, Below w.heap.size w u → RowN u (some ⟨g, o, none⟩) (xs.take P)) := Lib.hid (fun u hb => by
    have := T1.out
    rw [Nat.add_zero] at this
    exact this.below hb)
  clear hx hy h hne hlen r0 k0 k1 k2 s0 s1
  go_enter Try.func57, Try.ntmps57
  go_wp2_with fail
  go_region_held3 (fun u => u.cell? ⟨b, 0, none⟩ = some (.int .i64 P) ∧ u.cell? ⟨d, 0, none⟩ = some (.slice (some ⟨g, o, none⟩) (2 * P) pc1) ∧ u.cell? ⟨d, 1, none⟩ = some (.slice (some ⟨g2, o2, none⟩) 2 pc2) ∧ u.cell? ⟨d, 2, none⟩ = some (.int .i64 pp) ∧ u.cell? ⟨g2, o2, none⟩ = some (.int .i64 y0) ∧ u.cell? ⟨g2, o2 + 1, none⟩ = some (.int .i64 y1) ∧ Below w.heap.size w u) (first | exact HT.out _ HB.out | exact HT.out _ HB.out.drew)
    (first
    | (go_at_call 84; refine (l00Own_any _ _ P (xs.drop P) _ HLd.out (HRd.out _ (by first | exact HB.out | exact HB.out.drew)) HNd.out).mono ?_; rintro e w5 ⟨v1, rfl, hown, hb5⟩; have HO := Lib.hid (own_lower hown (C := w.heap.size + 1) (by simp)); have hz5 : w.heap.size + 1 ≤ w5.heap.size := Nat.le_trans (by simp) hb5.size; have HZ := Lib.hid ((zero_new w 28).drew.below hb5); have HB := Lib.hid (show Below w.heap.size w w5 from by first | exact HB.out.trans (hb5.mono HB.out.size) | exact HB.out.drew.trans (hb5.mono HB.out.drew.size)); clear hown hb5))
  have hz6 : w.heap.size < w5.heap.size := by omega
  have hw1 : IntKind.i64.wrap (1 - pp) = 1 - pp := IntWalk.i64_in _ ⟨by omega, by omega⟩
  have Hl6 := Lib.hid HO.out.lt
  go_wp2_with fail
  go_region_held3 (fun u => u.cell? ⟨b, 0, none⟩ = some (.int .i64 P) ∧ u.cell? ⟨d, 0, none⟩ = some (.slice (some ⟨g, o, none⟩) (2 * P) pc1) ∧ u.cell? ⟨d, 1, none⟩ = some (.slice (some ⟨g2, o2, none⟩) 2 pc2) ∧ u.cell? ⟨d, 2, none⟩ = some (.int .i64 pp) ∧ u.cell? ⟨g2, o2, none⟩ = some (.int .i64 y0) ∧ u.cell? ⟨g2, o2 + 1, none⟩ = some (.int .i64 y1) ∧ Below w.heap.size w u) (first | exact HT.out _ HB.out | exact HT.out _ HB.out.drew | exact HT.out _ (HB.out.alloc HB.out.size _) | exact HT.out _ (HB.out.alloc HB.out.size _).drew | exact HT.out _ (set3 HB.out _ _ _) | exact HT.out _ ((set3 HB.out _ _ _).alloc (set3 HB.out _ _ _).size _))
    (first
    | (refine step_append_lies _ rfl _ _ 26 rfl (w.heap.size + 1) 2 i0 (.int .i64 0) 1 8 Try.underlying26 hi hz0 hz1 hz2 rfl (by decide) v1 P (nvs (xs.drop P)) rfl (by first | exact HO.out | exact HO.out.drew | exact HO.out.drew.alloc _ | exact HO.out.alloc _) ⟨g, o, none⟩ P pc1 (nvs (xs.take P)) rfl (by rw [nvs_len, HLt.out]; simp) (by first | exact row_news (HRt.out _ HB.out) | exact row_news (HRt.out _ HB.out.drew) | exact row_news (HRt.out _ (HB.out.drew.alloc HB.out.size _))) (nvs_cell _) (by omega) (by unfold maxLen; omega) (by omega) (by simp; omega) _ rfl ?_; intro gg cap w6 hown hgrow hat hlt; (rw [← nvs_app] at hown); have HOut := Lib.hid (outN_at hown (by rw [List.length_append, HLd.out, HLt.out]) (by omega) (fun e => HNd.out (List.append_eq_nil_iff.1 e).1)); have HZ := Lib.hid (show ZeroP w6 w.heap.size from by first | exact HZ.out.drew.grown hgrow (fun k hk => by have := (Hl6.out k hk).1; omega) | exact (HZ.out.drew.alloc _).grown hgrow (fun k hk => by have := (Hl6.out k hk).1; omega)); have HB := Lib.hid (show Below w.heap.size w w6 from by first | exact HB.out.drew.grown hgrow HB.out.size (fun k hk => by have := (Hl6.out k hk).1; omega) | exact (HB.out.drew.alloc HB.out.size _).grown hgrow (by have := HB.out.size; simp; omega) (fun k hk => by have := (Hl6.out k hk).1; omega)); have HG := Lib.hid hgrow; have HAT := Lib.hid hat; (obtain ⟨zl, z0, z1, z2, zf⟩ := HZ.out); have f0 := zf 0; have f1 := zf 1; have f2 := zf 2; clear zf hown hgrow hat hlt))
  · go_wp2_with fail
    have hg1 := HOut.out.1.new
    have hg1 : gg ≠ w.heap.size := by omega
    have hs6 := HB.out.size
    have oo := out_two (((w6.setCell ⟨w.heap.size, 0, none⟩ (.slice (some ⟨gg, 0, none⟩) (P + P) cap)).setCell ⟨w.heap.size, 1, none⟩ (.slice (some ⟨w6.heap.size, 0, none⟩) 2 2)).setCell ⟨w.heap.size, 2, none⟩ (.int .i64 (1 - pp))) y1 y0 2
    have hse : (((w6.setCell ⟨w.heap.size, 0, none⟩ (.slice (some ⟨gg, 0, none⟩) (P + P) cap)).setCell ⟨w.heap.size, 1, none⟩ (.slice (some ⟨w6.heap.size, 0, none⟩) 2 2)).setCell ⟨w.heap.size, 2, none⟩ (.int .i64 (1 - pp))).heap.size = w6.heap.size := by simp
    rw [hse] at oo
    have HE := Lib.hid (show P + P = 2 * P by omega)
    refine bodyPost_ret (v := .agg #[.slice (some ⟨gg, 0, none⟩) (P + P) cap, .slice (some ⟨w6.heap.size, 0, none⟩) 2 2, .int .i64 (1 - pp)]) (by simp [results, Try.results57, go_sem, z0, z1, z2, zl]) rfl ⟨gg, cap, w6.heap.size, 2, by rw [HE.out], ⟨?_, oo.lower hs6, by have := HOut.out.2.1; omega, ?_, rfl⟩, ?_, ?_, ?_, by omega, ?_⟩
    · exact ((((HOut.out.1.setCell hg1 _).setCell hg1 _).setCell hg1 _).alloc _).lower (by omega)
    · exact turnL_len Hlen.out
    · have := HOut.out.2.1
      simp
      omega
    · simp
    · have := HOut.out.2.2
      omega
    · exact (set3 HB.out _ _ _).alloc (set3 HB.out _ _ _).size _
  · go_wp2_with fail
    have hg1 := HOut.out.1.new
    have hg1 : gg ≠ w.heap.size := by omega
    have hs6 := HB.out.size
    have hg5 : w5.heap.size ≠ w.heap.size := by omega
    have hsz := HG.out.size
    simp at hsz
    have oo := ((out_two w5 y1 y0 2).drewN 1).grown HG.out (fun k hk => by have := (Hl6.out k hk).2; omega)
    have hne2 : gg ≠ w5.heap.size := by
      rcases HAT.out with h | h
      · have := (Hl6.out gg h).2
        omega
      · simp at h
        omega
    have HE := Lib.hid (show P + P = 2 * P by omega)
    refine bodyPost_ret (v := .agg #[.slice (some ⟨gg, 0, none⟩) (P + P) cap, .slice (some ⟨w5.heap.size, 0, none⟩) 2 2, .int .i64 (1 - pp)]) (by simp [results, Try.results57, go_sem, z0, z1, z2]) rfl ⟨gg, cap, w5.heap.size, 2, by rw [HE.out], ⟨?_, (((oo.setCell hg5 _).setCell hg5 _).setCell hg5 _).lower (by omega), hne2, ?_, rfl⟩, ?_, ?_, ?_, by omega, ?_⟩
    · exact (((HOut.out.1.setCell hg1 _).setCell hg1 _).setCell hg1 _).lower (by omega)
    · exact turnL_len Hlen.out
    · have := HOut.out.2.1
      simp
      omega
    · simp
      omega
    · have := HOut.out.2.2
      omega
    · exact set3 HB.out _ _ _
end Go.Proofs.Ythbgfkklejnhiaa
