/- The turned board: the program's. No conditions. -/
import Derived.Test.YthbgfkklejnhiaaTurn4
import Derived.Test.YthbgfkklejnhiaaSl4
import Derived.Test.YthbgfkklejnhiaaPosZ
namespace Go.Proofs.Ythbgfkklejnhiaa
open Go.Joins Go.ChangeShapes Go.WideShapes Go.ChangeAt Go.RowKit Go.Deep
set_option linter.unusedVariables false

set_option maxHeartbeats 1000000 in
theorem side0_at (P : Nat) (s c l : Int) (st sk re fe ag : Bool) (g o : Nat) (p2 : Option Addr) (pc1 pn2 pc2 : Nat) (pp : Int) (w : World) (hP : 2 ≤ P) (hP2 : P ≤ 8) (hc : 2 * P ≤ pc1) :
    Calls Try.prog 92 #[.agg #[.slice (some ⟨g, o, none⟩) (2 * P) pc1, .slice p2 pn2 pc2, .int .i64 pp], .agg #[.int .i64 P, .int .i64 s, .bool st, .bool sk, .bool re, .bool fe, .bool ag, .int .i64 c, .int .i64 l], .int .i64 0] w
      fun e w' => e = .returned (.slice (some ⟨g, o, none⟩) P (pc1)) ∧ Below w.heap.size w w' := by
  have BB := Lib.hid (((Below.refl w.heap.size w).alloc (Nat.le_refl _) (.cells #[.slice (some ⟨g, o, none⟩) (2 * P) pc1, .slice p2 pn2 pc2, .int .i64 pp] 28)).alloc (by simp) (.cells #[.int .i64 P, .int .i64 s, .bool st, .bool sk, .bool re, .bool fe, .bool ag, .int .i64 c, .int .i64 l] 25))
  have HE : Hid (2 * P - P = P) := Lib.hid (by omega)
  go_enter Try.func92, Try.ntmps92
  go_wp2
  go_ret
  refine ⟨?_, BB.out⟩
  first
  | rfl
  | (show Ending.returned (.slice (some ⟨g, o + P, none⟩) (2 * P - P) (pc1 - P)) = _
     rw [HE.out])
set_option maxHeartbeats 1000000 in
theorem side1_at (P : Nat) (s c l : Int) (st sk re fe ag : Bool) (g o : Nat) (p2 : Option Addr) (pc1 pn2 pc2 : Nat) (pp : Int) (w : World) (hP : 2 ≤ P) (hP2 : P ≤ 8) (hc : 2 * P ≤ pc1) :
    Calls Try.prog 92 #[.agg #[.slice (some ⟨g, o, none⟩) (2 * P) pc1, .slice p2 pn2 pc2, .int .i64 pp], .agg #[.int .i64 P, .int .i64 s, .bool st, .bool sk, .bool re, .bool fe, .bool ag, .int .i64 c, .int .i64 l], .int .i64 1] w
      fun e w' => e = .returned (.slice (some ⟨g, o + P, none⟩) P (pc1 - P)) ∧ Below w.heap.size w w' := by
  have BB := Lib.hid (((Below.refl w.heap.size w).alloc (Nat.le_refl _) (.cells #[.slice (some ⟨g, o, none⟩) (2 * P) pc1, .slice p2 pn2 pc2, .int .i64 pp] 28)).alloc (by simp) (.cells #[.int .i64 P, .int .i64 s, .bool st, .bool sk, .bool re, .bool fe, .bool ag, .int .i64 c, .int .i64 l] 25))
  have HE : Hid (2 * P - P = P) := Lib.hid (by omega)
  go_enter Try.func92, Try.ntmps92
  go_wp2
  go_ret
  refine ⟨?_, BB.out⟩
  first
  | rfl
  | (show Ending.returned (.slice (some ⟨g, o + P, none⟩) (2 * P - P) (pc1 - P)) = _
     rw [HE.out])
set_option maxHeartbeats 8000000 in
set_option maxRecDepth 100000 in
theorem implTurn_yes (P : Nat) (s c l : Int) (st sk re fe ag : Bool) (g o g2 o2 pc1 pc2 : Nat) (pp : Int) (xs : List Int) (y0 y1 : Int) (w : World) (h : PosR w (some ⟨g, o, none⟩) (some ⟨g2, o2, none⟩) (2 * P) 2 xs [y0, y1]) (hP : 2 ≤ P) (hP2 : P ≤ 8) (hc1 : 2 * P ≤ pc1) (h0 : 0 ≤ pp) (h1 : pp ≤ 1) (hk : okP (okR P s c l st ag) P (2 * P) 2 pp xs [y0, y1] = true) :
    Calls Try.prog 79 #[.agg #[.int .i64 P, .int .i64 s, .bool st, .bool sk, .bool re, .bool fe, .bool ag, .int .i64 c, .int .i64 l], .agg #[.slice (some ⟨g, o, none⟩) (2 * P) pc1, .slice (some ⟨g2, o2, none⟩) 2 pc2, .int .i64 pp]] w (PosZ (2 * P) 2 (1 - pp) 0 (turnL P xs) [y1, y0] w) := by
  have hlen : xs.length = 2 * P := h.l1
  have hne : xs ≠ [] := by intro e; rw [e] at hlen; simp at hlen; omega
  have H := Lib.hid h
  have R1 := Lib.hid h.r1
  obtain ⟨g', o', he', hg, hx⟩ := h.r1.2.resolve_left hne
  cases he'
  obtain ⟨g2', o2', he', hg2, hy⟩ := h.r2.2.resolve_left (by simp)
  cases he'
  have s0 := hy 0 y0 rfl
  have s1 := hy 1 y1 rfl
  rw [Nat.add_zero] at s0
  have HRd : Hid (∀ u : World, Below w.heap.size w u → RowN u (some ⟨g, o + P, none⟩) (xs.drop P)) := Lib.hid (fun u hb => by
    have := R1.out.part hne P P
    rw [List.take_of_length_le (by rw [List.length_drop]; omega)] at this
    exact this.below hb)
  have HRt : Hid (∀ u : World, Below w.heap.size w u → RowN u (some ⟨g, o, none⟩) (xs.take P)) := Lib.hid (fun u hb => by
    have := R1.out.part hne 0 P
    rw [Nat.add_zero] at this
    exact this.below hb)
  have HLd : Hid ((xs.drop P).length = P) := Lib.hid (by rw [List.length_drop]; omega)
  have HNd : Hid (xs.drop P ≠ []) := Lib.hid (fun e => by have := congrArg List.length e; rw [List.length_drop] at this; simp at this; omega)
  have HLt : Hid ((xs.take P).length = P) := Lib.hid (by rw [List.length_take]; omega)
  have HNt : Hid (xs.take P ≠ []) := Lib.hid (fun e => by have := congrArg List.length e; rw [List.length_take, hlen, List.length_nil] at this; omega)
  have S0 : Hid (∀ u : World, Below w.heap.size w u → u.cell? ⟨g2, o2, none⟩ = some (.int .i64 y0) ∧ u.cell? ⟨g2, o2 + 1, none⟩ = some (.int .i64 y1)) := Lib.hid (fun u hb => ⟨(hb.cell (p := ⟨g2, o2, none⟩) hg2).trans s0, (hb.cell (p := ⟨g2, o2 + 1, none⟩) hg2).trans s1⟩)
  have hs0 := rp_new (P : Int) s c l st sk re fe ag (some ⟨g, o, none⟩) (some ⟨g2, o2, none⟩) (2 * P) pc1 2 pc2 pp w 25 28
  have hz0 := zero_new ((w.alloc (.cells #[.int .i64 P, .int .i64 s, .bool st, .bool sk, .bool re, .bool fe, .bool ag, .int .i64 c, .int .i64 l] 25)).alloc (.cells #[.slice (some ⟨g, o, none⟩) (2 * P) pc1, .slice (some ⟨g2, o2, none⟩) 2 pc2, .int .i64 pp] 28)) 28
  rw [show ((w.alloc (.cells #[.int .i64 P, .int .i64 s, .bool st, .bool sk, .bool re, .bool fe, .bool ag, .int .i64 c, .int .i64 l] 25)).alloc (.cells #[.slice (some ⟨g, o, none⟩) (2 * P) pc1, .slice (some ⟨g2, o2, none⟩) 2 pc2, .int .i64 pp] 28)).heap.size = w.heap.size + 2 by simp] at hz0
  have HS0 := Lib.hid (hs0.below ((Below.refl _ _).alloc (Nat.le_refl _) (.cells #[.slice none 0 0, .slice none 0 0, .int .i64 0] 28)))
  have HZ := Lib.hid hz0
  have Hk := Lib.hid hk
  have i2 : (2 : Nat) ≤ 4 := by omega
  clear hk hz0 hs0 hx hy h hlen hne s0 s1
  go_enter Try.func79, Try.ntmps79
  go_wp2_with fail
  refine (implValid_b (P : Int) s c l st sk re fe ag (some ⟨g, o, none⟩) (some ⟨g2, o2, none⟩) (2 * P) pc1 2 pc2 pp xs [y0, y1] _ (H.out.below HS0.out.2.2) _ Hk.out).mono ?_
  rintro e u ⟨rfl, hb⟩
  have HS := Lib.hid (HS0.out.below hb)
  have HZ := Lib.hid (HZ.out.below hb)
  have zl3 := HZ.out.lt
  clear hb
  go_wp2_with fail
  have hw1 : IntKind.i64.wrap (1 - pp) = 1 - pp := IntWalk.i64_in _ ⟨by omega, by omega⟩
  have HT : Hid (∀ u : World, RpAt w (P : Int) s c l st sk re fe ag (some ⟨g, o, none⟩) (some ⟨g2, o2, none⟩) (2 * P) pc1 2 pc2 pp u → (w.heap.size < u.heap.size ∧ u.cell? ⟨w.heap.size, 0, none⟩ = some (.int .i64 P) ∧ u.cell? ⟨w.heap.size, 1, none⟩ = some (.int .i64 s) ∧ u.cell? ⟨w.heap.size, 2, none⟩ = some (.bool st) ∧ u.cell? ⟨w.heap.size, 3, none⟩ = some (.bool sk) ∧ u.cell? ⟨w.heap.size, 4, none⟩ = some (.bool re) ∧ u.cell? ⟨w.heap.size, 5, none⟩ = some (.bool fe) ∧ u.cell? ⟨w.heap.size, 6, none⟩ = some (.bool ag) ∧ u.cell? ⟨w.heap.size, 7, none⟩ = some (.int .i64 c) ∧ u.cell? ⟨w.heap.size, 8, none⟩ = some (.int .i64 l)) ∧ (w.heap.size + 1 < u.heap.size ∧ u.cell? ⟨w.heap.size + 1, 0, none⟩ = some (.slice (some ⟨g, o, none⟩) (2 * P) pc1) ∧ u.cell? ⟨w.heap.size + 1, 1, none⟩ = some (.slice (some ⟨g2, o2, none⟩) 2 pc2) ∧ u.cell? ⟨w.heap.size + 1, 2, none⟩ = some (.int .i64 pp)) ∧ u.cell? ⟨g2, o2, none⟩ = some (.int .i64 y0) ∧ u.cell? ⟨g2, o2 + 1, none⟩ = some (.int .i64 y1) ∧ Below w.heap.size w u) := Lib.hid (fun u hb => ⟨hb.1, hb.2.1, (S0.out u hb.2.2).1, (S0.out u hb.2.2).2, hb.2.2⟩)
  go_region_held3 (fun u => (w.heap.size < u.heap.size ∧ u.cell? ⟨w.heap.size, 0, none⟩ = some (.int .i64 P) ∧ u.cell? ⟨w.heap.size, 1, none⟩ = some (.int .i64 s) ∧ u.cell? ⟨w.heap.size, 2, none⟩ = some (.bool st) ∧ u.cell? ⟨w.heap.size, 3, none⟩ = some (.bool sk) ∧ u.cell? ⟨w.heap.size, 4, none⟩ = some (.bool re) ∧ u.cell? ⟨w.heap.size, 5, none⟩ = some (.bool fe) ∧ u.cell? ⟨w.heap.size, 6, none⟩ = some (.bool ag) ∧ u.cell? ⟨w.heap.size, 7, none⟩ = some (.int .i64 c) ∧ u.cell? ⟨w.heap.size, 8, none⟩ = some (.int .i64 l)) ∧ (w.heap.size + 1 < u.heap.size ∧ u.cell? ⟨w.heap.size + 1, 0, none⟩ = some (.slice (some ⟨g, o, none⟩) (2 * P) pc1) ∧ u.cell? ⟨w.heap.size + 1, 1, none⟩ = some (.slice (some ⟨g2, o2, none⟩) 2 pc2) ∧ u.cell? ⟨w.heap.size + 1, 2, none⟩ = some (.int .i64 pp)) ∧ u.cell? ⟨g2, o2, none⟩ = some (.int .i64 y0) ∧ u.cell? ⟨g2, o2 + 1, none⟩ = some (.int .i64 y1) ∧ Below w.heap.size w u) (first | exact HT.out _ HS.out | exact HT.out _ HS.out.drew | exact HT.out _ (HS.out.below (al1 _ _)) | exact HT.out _ (HS.out.below (al2 _ _ _)) | exact HT.out _ (HS.out.drew.below (al1 _ _)) | exact HT.out _ (HS.out.set3z _ _ _) | exact HT.out _ ((HS.out.set3z _ _ _).below (al1 _ _)))
    (first
    | (go_at_call 92; (with_reducible refine (side1_at P s c l st sk re fe ag g o (some ⟨g2, o2, none⟩) pc1 2 pc2 pp _ hP hP2 hc1).mono ?_); rintro e w3 ⟨rfl, hb5⟩; (have HS := Lib.hid (show RpAt w (P : Int) s c l st sk re fe ag (some ⟨g, o, none⟩) (some ⟨g2, o2, none⟩) (2 * P) pc1 2 pc2 pp w3 from by first | exact HS.out.below hb5 | exact HS.out.drew.below hb5 | exact (HS.out.below (al1 _ _)).below hb5 | exact (HS.out.drew.below (al1 _ _)).below hb5)); (have HZ := Lib.hid (show ZeroP w3 (w.heap.size + 2) from by first | exact HZ.out.below hb5 | exact HZ.out.drew.below hb5 | exact (HZ.out.alloc _).below hb5 | exact (HZ.out.drew.alloc _).below hb5)); (first | have H27 := Lib.hid (H27.out.below hb5) | have H27 := Lib.hid ((H27.out.drewN 1).below hb5) | have H27 := Lib.hid ((out_two _ y1 y0 2).below hb5) | have H27 := Lib.hid (((out_two _ y1 y0 2).drewN 1).below hb5) | skip); (first | (have hl27 := (H27.out.free (by simp)).1) | skip); have zl4 := HZ.out.lt; clear hb5)
    | (go_at_call 92; (with_reducible refine (side0_at P s c l st sk re fe ag g o (some ⟨g2, o2, none⟩) pc1 2 pc2 pp _ hP hP2 hc1).mono ?_); rintro e w4 ⟨rfl, hb5⟩; (have HS := Lib.hid (show RpAt w (P : Int) s c l st sk re fe ag (some ⟨g, o, none⟩) (some ⟨g2, o2, none⟩) (2 * P) pc1 2 pc2 pp w4 from by first | exact HS.out.below hb5 | exact HS.out.drew.below hb5 | exact (HS.out.below (al1 _ _)).below hb5 | exact (HS.out.drew.below (al1 _ _)).below hb5)); (have HZ := Lib.hid (show ZeroP w4 (w.heap.size + 2) from by first | exact HZ.out.below hb5 | exact HZ.out.drew.below hb5 | exact (HZ.out.alloc _).below hb5 | exact (HZ.out.drew.alloc _).below hb5)); (first | have H27 := Lib.hid (H27.out.below hb5) | have H27 := Lib.hid ((H27.out.drewN 1).below hb5) | have H27 := Lib.hid ((out_two _ y1 y0 2).below hb5) | have H27 := Lib.hid (((out_two _ y1 y0 2).drewN 1).below hb5) | skip); (first | (have hl27 := (H27.out.free (by simp)).1) | skip); have zl4 := HZ.out.lt; clear hb5)
    | (go_at_call 91; (with_reducible refine (concat_any _ _ (some ⟨g, o + P, none⟩) (some ⟨g, o, none⟩) (pc1 - P) pc1 P P (xs.drop P) (xs.take P) _ ?_ ?_ ?_ HLd.out HLt.out ?_ ?_ HNd.out HNt.out).mono ?_); (focus (first | (simp; done) | (simp; omega))); (focus go_simp); (focus go_simp); (first | exact HRd.out _ HS.out.2.2 | exact HRd.out _ (HS.out.2.2.alloc HS.out.2.2.size _) | exact HRd.out _ (HS.out.2.2.drew.alloc HS.out.2.2.size _) | exact HRd.out _ ((HS.out.2.2.alloc HS.out.2.2.size _).alloc (Nat.le_trans HS.out.2.2.size (by simp)) _) | exact HRd.out _ ((HS.out.2.2.drew.alloc HS.out.2.2.size _).alloc (Nat.le_trans HS.out.2.2.size (by simp)) _)); (first | exact HRt.out _ HS.out.2.2 | exact HRt.out _ (HS.out.2.2.alloc HS.out.2.2.size _) | exact HRt.out _ (HS.out.2.2.drew.alloc HS.out.2.2.size _) | exact HRt.out _ ((HS.out.2.2.alloc HS.out.2.2.size _).alloc (Nat.le_trans HS.out.2.2.size (by simp)) _) | exact HRt.out _ ((HS.out.2.2.drew.alloc HS.out.2.2.size _).alloc (Nat.le_trans HS.out.2.2.size (by simp)) _)); rintro e w6 ⟨v6, rfl, ho6, hb6⟩; have zl5 := HZ.out.lt; (have HS := Lib.hid (show RpAt w (P : Int) s c l st sk re fe ag (some ⟨g, o, none⟩) (some ⟨g2, o2, none⟩) (2 * P) pc1 2 pc2 pp w6 from by first | exact (HS.out.below (al1 _ _)).below hb6 | exact (HS.out.below (al2 _ _ _)).below hb6)); (have HZ := Lib.hid (show ZeroP w6 (w.heap.size + 2) from by first | exact (HZ.out.alloc _).below hb6 | exact ((HZ.out.alloc _).alloc _).below hb6)); (first | have H27 := Lib.hid ((H27.out.alloc _).below hb6) | have H27 := Lib.hid (((out_two _ y1 y0 2).alloc _).below hb6) | have H27 := Lib.hid ((out_two _ y1 y0 2).below hb6) | skip); (obtain ⟨c6, b6, rfl, o6, hlt6, hc6⟩ := outN_own ho6 (by rw [List.length_append, HLd.out, HLt.out]) (by omega) (fun e => HNd.out (List.append_eq_nil_iff.1 e).1)); (have O6 := Lib.hid o6); (obtain ⟨zl, z0, z1, z2, zf⟩ := HZ.out); have f0 := zf 0; have f1 := zf 1; have f2 := zf 2; clear hb6 ho6 o6 zf))
  all_goals go_wp2_with fail
  · have hn6 := O6.out.new
    simp at hn6
    have hp6 : b6 ≠ w.heap.size + 1 + 1 := by omega
    have HE := Lib.hid (show P + P = 2 * P by omega)
    have oo := out_two (((w6.setCell ⟨w.heap.size + 1 + 1, 0, none⟩ (.slice (some ⟨b6, 0, none⟩) (P + P) c6)).setCell ⟨w.heap.size + 1 + 1, 1, none⟩ (.slice (some ⟨w6.heap.size, 0, none⟩) 2 2)).setCell ⟨w.heap.size + 1 + 1, 2, none⟩ (.int .i64 (1 - pp))) y1 y0 2
    rw [show ((((w6.setCell ⟨w.heap.size + 1 + 1, 0, none⟩ (.slice (some ⟨b6, 0, none⟩) (P + P) c6)).setCell ⟨w.heap.size + 1 + 1, 1, none⟩ (.slice (some ⟨w6.heap.size, 0, none⟩) 2 2)).setCell ⟨w.heap.size + 1 + 1, 2, none⟩ (.int .i64 (1 - pp)))).heap.size = w6.heap.size by simp] at oo
    refine bodyPost_ret (v := .tuple #[.agg #[.slice (some ⟨b6, 0, none⟩) (P + P) c6, .slice (some ⟨w6.heap.size, 0, none⟩) 2 2, .int .i64 (1 - pp)], .int .i64 0]) (by simp [results, Try.results79, go_sem, z0, z1, z2, zl]) rfl ⟨some ⟨b6, 0, none⟩, c6, b6, some ⟨w6.heap.size, 0, none⟩, 2, w6.heap.size, by rw [HE.out], ⟨((((O6.out.setCell hp6 _).setCell hp6 _).setCell hp6 _).alloc _).lower (by simp; omega), oo.lower (by omega), by omega, turnL_len H.out.l1, rfl⟩, by simp; omega, by simp, by omega, Nat.le_refl _, (HS.out.set3z _ _ _).2.2.alloc (HS.out.set3z _ _ _).2.2.size _⟩
  · have hn6 := O6.out.new
    simp at hn6
    have hp6 : b6 ≠ w.heap.size + 1 + 1 := by omega
    have HE := Lib.hid (show P + P = 2 * P by omega)
    have h27 := H27.out
    try simp only [show ∀ o, (w4.alloc o).heap.size = w4.heap.size + 1 from fun o => by simp] at h27
    have l27 := (h27.free (by simp)).1
    have n27 := h27.new
    simp at l27 n27
    have hp27 : w4.heap.size + 1 ≠ w.heap.size + 1 + 1 := by omega
    refine bodyPost_ret (v := .tuple #[.agg #[.slice (some ⟨b6, 0, none⟩) (P + P) c6, .slice (some ⟨w4.heap.size + 1, 0, none⟩) 2 2, .int .i64 (1 - pp)], .int .i64 0]) (by simp [results, Try.results79, go_sem, z0, z1, z2]) rfl ⟨some ⟨b6, 0, none⟩, c6, b6, some ⟨w4.heap.size + 1, 0, none⟩, 2, w4.heap.size + 1, by rw [HE.out], ⟨(((O6.out.setCell hp6 _).setCell hp6 _).setCell hp6 _).lower (by simp; omega), (((h27.setCell hp27 _).setCell hp27 _).setCell hp27 _).lower (by first | omega | (simp; omega)), by omega, turnL_len H.out.l1, rfl⟩, by simp; omega, by simp; omega, by omega, Nat.le_refl _, (HS.out.set3z _ _ _).2.2⟩
  · have hn6 := O6.out.new
    simp at hn6
    have hp6 : b6 ≠ w.heap.size + 1 + 1 := by omega
    have HE := Lib.hid (show P + P = 2 * P by omega)
    have h27 := H27.out
    try simp only [show ∀ o, (w4.alloc o).heap.size = w4.heap.size + 1 from fun o => by simp] at h27
    have l27 := (h27.free (by simp)).1
    have n27 := h27.new
    simp at l27 n27
    have hp27 : w4.heap.size ≠ w.heap.size + 1 + 1 := by omega
    refine bodyPost_ret (v := .tuple #[.agg #[.slice (some ⟨b6, 0, none⟩) (P + P) c6, .slice (some ⟨w4.heap.size, 0, none⟩) 2 2, .int .i64 (1 - pp)], .int .i64 0]) (by simp [results, Try.results79, go_sem, z0, z1, z2]) rfl ⟨some ⟨b6, 0, none⟩, c6, b6, some ⟨w4.heap.size, 0, none⟩, 2, w4.heap.size, by rw [HE.out], ⟨(((O6.out.setCell hp6 _).setCell hp6 _).setCell hp6 _).lower (by simp; omega), (((h27.setCell hp27 _).setCell hp27 _).setCell hp27 _).lower (by first | omega | (simp; omega)), by omega, turnL_len H.out.l1, rfl⟩, by simp; omega, by simp; omega, by omega, Nat.le_refl _, (HS.out.set3z _ _ _).2.2⟩
  · have hn6 := O6.out.new
    simp at hn6
    have hp6 : b6 ≠ w.heap.size + 1 + 1 := by omega
    have HE := Lib.hid (show P + P = 2 * P by omega)
    have h27 := H27.out
    try simp only [show ∀ o, (w4.alloc o).heap.size = w4.heap.size + 1 from fun o => by simp] at h27
    have l27 := (h27.free (by simp)).1
    have n27 := h27.new
    simp at l27 n27
    have hp27 : w3.heap.size ≠ w.heap.size + 1 + 1 := by omega
    refine bodyPost_ret (v := .tuple #[.agg #[.slice (some ⟨b6, 0, none⟩) (P + P) c6, .slice (some ⟨w3.heap.size, 0, none⟩) 2 2, .int .i64 (1 - pp)], .int .i64 0]) (by simp [results, Try.results79, go_sem, z0, z1, z2]) rfl ⟨some ⟨b6, 0, none⟩, c6, b6, some ⟨w3.heap.size, 0, none⟩, 2, w3.heap.size, by rw [HE.out], ⟨(((O6.out.setCell hp6 _).setCell hp6 _).setCell hp6 _).lower (by simp; omega), (((h27.setCell hp27 _).setCell hp27 _).setCell hp27 _).lower (by first | omega | (simp; omega)), by omega, turnL_len H.out.l1, rfl⟩, by simp; omega, by simp; omega, by omega, Nat.le_refl _, (HS.out.set3z _ _ _).2.2⟩
  · have hn6 := O6.out.new
    simp at hn6
    have hp6 : b6 ≠ w.heap.size + 1 + 1 := by omega
    have HE := Lib.hid (show P + P = 2 * P by omega)
    have h27 := H27.out
    try simp only [show ∀ o, (w4.alloc o).heap.size = w4.heap.size + 1 from fun o => by simp] at h27
    have l27 := (h27.free (by simp)).1
    have n27 := h27.new
    simp at l27 n27
    have hp27 : u.heap.size ≠ w.heap.size + 1 + 1 := by omega
    refine bodyPost_ret (v := .tuple #[.agg #[.slice (some ⟨b6, 0, none⟩) (P + P) c6, .slice (some ⟨u.heap.size, 0, none⟩) 2 2, .int .i64 (1 - pp)], .int .i64 0]) (by simp [results, Try.results79, go_sem, z0, z1, z2]) rfl ⟨some ⟨b6, 0, none⟩, c6, b6, some ⟨u.heap.size, 0, none⟩, 2, u.heap.size, by rw [HE.out], ⟨(((O6.out.setCell hp6 _).setCell hp6 _).setCell hp6 _).lower (by simp; omega), (((h27.setCell hp27 _).setCell hp27 _).setCell hp27 _).lower (by first | omega | (simp; omega)), by omega, turnL_len H.out.l1, rfl⟩, by simp; omega, by simp; omega, by omega, Nat.le_refl _, (HS.out.set3z _ _ _).2.2⟩
theorem implTurn_no (p s c l : Int) (st sk re fe ag : Bool) (p1 p2 : Option Addr) (pn1 pc1 pn2 pc2 : Nat) (pp : Int) (xs ys : List Int) (w : World) (h : PosR w p1 p2 pn1 pn2 xs ys) (hk : okP (okR p s c l st ag) p pn1 pn2 pp xs ys = false) :
    Calls Try.prog 79 #[.agg #[.int .i64 p, .int .i64 s, .bool st, .bool sk, .bool re, .bool fe, .bool ag, .int .i64 c, .int .i64 l], .agg #[.slice p1 pn1 pc1, .slice p2 pn2 pc2, .int .i64 pp]] w (PosZ 0 0 0 1 [] [] w) := by
  have H := Lib.hid h
  have HS := Lib.hid ((rp_new p s c l st sk re fe ag p1 p2 pn1 pc1 pn2 pc2 pp w 25 28).below (al1 _ (.cells #[.slice none 0 0, .slice none 0 0, .int .i64 0] 28)))
  have HZ := Lib.hid (zero_at2 p s c l st sk re fe ag p1 p2 pn1 pc1 pn2 pc2 pp w 25 28 28)
  have Hk := Lib.hid hk
  clear h hk
  go_enter Try.func79, Try.ntmps79
  go_wp2_with fail
  refine (implValid_b p s c l st sk re fe ag p1 p2 pn1 pc1 pn2 pc2 pp xs ys _ (H.out.below HS.out.2.2) _ Hk.out).mono ?_
  rintro e u ⟨rfl, hb⟩
  have HS := Lib.hid (HS.out.below hb)
  obtain ⟨zl, z0, z1, z2, zf⟩ := HZ.out.below hb
  have f0 := zf 0
  have f1 := zf 1
  have f2 := zf 2
  clear hb zf
  go_wp2_with fail
  refine bodyPost_ret (v := .tuple #[.agg #[.slice none 0 0, .slice none 0 0, .int .i64 0], .int .i64 1]) (by simp [results, Try.results79, go_sem, z0, z1, z2]) rfl ?_
  exact posZ_zero 1 (HS.out.set3z _ _ _).2.2 (by simp; omega)
theorem specTurn_no (p s c l : Int) (st sk re fe ag : Bool) (p1 p2 : Option Addr) (pn1 pc1 pn2 pc2 : Nat) (pp : Int) (xs ys : List Int) (w : World) (h : PosR w p1 p2 pn1 pn2 xs ys) (hk : okP (okR p s c l st ag) p pn1 pn2 pp xs ys = false) :
    Calls Try.prog 24 #[.agg #[.int .i64 p, .int .i64 s, .bool st, .bool sk, .bool re, .bool fe, .bool ag, .int .i64 c, .int .i64 l], .agg #[.slice p1 pn1 pc1, .slice p2 pn2 pc2, .int .i64 pp]] w (PosZ 0 0 0 1 [] [] w) := by
  have H := Lib.hid h
  have HS := Lib.hid ((rp_new p s c l st sk re fe ag p1 p2 pn1 pc1 pn2 pc2 pp w 25 28).below (al1 _ (.cells #[.slice none 0 0, .slice none 0 0, .int .i64 0] 28)))
  have HZ := Lib.hid (zero_at2 p s c l st sk re fe ag p1 p2 pn1 pc1 pn2 pc2 pp w 25 28 28)
  have Hk := Lib.hid hk
  clear h hk
  go_enter Try.func24, Try.ntmps24
  go_wp2_with fail
  refine (l04Ok_at p s c l st sk re fe ag p1 p2 pn1 pc1 pn2 pc2 pp xs ys _ _ _ HS.out.1 HS.out.2.1 (H.out.below HS.out.2.2) _ Hk.out).mono ?_
  rintro e u ⟨rfl, m, rfl⟩
  have HS := Lib.hid (HS.out.drewN m)
  obtain ⟨zl, z0, z1, z2, zf⟩ := HZ.out.below (below_dn (Below.refl _ _) m)
  have f0 := zf 0
  have f1 := zf 1
  have f2 := zf 2
  clear zf
  go_wp2_with fail
  refine bodyPost_ret (v := .tuple #[.agg #[.slice none 0 0, .slice none 0 0, .int .i64 0], .int .i64 1]) (by simp [results, Try.results24, go_sem, z0, z1, z2]) rfl ?_
  exact posZ_zero 1 (HS.out.set3z _ _ _).2.2 (by simp)
set_option maxHeartbeats 2000000 in
theorem specTurn_yes (P : Nat) (s c l : Int) (st sk re fe ag : Bool) (p1 p2 : Option Addr) (pn1 pc1 pn2 pc2 : Nat) (pp : Int) (xs : List Int) (y0 y1 : Int) (w : World) (h : PosR w p1 p2 pn1 pn2 xs [y0, y1]) (hP : 2 ≤ P) (hP2 : P ≤ 8) (hn : pn1 = 2 * P) (h2 : pn2 = 2) (hc1 : pn1 ≤ pc1) (h0 : 0 ≤ pp) (h1 : pp ≤ 1) (hk : okP (okR (P : Int) s c l st ag) (P : Int) pn1 pn2 pp xs [y0, y1] = true) :
    Calls Try.prog 24 #[.agg #[.int .i64 P, .int .i64 s, .bool st, .bool sk, .bool re, .bool fe, .bool ag, .int .i64 c, .int .i64 l], .agg #[.slice p1 pn1 pc1, .slice p2 pn2 pc2, .int .i64 pp]] w (PosZ (2 * P) 2 (1 - pp) 0 (turnL P xs) [y1, y0] w) := by
  subst hn
  subst h2
  have H := Lib.hid h
  have HS := Lib.hid ((rp_new (P : Int) s c l st sk re fe ag p1 p2 (2 * P) pc1 2 pc2 pp w 25 28).below (al1 _ (.cells #[.slice none 0 0, .slice none 0 0, .int .i64 0] 28)))
  have HZ := Lib.hid (zero_at2 (P : Int) s c l st sk re fe ag p1 p2 (2 * P) pc1 2 pc2 pp w 25 28 28)
  have Hk := Lib.hid hk
  clear h hk
  go_enter Try.func24, Try.ntmps24
  go_wp2_with fail
  refine (l04Ok_at (P : Int) s c l st sk re fe ag p1 p2 (2 * P) pc1 2 pc2 pp xs [y0, y1] _ _ _ HS.out.1 HS.out.2.1 (H.out.below HS.out.2.2) _ Hk.out).mono ?_
  rintro e u ⟨rfl, m, rfl⟩
  have HS := Lib.hid (HS.out.drewN m)
  have HZ := Lib.hid (HZ.out.below (below_dn (Below.refl _ _) m))
  go_wp2_with fail
  refine (l04Turn_any P s c l st sk re fe ag p1 p2 (2 * P) pc1 2 pc2 pp xs y0 y1 _ _ _ HS.out.1 HS.out.2.1 (H.out.below HS.out.2.2) hP hP2 rfl rfl hc1 h0 h1).mono ?_
  rintro e v ⟨g1, c1, g2, c2, rfl, ho, l1, l2, k1, k2, hb⟩
  have HS := Lib.hid (HS.out.below hb)
  have zl0 := HZ.out.lt
  obtain ⟨zl, z0, z1, z2, zf⟩ := HZ.out.below hb
  have f0 := zf 0
  have f1 := zf 1
  have f2 := zf 2
  have HO := Lib.hid ho
  have n1 := ho.o1.new
  have n2 := ho.o2.new
  clear zf hb ho
  go_wp2_with fail
  refine bodyPost_ret (v := .tuple #[.agg #[.slice (some ⟨g1, 0, none⟩) (2 * P) c1, .slice (some ⟨g2, 0, none⟩) 2 c2, .int .i64 (1 - pp)], .int .i64 0]) (by simp [results, Try.results24, go_sem, z0, z1, z2]) rfl ?_
  exact posZ_of 0 (HO.out.set3 _ _ _ (by omega) (by omega)) (by simp; omega) (by simpa using l1) (by simpa using l2) k1 k2 (HS.out.set3z _ _ _).2.2
end Go.Proofs.Ythbgfkklejnhiaa
