/- The position at the beginning: the reference's and the program's. No conditions. -/
import Derived.Test.YthbkdlidpdliaabStart4
import Derived.Test.YthbkdlidpdliaabRep4
namespace Go.Proofs.Ythbkdlidpdliaab
open Go.Joins Go.ChangeShapes Go.WideShapes Go.ChangeAt Go.RowKit Go.Deep
set_option linter.unusedVariables false

/-- Rules, boxed. -/
def RoAt (w : World) (p s c l : Int) (st sk re fe ag : Bool) (u : World) : Prop := RuAt u w.heap.size p s c l st sk re fe ag ∧ OnW w u
section
variable {w u v : World} {p s c l : Int} {st sk re fe ag : Bool}
theorem RoAt.below (h : RoAt w p s c l st sk re fe ag u) (k : Below u.heap.size u v) : RoAt w p s c l st sk re fe ag v := ⟨h.1.below k, h.2.below k⟩
theorem RoAt.drew (h : RoAt w p s c l st sk re fe ag u) : RoAt w p s c l st sk re fe ag u.drew := ⟨h.1, h.2.drew⟩
theorem RoAt.set3 (h : RoAt w p s c l st sk re fe ag u) {z : Nat} (hz : w.heap.size < z) (x y t : Value) : RoAt w p s c l st sk re fe ag (((u.setCell ⟨z, 0, none⟩ x).setCell ⟨z, 1, none⟩ y).setCell ⟨z, 2, none⟩ t) := by
  have k : But z u (((u.setCell ⟨z, 0, none⟩ x).setCell ⟨z, 1, none⟩ y).setCell ⟨z, 2, none⟩ t) := ((((But.refl z u).setCell (p := ⟨z, 0, none⟩) rfl x).setCell (p := ⟨z, 1, none⟩) rfl y).setCell (p := ⟨z, 2, none⟩) rfl t)
  exact ⟨h.1.but k (by omega), h.2.set3 (by omega) _ _ _⟩
end
theorem ro_new (p s c l : Int) (st sk re fe ag : Bool) (w : World) (T : TypeId) : RoAt w p s c l st sk re fe ag (w.alloc (.cells #[.int .i64 p, .int .i64 s, .bool st, .bool sk, .bool re, .bool fe, .bool ag, .int .i64 c, .int .i64 l] T)) := ⟨ru_new p s c l st sk re fe ag w T, al1 _ _⟩
theorem zero_at1 (p s c l : Int) (st sk re fe ag : Bool) (w : World) (T U : TypeId) : ZeroP ((w.alloc (.cells #[.int .i64 p, .int .i64 s, .bool st, .bool sk, .bool re, .bool fe, .bool ag, .int .i64 c, .int .i64 l] T)).alloc (.cells #[.slice none 0 0, .slice none 0 0, .int .i64 0] U)) (w.heap.size + 1) := by
  have h := zero_new (w.alloc (.cells #[.int .i64 p, .int .i64 s, .bool st, .bool sk, .bool re, .bool fe, .bool ag, .int .i64 c, .int .i64 l] T)) U
  rwa [show (w.alloc (.cells #[.int .i64 p, .int .i64 s, .bool st, .bool sk, .bool re, .bool fe, .bool ag, .int .i64 c, .int .i64 l] T)).heap.size = w.heap.size + 1 by simp] at h

theorem repeat_two (b : Nat) (x : Int) (P : Nat) (w : World) (hb : b < w.heap.size) (hx : w.cell? ⟨b, 0, none⟩ = some (.int .i64 x)) (h1 : 2 ≤ P) (hn : P ≤ 8) :
    Calls Try.prog 65 #[.slice (some ⟨b, 0, none⟩) 1 1, .int .i64 (2 * (P : Int))] w (OwnP (List.replicate (2 * P) x) (2 * P) w) := by
  have h := repeat_any b x (2 * P) w hb hx (by omega) (by omega)
  rwa [show ((2 * P : Nat) : Int) = 2 * (P : Int) by omega] at h
theorem out_made2 (u : World) : OutN (u.alloc (.cells (madeCells #[.int .i64 0] 2) 2)) u.heap.size (some ⟨u.heap.size, 0, none⟩) u.heap.size [0, 0] := by
  have h := out_two u 0 0 2
  have e : madeCells #[Value.int .i64 0] 2 = #[.int .i64 0, .int .i64 0] := by rw [made_list]; rfl
  rw [e]
  exact h
theorem out_cell0 {u : World} {B b : Nat} {x : Int} (h : OutN u B (some ⟨b, 0, none⟩) b [x]) : u.cell? ⟨b, 0, none⟩ = some (.int .i64 x) := by
  obtain ⟨_, h | ⟨g, o, ha, _, hx⟩⟩ := h.row
  · cases h
  · cases ha
    exact hx 0 x rfl
theorem implStart_no (p s c l : Int) (st sk re fe ag : Bool) (w : World) (hk : okR p s c l st ag = false) :
    Calls Try.prog 46 #[.agg #[.int .i64 p, .int .i64 s, .bool st, .bool sk, .bool re, .bool fe, .bool ag, .int .i64 c, .int .i64 l]] w (PosZ 0 0 0 1 [] [] w) := by
  have HS := Lib.hid ((ro_new p s c l st sk re fe ag w 31).below (al1 _ (.cells #[.slice none 0 0, .slice none 0 0, .int .i64 0] 32)))
  have HZ := Lib.hid (zero_at1 p s c l st sk re fe ag w 31 32)
  have Hk := Lib.hid hk
  clear hk
  go_enter Try.func46, Try.ntmps46
  go_wp2_with fail
  refine (valid_b p s c l st sk re fe ag _ Hk.out _).mono ?_
  rintro e u ⟨rfl, hb⟩
  have HS := Lib.hid (HS.out.below hb)
  obtain ⟨zl, z0, z1, z2, zf⟩ := HZ.out.below hb
  have f0 := zf 0
  have f1 := zf 1
  have f2 := zf 2
  clear zf hb
  go_wp2_with fail
  refine bodyPost_ret (v := .tuple #[.agg #[.slice none 0 0, .slice none 0 0, .int .i64 0], .int .i64 1]) (by simp [results, Try.results46, go_sem, z0, z1, z2]) rfl ?_
  exact posZ_zero 1 (HS.out.set3 (z := w.heap.size + 1) (by omega) _ _ _).2 (by simp; omega)
set_option maxHeartbeats 4000000 in
set_option maxRecDepth 100000 in
theorem implStart_yes (P : Nat) (s c l : Int) (st sk re fe ag : Bool) (w : World) (hP : 2 ≤ P) (hP2 : P ≤ 8) (hk : okR (P : Int) s c l st ag = true) :
    Calls Try.prog 46 #[.agg #[.int .i64 P, .int .i64 s, .bool st, .bool sk, .bool re, .bool fe, .bool ag, .int .i64 c, .int .i64 l]] w (PosZ (2 * P) 2 0 0 (List.replicate (2 * P) s) [0, 0] w) := by
  have HS := Lib.hid ((ro_new (P : Int) s c l st sk re fe ag w 31).below (al1 _ (.cells #[.slice none 0 0, .slice none 0 0, .int .i64 0] 32)))
  have HZ := Lib.hid (zero_at1 (P : Int) s c l st sk re fe ag w 31 32)
  have Hk := Lib.hid hk
  clear hk
  go_enter Try.func46, Try.ntmps46
  go_wp2_with fail
  refine (valid_b (P : Int) s c l st sk re fe ag _ Hk.out _).mono ?_
  rintro e u ⟨rfl, hb⟩
  have HS := Lib.hid (HS.out.below hb)
  have HZ := Lib.hid (HZ.out.below hb)
  have hz0 := HZ.out.lt
  clear hb
  go_upto_region 3 with fail
  have hmk := run_make_row' (P := Try.prog) 24 2 (.int .i64 0) 8 Try.underlying24 infoN rfl .i64 .i64 2 (by omega) (by omega)
  have hmk2 : ∀ v : World, (Instr.makeSlice 24 (.int .i64 2) (.int .i64 2)).run Try.prog v = .ok (.slice (some ⟨v.heap.size, 0, none⟩) 2 2) (v.alloc (.cells (madeCells #[.int .i64 0] 2) 2)) := fun v => hmk v
  clear hmk
  have HNE : Hid (List.replicate (2 * P) s ≠ []) := Lib.hid (by intro e; have := congrArg List.length e; simp at this; omega)
  have hPI : I64 (2 * (P : Int)) := by unfold I64; omega
  have HT : Hid (∀ v : World, RoAt w (P : Int) s c l st sk re fe ag v → (w.heap.size < v.heap.size ∧ v.cell? ⟨w.heap.size, 0, none⟩ = some (.int .i64 (P : Int)) ∧ v.cell? ⟨w.heap.size, 1, none⟩ = some (.int .i64 s) ∧ v.cell? ⟨w.heap.size, 2, none⟩ = some (.bool st) ∧ v.cell? ⟨w.heap.size, 3, none⟩ = some (.bool sk) ∧ v.cell? ⟨w.heap.size, 4, none⟩ = some (.bool re) ∧ v.cell? ⟨w.heap.size, 5, none⟩ = some (.bool fe) ∧ v.cell? ⟨w.heap.size, 6, none⟩ = some (.bool ag) ∧ v.cell? ⟨w.heap.size, 7, none⟩ = some (.int .i64 c) ∧ v.cell? ⟨w.heap.size, 8, none⟩ = some (.int .i64 l)) ∧ Below w.heap.size w v) := Lib.hid (fun v h => ⟨h.1, h.2⟩)
  go_region_held3 (fun v => (w.heap.size < v.heap.size ∧ v.cell? ⟨w.heap.size, 0, none⟩ = some (.int .i64 (P : Int)) ∧ v.cell? ⟨w.heap.size, 1, none⟩ = some (.int .i64 s) ∧ v.cell? ⟨w.heap.size, 2, none⟩ = some (.bool st) ∧ v.cell? ⟨w.heap.size, 3, none⟩ = some (.bool sk) ∧ v.cell? ⟨w.heap.size, 4, none⟩ = some (.bool re) ∧ v.cell? ⟨w.heap.size, 5, none⟩ = some (.bool fe) ∧ v.cell? ⟨w.heap.size, 6, none⟩ = some (.bool ag) ∧ v.cell? ⟨w.heap.size, 7, none⟩ = some (.int .i64 c) ∧ v.cell? ⟨w.heap.size, 8, none⟩ = some (.int .i64 l)) ∧ Below w.heap.size w v) (first | exact HT.out _ HS.out | exact HT.out _ HS.out.drew | exact HT.out _ (HS.out.below (al1 _ _)) | exact HT.out _ (HS.out.drew.below (al1 _ _)) | exact HT.out _ (HS.out.below (al2 _ _ _)) | exact HT.out _ (HS.out.below (al1 _ _)).drew | exact HT.out _ (HS.out.below (al2 _ _ _)).drew | exact HT.out _ (HS.out.set3 (z := w.heap.size + 1) (by omega) _ _ _) | exact HT.out _ ((HS.out.set3 (z := w.heap.size + 1) (by omega) _ _ _).below (al1 _ _)))
    (first
    | (go_at_call 66; go_must (with_reducible refine (board_any (P : Int) s c l st sk re fe ag hPI _).mono ?_); rintro e w3 ⟨rfl, hb5⟩; have hs3 := hb5.size; (try simp at hs3); (try have hl3 : u.heap.size < w3.heap.size := by omega); (try have hl4 : u.heap.size + 1 < w3.heap.size := by omega); (first | have HM := Lib.hid ((out_made2 _).below hb5) | have HM := Lib.hid (((out_made2 _).alloc _).below hb5) | have HM := Lib.hid ((out_made2 _).drew.below hb5) | have HM := Lib.hid (((out_made2 _).alloc _).drew.below hb5) | skip); (first | (have HA := Lib.hid ((out_one _ s 2).drew.below hb5); have ha := out_cell0 HA.out; (try simp at ha)) | (have HA := Lib.hid (((out_one _ s 2).alloc _).drew.below hb5); have ha := out_cell0 HA.out; (try simp at ha)) | skip); (have HS := Lib.hid (show RoAt w (P : Int) s c l st sk re fe ag w3 from by first | exact HS.out.drew.below hb5 | exact (HS.out.drew.below (al1 _ _)).below hb5 | exact (HS.out.drew.below (al2 _ _ _)).below hb5 | exact (HS.out.below (al1 _ _)).drew.below hb5 | exact (HS.out.below (al2 _ _ _)).drew.below hb5)); (have HZ := Lib.hid (show ZeroP w3 (w.heap.size + 1) from by first | exact HZ.out.drew.below hb5 | exact (HZ.out.drew.alloc _).below hb5 | exact ((HZ.out.drew.alloc _).alloc _).below hb5 | exact (HZ.out.alloc _).drew.below hb5 | exact ((HZ.out.alloc _).alloc _).drew.below hb5)); clear hb5)
    | (go_at_call 65; (with_reducible refine (repeat_two _ s P _ ?_ ?_ hP hP2).mono ?_); (focus (first | (simp; done) | (simp; omega) | omega)); (focus go_simp); rintro e w6 ⟨v6, rfl, ho6, hb6⟩; have hs6 := hb6.size; (try simp at hs6); (first | have HM := Lib.hid (HM.out.below hb6) | have HM := Lib.hid ((HM.out.alloc _).below hb6) | have HM := Lib.hid ((out_made2 _).below hb6) | have HM := Lib.hid (((out_made2 _).alloc _).below hb6) | skip); (have HS := Lib.hid (show RoAt w (P : Int) s c l st sk re fe ag w6 from by first | exact HS.out.below hb6 | exact (HS.out.below (al1 _ _)).below hb6 | exact (HS.out.below (al2 _ _ _)).below hb6)); (have HZ := Lib.hid (show ZeroP w6 (w.heap.size + 1) from by first | exact HZ.out.below hb6 | exact (HZ.out.alloc _).below hb6 | exact ((HZ.out.alloc _).alloc _).below hb6)); (obtain ⟨c6, b6, rfl, o6, hlt6, hc6⟩ := outN_own ho6 (by simp) (by omega) HNE.out); (have O6 := Lib.hid o6); (obtain ⟨zl, z0, z1, z2, zf⟩ := HZ.out); have f0 := zf 0; have f1 := zf 1; have f2 := zf 2; clear hb6 ho6 o6 zf))
  all_goals go_wp2_with fail
  · have n6 := O6.out.new
    (try simp at n6)
    have hp6 : b6 ≠ w.heap.size + 1 := by omega
    have oo := out_made2 (((w6.setCell ⟨w.heap.size + 1, 0, none⟩ (.slice (some ⟨b6, 0, none⟩) (2 * P) c6)).setCell ⟨w.heap.size + 1, 1, none⟩ (.slice (some ⟨w6.heap.size, 0, none⟩) 2 2)).setCell ⟨w.heap.size + 1, 2, none⟩ (.int .i64 0))
    rw [show (((w6.setCell ⟨w.heap.size + 1, 0, none⟩ (.slice (some ⟨b6, 0, none⟩) (2 * P) c6)).setCell ⟨w.heap.size + 1, 1, none⟩ (.slice (some ⟨w6.heap.size, 0, none⟩) 2 2)).setCell ⟨w.heap.size + 1, 2, none⟩ (.int .i64 0)).heap.size = w6.heap.size by simp] at oo
    refine bodyPost_ret (v := .tuple #[.agg #[.slice (some ⟨b6, 0, none⟩) (2 * P) c6, .slice (some ⟨w6.heap.size, 0, none⟩) 2 2, .int .i64 0], .int .i64 0]) (by simp [results, Try.results46, go_sem, z0, z1, z2, zl]) rfl ⟨some ⟨b6, 0, none⟩, c6, b6, some ⟨w6.heap.size, 0, none⟩, 2, w6.heap.size, rfl, ⟨((((O6.out.setCell hp6 _).setCell hp6 _).setCell hp6 _).alloc _).lower (by first | omega | (simp; done) | (simp; omega)), oo.lower (by omega), by omega, by simp, rfl⟩, by first | omega | (simp; done) | (simp; omega), by simp, hc6, Nat.le_refl _, ((HS.out.set3 (z := w.heap.size + 1) (by omega) _ _ _).below (al1 _ _)).2⟩
  · have n6 := O6.out.new
    (try simp at n6)
    have hp6 : b6 ≠ w.heap.size + 1 := by omega
    have h27 := HM.out
    try simp only [show ∀ (X : World) o, (X.alloc o).heap.size = X.heap.size + 1 from fun X o => by simp] at h27
    have l27 := (h27.free (by simp)).1
    have n27 := h27.new
    (try simp at n27)
    have hp27 : w3.heap.size ≠ w.heap.size + 1 := by omega
    refine bodyPost_ret (v := .tuple #[.agg #[.slice (some ⟨b6, 0, none⟩) (2 * P) c6, .slice (some ⟨w3.heap.size, 0, none⟩) 2 2, .int .i64 0], .int .i64 0]) (by simp [results, Try.results46, go_sem, z0, z1, z2]) rfl ⟨some ⟨b6, 0, none⟩, c6, b6, some ⟨w3.heap.size, 0, none⟩, 2, w3.heap.size, rfl, ⟨(((O6.out.setCell hp6 _).setCell hp6 _).setCell hp6 _).lower (by first | omega | (simp; omega)), (((h27.setCell hp27 _).setCell hp27 _).setCell hp27 _).lower (by first | omega | (simp; omega)), by omega, by simp, rfl⟩, by first | omega | (simp; done) | (simp; omega), by first | omega | (simp; done) | (simp; omega), hc6, Nat.le_refl _, (HS.out.set3 (z := w.heap.size + 1) (by omega) _ _ _).2⟩
  · have n6 := O6.out.new
    (try simp at n6)
    have hp6 : b6 ≠ w.heap.size + 1 := by omega
    have h27 := HM.out
    try simp only [show ∀ (X : World) o, (X.alloc o).heap.size = X.heap.size + 1 from fun X o => by simp] at h27
    have l27 := (h27.free (by simp)).1
    have n27 := h27.new
    (try simp at n27)
    have hp27 : u.heap.size + 1 ≠ w.heap.size + 1 := by omega
    refine bodyPost_ret (v := .tuple #[.agg #[.slice (some ⟨b6, 0, none⟩) (2 * P) c6, .slice (some ⟨u.heap.size + 1, 0, none⟩) 2 2, .int .i64 0], .int .i64 0]) (by simp [results, Try.results46, go_sem, z0, z1, z2]) rfl ⟨some ⟨b6, 0, none⟩, c6, b6, some ⟨u.heap.size + 1, 0, none⟩, 2, u.heap.size + 1, rfl, ⟨(((O6.out.setCell hp6 _).setCell hp6 _).setCell hp6 _).lower (by first | omega | (simp; omega)), (((h27.setCell hp27 _).setCell hp27 _).setCell hp27 _).lower (by first | omega | (simp; omega)), by omega, by simp, rfl⟩, by first | omega | (simp; done) | (simp; omega), by first | omega | (simp; done) | (simp; omega), hc6, Nat.le_refl _, (HS.out.set3 (z := w.heap.size + 1) (by omega) _ _ _).2⟩
  · have n6 := O6.out.new
    (try simp at n6)
    have hp6 : b6 ≠ w.heap.size + 1 := by omega
    have oo := out_made2 (((w6.setCell ⟨w.heap.size + 1, 0, none⟩ (.slice (some ⟨b6, 0, none⟩) (2 * P) c6)).setCell ⟨w.heap.size + 1, 1, none⟩ (.slice (some ⟨w6.heap.size, 0, none⟩) 2 2)).setCell ⟨w.heap.size + 1, 2, none⟩ (.int .i64 0))
    rw [show (((w6.setCell ⟨w.heap.size + 1, 0, none⟩ (.slice (some ⟨b6, 0, none⟩) (2 * P) c6)).setCell ⟨w.heap.size + 1, 1, none⟩ (.slice (some ⟨w6.heap.size, 0, none⟩) 2 2)).setCell ⟨w.heap.size + 1, 2, none⟩ (.int .i64 0)).heap.size = w6.heap.size by simp] at oo
    refine bodyPost_ret (v := .tuple #[.agg #[.slice (some ⟨b6, 0, none⟩) (2 * P) c6, .slice (some ⟨w6.heap.size, 0, none⟩) 2 2, .int .i64 0], .int .i64 0]) (by simp [results, Try.results46, go_sem, z0, z1, z2, zl]) rfl ⟨some ⟨b6, 0, none⟩, c6, b6, some ⟨w6.heap.size, 0, none⟩, 2, w6.heap.size, rfl, ⟨((((O6.out.setCell hp6 _).setCell hp6 _).setCell hp6 _).alloc _).lower (by first | omega | (simp; done) | (simp; omega)), oo.lower (by omega), by omega, by simp, rfl⟩, by first | omega | (simp; done) | (simp; omega), by simp, hc6, Nat.le_refl _, ((HS.out.set3 (z := w.heap.size + 1) (by omega) _ _ _).below (al1 _ _)).2⟩
  · have n6 := O6.out.new
    (try simp at n6)
    have hp6 : b6 ≠ w.heap.size + 1 := by omega
    have h27 := HM.out
    try simp only [show ∀ (X : World) o, (X.alloc o).heap.size = X.heap.size + 1 from fun X o => by simp] at h27
    have l27 := (h27.free (by simp)).1
    have n27 := h27.new
    (try simp at n27)
    have hp27 : w3.heap.size + 1 ≠ w.heap.size + 1 := by omega
    refine bodyPost_ret (v := .tuple #[.agg #[.slice (some ⟨b6, 0, none⟩) (2 * P) c6, .slice (some ⟨w3.heap.size + 1, 0, none⟩) 2 2, .int .i64 0], .int .i64 0]) (by simp [results, Try.results46, go_sem, z0, z1, z2]) rfl ⟨some ⟨b6, 0, none⟩, c6, b6, some ⟨w3.heap.size + 1, 0, none⟩, 2, w3.heap.size + 1, rfl, ⟨(((O6.out.setCell hp6 _).setCell hp6 _).setCell hp6 _).lower (by first | omega | (simp; omega)), (((h27.setCell hp27 _).setCell hp27 _).setCell hp27 _).lower (by first | omega | (simp; omega)), by omega, by simp, rfl⟩, by first | omega | (simp; done) | (simp; omega), by first | omega | (simp; done) | (simp; omega), hc6, Nat.le_refl _, (HS.out.set3 (z := w.heap.size + 1) (by omega) _ _ _).2⟩
  · have n6 := O6.out.new
    (try simp at n6)
    have hp6 : b6 ≠ w.heap.size + 1 := by omega
    have h27 := HM.out
    try simp only [show ∀ (X : World) o, (X.alloc o).heap.size = X.heap.size + 1 from fun X o => by simp] at h27
    have l27 := (h27.free (by simp)).1
    have n27 := h27.new
    (try simp at n27)
    have hp27 : w3.heap.size ≠ w.heap.size + 1 := by omega
    refine bodyPost_ret (v := .tuple #[.agg #[.slice (some ⟨b6, 0, none⟩) (2 * P) c6, .slice (some ⟨w3.heap.size, 0, none⟩) 2 2, .int .i64 0], .int .i64 0]) (by simp [results, Try.results46, go_sem, z0, z1, z2]) rfl ⟨some ⟨b6, 0, none⟩, c6, b6, some ⟨w3.heap.size, 0, none⟩, 2, w3.heap.size, rfl, ⟨(((O6.out.setCell hp6 _).setCell hp6 _).setCell hp6 _).lower (by first | omega | (simp; omega)), (((h27.setCell hp27 _).setCell hp27 _).setCell hp27 _).lower (by first | omega | (simp; omega)), by omega, by simp, rfl⟩, by first | omega | (simp; done) | (simp; omega), by first | omega | (simp; done) | (simp; omega), hc6, Nat.le_refl _, (HS.out.set3 (z := w.heap.size + 1) (by omega) _ _ _).2⟩
  · have n6 := O6.out.new
    (try simp at n6)
    have hp6 : b6 ≠ w.heap.size + 1 := by omega
    have h27 := HM.out
    try simp only [show ∀ (X : World) o, (X.alloc o).heap.size = X.heap.size + 1 from fun X o => by simp] at h27
    have l27 := (h27.free (by simp)).1
    have n27 := h27.new
    (try simp at n27)
    have hp27 : u.heap.size ≠ w.heap.size + 1 := by omega
    refine bodyPost_ret (v := .tuple #[.agg #[.slice (some ⟨b6, 0, none⟩) (2 * P) c6, .slice (some ⟨u.heap.size, 0, none⟩) 2 2, .int .i64 0], .int .i64 0]) (by simp [results, Try.results46, go_sem, z0, z1, z2]) rfl ⟨some ⟨b6, 0, none⟩, c6, b6, some ⟨u.heap.size, 0, none⟩, 2, u.heap.size, rfl, ⟨(((O6.out.setCell hp6 _).setCell hp6 _).setCell hp6 _).lower (by first | omega | (simp; omega)), (((h27.setCell hp27 _).setCell hp27 _).setCell hp27 _).lower (by first | omega | (simp; omega)), by omega, by simp, rfl⟩, by first | omega | (simp; done) | (simp; omega), by first | omega | (simp; done) | (simp; omega), hc6, Nat.le_refl _, (HS.out.set3 (z := w.heap.size + 1) (by omega) _ _ _).2⟩
  · have n6 := O6.out.new
    (try simp at n6)
    have hp6 : b6 ≠ w.heap.size + 1 := by omega
    have h27 := HM.out
    try simp only [show ∀ (X : World) o, (X.alloc o).heap.size = X.heap.size + 1 from fun X o => by simp] at h27
    have l27 := (h27.free (by simp)).1
    have n27 := h27.new
    (try simp at n27)
    have hp27 : u.heap.size ≠ w.heap.size + 1 := by omega
    refine bodyPost_ret (v := .tuple #[.agg #[.slice (some ⟨b6, 0, none⟩) (2 * P) c6, .slice (some ⟨u.heap.size, 0, none⟩) 2 2, .int .i64 0], .int .i64 0]) (by simp [results, Try.results46, go_sem, z0, z1, z2]) rfl ⟨some ⟨b6, 0, none⟩, c6, b6, some ⟨u.heap.size, 0, none⟩, 2, u.heap.size, rfl, ⟨(((O6.out.setCell hp6 _).setCell hp6 _).setCell hp6 _).lower (by first | omega | (simp; omega)), (((h27.setCell hp27 _).setCell hp27 _).setCell hp27 _).lower (by first | omega | (simp; omega)), by omega, by simp, rfl⟩, by first | omega | (simp; done) | (simp; omega), by first | omega | (simp; done) | (simp; omega), hc6, Nat.le_refl _, (HS.out.set3 (z := w.heap.size + 1) (by omega) _ _ _).2⟩
end Go.Proofs.Ythbkdlidpdliaab
