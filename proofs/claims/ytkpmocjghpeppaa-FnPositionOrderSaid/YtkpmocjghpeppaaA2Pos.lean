/- Rules and a position that the laws draw are valid. No conditions. -/
import Derived.Test.YtkpmocjghpeppaaDraw4
import Derived.Test.YtkpmocjghpeppaaTot
namespace Go.Proofs.Ytkpmocjghpeppaa
open Go.Joins Go.ChangeShapes Go.WideShapes Go.ChangeAt Go.RowKit Go.Deep
set_option linter.unusedVariables false

theorem tot_le {m : Int} : ∀ {xs : List Int}, (∀ x ∈ xs, 0 ≤ x ∧ x ≤ m) → posB xs = true ∧ tot xs ≤ m * xs.length
  | [], _ => ⟨rfl, by simp [tot]⟩
  | x :: r, h => by
    obtain ⟨h1, h2⟩ := tot_le (xs := r) (fun y hy => h y (List.mem_cons_of_mem _ hy))
    obtain ⟨h3, h4⟩ := h x (List.mem_cons_self ..)
    refine ⟨?_, ?_⟩
    · unfold posB at h1 ⊢
      rw [List.all_cons, h1]
      simp [h3]
    · unfold tot
      rw [List.length_cons, Int.natCast_add, Int.mul_add]
      simp only [Int.natCast_one, Int.mul_one]
      omega
theorem okP_drawn {k : Bool} {P : Nat} {pl y0 y1 : Int} {xs : List Int} (hk : k = true) (hP : P ≤ 8) (hl : xs.length = 2 * P) (hpl : 0 ≤ pl ∧ pl ≤ 1) (hx : ∀ x ∈ xs, 0 ≤ x ∧ x ≤ 5) (h0 : 0 ≤ y0 ∧ y0 ≤ 7) (h1 : 0 ≤ y1 ∧ y1 ≤ 7) : okP k (P : Int) (2 * P) 2 pl xs [y0, y1] = true := by
  obtain ⟨a1, a2⟩ := tot_le hx
  have b1 : posB [y0, y1] = true := by simp [posB, h0.1, h1.1]
  have b2 : tot [y0, y1] = y0 + y1 := by simp [tot]
  rw [hl] at a2
  have e : ((2 * P : Nat) : Int) = 2 * (P : Int) := by omega
  have c : tot xs + tot [y0, y1] ≤ 96 := by
    rw [b2]
    omega
  unfold okP seedB
  simp [hk, a1, b1, c, hpl.1, hpl.2, e]
theorem but9 (z : Nat) (u : World) (x0 x1 x2 x3 x4 x5 x6 x7 x8 : Value) : But z u (((((((((u.setCell ⟨z, 0, none⟩ x0).setCell ⟨z, 1, none⟩ x1).setCell ⟨z, 2, none⟩ x2).setCell ⟨z, 3, none⟩ x3).setCell ⟨z, 4, none⟩ x4).setCell ⟨z, 5, none⟩ x5).setCell ⟨z, 6, none⟩ x6).setCell ⟨z, 7, none⟩ x7).setCell ⟨z, 8, none⟩ x8) :=
  (((((((((But.refl z u).setCell (p := ⟨z, 0, none⟩) rfl _).setCell (p := ⟨z, 1, none⟩) rfl _).setCell (p := ⟨z, 2, none⟩) rfl _).setCell (p := ⟨z, 3, none⟩) rfl _).setCell (p := ⟨z, 4, none⟩) rfl _).setCell (p := ⟨z, 5, none⟩) rfl _).setCell (p := ⟨z, 6, none⟩) rfl _).setCell (p := ⟨z, 7, none⟩) rfl _).setCell (p := ⟨z, 8, none⟩) rfl _
theorem but3 (z : Nat) (u : World) (x0 x1 x2 : Value) : But z u (((u.setCell ⟨z, 0, none⟩ x0).setCell ⟨z, 1, none⟩ x1).setCell ⟨z, 2, none⟩ x2) :=
  (((But.refl z u).setCell (p := ⟨z, 0, none⟩) rfl _).setCell (p := ⟨z, 1, none⟩) rfl _).setCell (p := ⟨z, 2, none⟩) rfl _
theorem RuAt.drew {u : World} {b : Nat} {p s c l : Int} {st sk re fe ag : Bool} (h : RuAt u b p s c l st sk re fe ag) : RuAt u.drew b p s c l st sk re fe ag := h
theorem OnW.but {w u v : World} {z : Nat} (h : OnW w u) (k : But z u v) (hz : w.heap.size ≤ z) : OnW w v := But.below h k hz (Below.size h)
/-- Valid rules and a valid position. -/
def A2P (w : World) (e : Ending) (w' : World) : Prop :=
  ∃ (P : Nat) (s c l : Int) (st sk re fe ag : Bool) (g1 c1 g2 c2 : Nat) (pl : Int) (xs : List Int) (y0 y1 : Int), okR (P : Int) s c l st ag = true ∧ okP (okR (P : Int) s c l st ag) (P : Int) (2 * P) 2 pl xs [y0, y1] = true ∧
    e = .returned (.tuple #[.agg #[.int .i64 P, .int .i64 s, .bool st, .bool sk, .bool re, .bool fe, .bool ag, .int .i64 c, .int .i64 l], .agg #[.slice (some ⟨g1, 0, none⟩) (2 * P) c1, .slice (some ⟨g2, 0, none⟩) 2 c2, .int .i64 pl]]) ∧
    PosO w' w.heap.size (some ⟨g1, 0, none⟩) (some ⟨g2, 0, none⟩) g1 g2 (2 * P) 2 xs [y0, y1] ∧ g1 < w'.heap.size ∧ g2 < w'.heap.size ∧ 2 * P ≤ c1 ∧ 2 ≤ c2 ∧ Below w.heap.size w w'
set_option maxHeartbeats 4000000 in
set_option maxRecDepth 100000 in
theorem a2pos_any (a : Option Addr) (len cap : Nat) (w : World) (hB : Bytes w a len) :
    Calls Try.prog 30 #[.slice a len cap] w (A2P w) := by
  have HB := Lib.hid hB
  clear hB
  go_enter Try.func30, Try.ntmps30
  go_wp2_with (go_at_call 53; go_in)
  refine (draw_any (w.heap.size + 1 + 1) a len cap 0 _ ⟨?_, 0, 0, Nat.le_refl _, ⟨by simp, by go_simp, by go_simp, by go_simp, fun o => by go_simp, by decide, by decide⟩⟩ (by decide)).mono ?_
  · have h := (HB.out.below ((Below.refl w.heap.size w).alloc (Nat.le_refl _) (.cells #[.int .i64 0, .int .i64 0, .bool false, .bool false, .bool false, .bool false, .bool false, .int .i64 0, .int .i64 0] 25) |>.alloc (by simp) (.cells #[.slice none 0 0, .slice none 0 0, .int .i64 0] 39))).row (.cells #[.slice a len cap, .int .i64 0, .int .u64 0] 98)
    simpa using h
  rintro e w1 ⟨p, s, c, l, st, sk, re, fe, ag, hok, rfl, hb1, hs1⟩
  obtain ⟨hp1, hp2, hq⟩ := okR_bd hok
  obtain ⟨P, rfl⟩ : ∃ P : Nat, p = (P : Int) := ⟨p.toNat, by omega⟩
  have hz1 := hb1.size
  simp at hz1
  have HOn : Hid (OnW w w1) := Lib.hid (But.below (((Below.refl w.heap.size w).alloc (Nat.le_refl _) _).alloc (by simp) _ |>.alloc (by simp; omega) _) hb1 (by omega) (by simp; omega))
  have HRz := Lib.hid ((((ru_new 0 0 0 0 false false false false false w 25).below (al1 _ (.cells #[.slice none 0 0, .slice none 0 0, .int .i64 0] 39))).below (al1 _ (.cells #[.slice a len cap, .int .i64 0, .int .u64 0] 98))).but hb1 (by omega))
  have HRf : Hid (∀ o, w1.frozen? ⟨w.heap.size, o, none⟩ = false) := Lib.hid (fun o => (hb1.frozen (c := w.heap.size) (o := o) (by simp; omega) (by omega)).trans (by go_simp))
  have hzp := zero_new (w.alloc (.cells #[.int .i64 0, .int .i64 0, .bool false, .bool false, .bool false, .bool false, .bool false, .int .i64 0, .int .i64 0] 25)) 39
  rw [show (w.alloc (.cells #[.int .i64 0, .int .i64 0, .bool false, .bool false, .bool false, .bool false, .bool false, .int .i64 0, .int .i64 0] 25)).heap.size = w.heap.size + 1 by simp] at hzp
  have HZ := Lib.hid ((hzp.below (al1 _ (.cells #[.slice a len cap, .int .i64 0, .int .u64 0] 98))).but hb1 (by omega))
  have HSrc := Lib.hid hs1
  have Hok := Lib.hid hok
  clear hb1 hs1 hzp hok
  go_wp2_with fail
  have HRu := Lib.hid (ru_new (P : Int) s c l st sk re fe ag w1 25)
  have HOn := Lib.hid (HOn.out.below (al1 _ (.cells #[.int .i64 P, .int .i64 s, .bool st, .bool sk, .bool re, .bool fe, .bool ag, .int .i64 c, .int .i64 l] 25)))
  have HRz := Lib.hid (HRz.out.below (al1 _ (.cells #[.int .i64 P, .int .i64 s, .bool st, .bool sk, .bool re, .bool fe, .bool ag, .int .i64 c, .int .i64 l] 25)))
  have HZ := Lib.hid (HZ.out.below (al1 _ (.cells #[.int .i64 P, .int .i64 s, .bool st, .bool sk, .bool re, .bool fe, .bool ag, .int .i64 c, .int .i64 l] 25)))
  have HSrc := Lib.hid (HSrc.out.below (al1 _ (.cells #[.int .i64 P, .int .i64 s, .bool st, .bool sk, .bool re, .bool fe, .bool ag, .int .i64 c, .int .i64 l] 25)))
  have HRf : Hid (∀ o, (w1.alloc (.cells #[.int .i64 P, .int .i64 s, .bool st, .bool sk, .bool re, .bool fe, .bool ag, .int .i64 c, .int .i64 l] 25)).frozen? ⟨w.heap.size, o, none⟩ = false) := Lib.hid (fun o => ((al1 w1 _).frozen (p := ⟨w.heap.size, o, none⟩) (by show w.heap.size < w1.heap.size; omega)).trans (HRf.out o))
  generalize hR : w1.heap.size = R at *
  generalize hW : w1.alloc (.cells #[.int .i64 P, .int .i64 s, .bool st, .bool sk, .bool re, .bool fe, .bool ag, .int .i64 c, .int .i64 l] 25) = w2 at *
  have hRl : w.heap.size + 3 ≤ R := hz1
  have hwl : w.heap.size < w2.heap.size := HRz.out.1
  have hwl2 : w.heap.size + 1 < w2.heap.size := HZ.out.lt
  clear hW hR
  generalize hZ1 : w.heap.size + 1 = Z1 at *
  have hz01 : Z1 ≠ w.heap.size := by omega
  have hz10 : w.heap.size ≠ Z1 := by omega
  have HT : Hid (∀ v : World, RuAt v R (P : Int) s c l st sk re fe ag → OnW w v → (R < v.heap.size ∧ v.cell? ⟨R, 0, none⟩ = some (.int .i64 (P : Int)) ∧ v.cell? ⟨R, 1, none⟩ = some (.int .i64 s) ∧ v.cell? ⟨R, 2, none⟩ = some (.bool st) ∧ v.cell? ⟨R, 3, none⟩ = some (.bool sk) ∧ v.cell? ⟨R, 4, none⟩ = some (.bool re) ∧ v.cell? ⟨R, 5, none⟩ = some (.bool fe) ∧ v.cell? ⟨R, 6, none⟩ = some (.bool ag) ∧ v.cell? ⟨R, 7, none⟩ = some (.int .i64 c) ∧ v.cell? ⟨R, 8, none⟩ = some (.int .i64 l)) ∧ OnW w v) := Lib.hid (fun v h k => ⟨h, k⟩)
  have hRw : R ≠ w.heap.size := by omega
  have hRw1 : R ≠ Z1 := by omega
  have hwZ : w.heap.size ≤ Z1 := by omega
  go_region_held3 (fun v => (R < v.heap.size ∧ v.cell? ⟨R, 0, none⟩ = some (.int .i64 (P : Int)) ∧ v.cell? ⟨R, 1, none⟩ = some (.int .i64 s) ∧ v.cell? ⟨R, 2, none⟩ = some (.bool st) ∧ v.cell? ⟨R, 3, none⟩ = some (.bool sk) ∧ v.cell? ⟨R, 4, none⟩ = some (.bool re) ∧ v.cell? ⟨R, 5, none⟩ = some (.bool fe) ∧ v.cell? ⟨R, 6, none⟩ = some (.bool ag) ∧ v.cell? ⟨R, 7, none⟩ = some (.int .i64 c) ∧ v.cell? ⟨R, 8, none⟩ = some (.int .i64 l)) ∧ OnW w v) (first | (with_reducible exact HF12.out _ _ _ _ _ _ _ _ _ _ _ _) | (with_reducible exact HF9.out _ _ _ _ _ _ _ _ _) | (with_reducible exact HT.out _ HRu.out HOn.out) | (with_reducible exact HT.out _ HRu.out.drew HOn.out.drew))
    ((go_at_call 63; (with_reducible refine (l04Draw_any P s c l st sk re fe ag (Z1 + 1) a len cap (0 + 30) R _ ?_ ?_ (by omega) (by omega) (by omega) (by omega) (by omega) (by omega)).mono ?_); (focus (first | exact HSrc.out | exact HSrc.out.below (Below.refl _ _).drew)); (focus (first | exact HRu.out)); rintro e w5 ⟨g1, c1, g2, c2, pl, xs, y0, y1, rfl, ho, lt1, lt2, hpl, hxs, h0, h1, hc1, hc2, hbut, -⟩; (have HOn := Lib.hid (show OnW w w5 from by first | exact HOn.out.but hbut (by omega) | exact HOn.out.drew.but hbut (by omega))); (first | have HRu := Lib.hid (HRu.out.but hbut (by omega)) | have HRu := Lib.hid (HRu.out.drew.but hbut (by omega))); (first | have HRz := Lib.hid (HRz.out.but hbut (by omega)) | have HRz := Lib.hid (HRz.out.drew.but hbut (by omega))); (first | have HZ := Lib.hid (HZ.out.but hbut (by omega)) | have HZ := Lib.hid (HZ.out.drew.but hbut (by omega))); (have HRf : Hid (∀ o, w5.frozen? ⟨w.heap.size, o, none⟩ = false) := Lib.hid (fun o => (hbut.frozen (c := w.heap.size) (o := o) (by show w.heap.size < w2.heap.size; omega) (by omega)).trans (HRf.out o))); (obtain ⟨hrl, x0, x1, x2, x3, x4, x5, x6, x7, x8⟩ := HRz.out); (obtain ⟨zl, z0, z1, z2, zf⟩ := HZ.out); have f0 := zf 0; have f1 := zf 1; have f2 := zf 2; have e0 := HRf.out 0; have e1 := HRf.out 1; have e2 := HRf.out 2; have e3 := HRf.out 3; have e4 := HRf.out 4; have e5 := HRf.out 5; have e6 := HRf.out 6; have e7 := HRf.out 7; have e8 := HRf.out 8; have HO := Lib.hid ho; have n1 := ho.o1.new; have n2 := ho.o2.new; (have HF9 : Hid (∀ y0 y1 y2 y3 y4 y5 y6 y7 y8 : Value, (R < (((((((((w5.setCell ⟨w.heap.size, 0, none⟩ y0).setCell ⟨w.heap.size, 1, none⟩ y1).setCell ⟨w.heap.size, 2, none⟩ y2).setCell ⟨w.heap.size, 3, none⟩ y3).setCell ⟨w.heap.size, 4, none⟩ y4).setCell ⟨w.heap.size, 5, none⟩ y5).setCell ⟨w.heap.size, 6, none⟩ y6).setCell ⟨w.heap.size, 7, none⟩ y7).setCell ⟨w.heap.size, 8, none⟩ y8).heap.size ∧ (((((((((w5.setCell ⟨w.heap.size, 0, none⟩ y0).setCell ⟨w.heap.size, 1, none⟩ y1).setCell ⟨w.heap.size, 2, none⟩ y2).setCell ⟨w.heap.size, 3, none⟩ y3).setCell ⟨w.heap.size, 4, none⟩ y4).setCell ⟨w.heap.size, 5, none⟩ y5).setCell ⟨w.heap.size, 6, none⟩ y6).setCell ⟨w.heap.size, 7, none⟩ y7).setCell ⟨w.heap.size, 8, none⟩ y8).cell? ⟨R, 0, none⟩ = some (.int .i64 (P : Int)) ∧ (((((((((w5.setCell ⟨w.heap.size, 0, none⟩ y0).setCell ⟨w.heap.size, 1, none⟩ y1).setCell ⟨w.heap.size, 2, none⟩ y2).setCell ⟨w.heap.size, 3, none⟩ y3).setCell ⟨w.heap.size, 4, none⟩ y4).setCell ⟨w.heap.size, 5, none⟩ y5).setCell ⟨w.heap.size, 6, none⟩ y6).setCell ⟨w.heap.size, 7, none⟩ y7).setCell ⟨w.heap.size, 8, none⟩ y8).cell? ⟨R, 1, none⟩ = some (.int .i64 s) ∧ (((((((((w5.setCell ⟨w.heap.size, 0, none⟩ y0).setCell ⟨w.heap.size, 1, none⟩ y1).setCell ⟨w.heap.size, 2, none⟩ y2).setCell ⟨w.heap.size, 3, none⟩ y3).setCell ⟨w.heap.size, 4, none⟩ y4).setCell ⟨w.heap.size, 5, none⟩ y5).setCell ⟨w.heap.size, 6, none⟩ y6).setCell ⟨w.heap.size, 7, none⟩ y7).setCell ⟨w.heap.size, 8, none⟩ y8).cell? ⟨R, 2, none⟩ = some (.bool st) ∧ (((((((((w5.setCell ⟨w.heap.size, 0, none⟩ y0).setCell ⟨w.heap.size, 1, none⟩ y1).setCell ⟨w.heap.size, 2, none⟩ y2).setCell ⟨w.heap.size, 3, none⟩ y3).setCell ⟨w.heap.size, 4, none⟩ y4).setCell ⟨w.heap.size, 5, none⟩ y5).setCell ⟨w.heap.size, 6, none⟩ y6).setCell ⟨w.heap.size, 7, none⟩ y7).setCell ⟨w.heap.size, 8, none⟩ y8).cell? ⟨R, 3, none⟩ = some (.bool sk) ∧ (((((((((w5.setCell ⟨w.heap.size, 0, none⟩ y0).setCell ⟨w.heap.size, 1, none⟩ y1).setCell ⟨w.heap.size, 2, none⟩ y2).setCell ⟨w.heap.size, 3, none⟩ y3).setCell ⟨w.heap.size, 4, none⟩ y4).setCell ⟨w.heap.size, 5, none⟩ y5).setCell ⟨w.heap.size, 6, none⟩ y6).setCell ⟨w.heap.size, 7, none⟩ y7).setCell ⟨w.heap.size, 8, none⟩ y8).cell? ⟨R, 4, none⟩ = some (.bool re) ∧ (((((((((w5.setCell ⟨w.heap.size, 0, none⟩ y0).setCell ⟨w.heap.size, 1, none⟩ y1).setCell ⟨w.heap.size, 2, none⟩ y2).setCell ⟨w.heap.size, 3, none⟩ y3).setCell ⟨w.heap.size, 4, none⟩ y4).setCell ⟨w.heap.size, 5, none⟩ y5).setCell ⟨w.heap.size, 6, none⟩ y6).setCell ⟨w.heap.size, 7, none⟩ y7).setCell ⟨w.heap.size, 8, none⟩ y8).cell? ⟨R, 5, none⟩ = some (.bool fe) ∧ (((((((((w5.setCell ⟨w.heap.size, 0, none⟩ y0).setCell ⟨w.heap.size, 1, none⟩ y1).setCell ⟨w.heap.size, 2, none⟩ y2).setCell ⟨w.heap.size, 3, none⟩ y3).setCell ⟨w.heap.size, 4, none⟩ y4).setCell ⟨w.heap.size, 5, none⟩ y5).setCell ⟨w.heap.size, 6, none⟩ y6).setCell ⟨w.heap.size, 7, none⟩ y7).setCell ⟨w.heap.size, 8, none⟩ y8).cell? ⟨R, 6, none⟩ = some (.bool ag) ∧ (((((((((w5.setCell ⟨w.heap.size, 0, none⟩ y0).setCell ⟨w.heap.size, 1, none⟩ y1).setCell ⟨w.heap.size, 2, none⟩ y2).setCell ⟨w.heap.size, 3, none⟩ y3).setCell ⟨w.heap.size, 4, none⟩ y4).setCell ⟨w.heap.size, 5, none⟩ y5).setCell ⟨w.heap.size, 6, none⟩ y6).setCell ⟨w.heap.size, 7, none⟩ y7).setCell ⟨w.heap.size, 8, none⟩ y8).cell? ⟨R, 7, none⟩ = some (.int .i64 c) ∧ (((((((((w5.setCell ⟨w.heap.size, 0, none⟩ y0).setCell ⟨w.heap.size, 1, none⟩ y1).setCell ⟨w.heap.size, 2, none⟩ y2).setCell ⟨w.heap.size, 3, none⟩ y3).setCell ⟨w.heap.size, 4, none⟩ y4).setCell ⟨w.heap.size, 5, none⟩ y5).setCell ⟨w.heap.size, 6, none⟩ y6).setCell ⟨w.heap.size, 7, none⟩ y7).setCell ⟨w.heap.size, 8, none⟩ y8).cell? ⟨R, 8, none⟩ = some (.int .i64 l)) ∧ OnW w (((((((((w5.setCell ⟨w.heap.size, 0, none⟩ y0).setCell ⟨w.heap.size, 1, none⟩ y1).setCell ⟨w.heap.size, 2, none⟩ y2).setCell ⟨w.heap.size, 3, none⟩ y3).setCell ⟨w.heap.size, 4, none⟩ y4).setCell ⟨w.heap.size, 5, none⟩ y5).setCell ⟨w.heap.size, 6, none⟩ y6).setCell ⟨w.heap.size, 7, none⟩ y7).setCell ⟨w.heap.size, 8, none⟩ y8)) := Lib.hid (fun y0 y1 y2 y3 y4 y5 y6 y7 y8 => HT.out _ (HRu.out.but (but9 w.heap.size w5 y0 y1 y2 y3 y4 y5 y6 y7 y8) hRw) (HOn.out.but (but9 w.heap.size w5 y0 y1 y2 y3 y4 y5 y6 y7 y8) (Nat.le_refl _)))); (have HF12 : Hid (∀ y0 y1 y2 y3 y4 y5 y6 y7 y8 t0 t1 t2 : Value, (R < ((((((((((((w5.setCell ⟨w.heap.size, 0, none⟩ y0).setCell ⟨w.heap.size, 1, none⟩ y1).setCell ⟨w.heap.size, 2, none⟩ y2).setCell ⟨w.heap.size, 3, none⟩ y3).setCell ⟨w.heap.size, 4, none⟩ y4).setCell ⟨w.heap.size, 5, none⟩ y5).setCell ⟨w.heap.size, 6, none⟩ y6).setCell ⟨w.heap.size, 7, none⟩ y7).setCell ⟨w.heap.size, 8, none⟩ y8).setCell ⟨Z1, 0, none⟩ t0).setCell ⟨Z1, 1, none⟩ t1).setCell ⟨Z1, 2, none⟩ t2).heap.size ∧ ((((((((((((w5.setCell ⟨w.heap.size, 0, none⟩ y0).setCell ⟨w.heap.size, 1, none⟩ y1).setCell ⟨w.heap.size, 2, none⟩ y2).setCell ⟨w.heap.size, 3, none⟩ y3).setCell ⟨w.heap.size, 4, none⟩ y4).setCell ⟨w.heap.size, 5, none⟩ y5).setCell ⟨w.heap.size, 6, none⟩ y6).setCell ⟨w.heap.size, 7, none⟩ y7).setCell ⟨w.heap.size, 8, none⟩ y8).setCell ⟨Z1, 0, none⟩ t0).setCell ⟨Z1, 1, none⟩ t1).setCell ⟨Z1, 2, none⟩ t2).cell? ⟨R, 0, none⟩ = some (.int .i64 (P : Int)) ∧ ((((((((((((w5.setCell ⟨w.heap.size, 0, none⟩ y0).setCell ⟨w.heap.size, 1, none⟩ y1).setCell ⟨w.heap.size, 2, none⟩ y2).setCell ⟨w.heap.size, 3, none⟩ y3).setCell ⟨w.heap.size, 4, none⟩ y4).setCell ⟨w.heap.size, 5, none⟩ y5).setCell ⟨w.heap.size, 6, none⟩ y6).setCell ⟨w.heap.size, 7, none⟩ y7).setCell ⟨w.heap.size, 8, none⟩ y8).setCell ⟨Z1, 0, none⟩ t0).setCell ⟨Z1, 1, none⟩ t1).setCell ⟨Z1, 2, none⟩ t2).cell? ⟨R, 1, none⟩ = some (.int .i64 s) ∧ ((((((((((((w5.setCell ⟨w.heap.size, 0, none⟩ y0).setCell ⟨w.heap.size, 1, none⟩ y1).setCell ⟨w.heap.size, 2, none⟩ y2).setCell ⟨w.heap.size, 3, none⟩ y3).setCell ⟨w.heap.size, 4, none⟩ y4).setCell ⟨w.heap.size, 5, none⟩ y5).setCell ⟨w.heap.size, 6, none⟩ y6).setCell ⟨w.heap.size, 7, none⟩ y7).setCell ⟨w.heap.size, 8, none⟩ y8).setCell ⟨Z1, 0, none⟩ t0).setCell ⟨Z1, 1, none⟩ t1).setCell ⟨Z1, 2, none⟩ t2).cell? ⟨R, 2, none⟩ = some (.bool st) ∧ ((((((((((((w5.setCell ⟨w.heap.size, 0, none⟩ y0).setCell ⟨w.heap.size, 1, none⟩ y1).setCell ⟨w.heap.size, 2, none⟩ y2).setCell ⟨w.heap.size, 3, none⟩ y3).setCell ⟨w.heap.size, 4, none⟩ y4).setCell ⟨w.heap.size, 5, none⟩ y5).setCell ⟨w.heap.size, 6, none⟩ y6).setCell ⟨w.heap.size, 7, none⟩ y7).setCell ⟨w.heap.size, 8, none⟩ y8).setCell ⟨Z1, 0, none⟩ t0).setCell ⟨Z1, 1, none⟩ t1).setCell ⟨Z1, 2, none⟩ t2).cell? ⟨R, 3, none⟩ = some (.bool sk) ∧ ((((((((((((w5.setCell ⟨w.heap.size, 0, none⟩ y0).setCell ⟨w.heap.size, 1, none⟩ y1).setCell ⟨w.heap.size, 2, none⟩ y2).setCell ⟨w.heap.size, 3, none⟩ y3).setCell ⟨w.heap.size, 4, none⟩ y4).setCell ⟨w.heap.size, 5, none⟩ y5).setCell ⟨w.heap.size, 6, none⟩ y6).setCell ⟨w.heap.size, 7, none⟩ y7).setCell ⟨w.heap.size, 8, none⟩ y8).setCell ⟨Z1, 0, none⟩ t0).setCell ⟨Z1, 1, none⟩ t1).setCell ⟨Z1, 2, none⟩ t2).cell? ⟨R, 4, none⟩ = some (.bool re) ∧ ((((((((((((w5.setCell ⟨w.heap.size, 0, none⟩ y0).setCell ⟨w.heap.size, 1, none⟩ y1).setCell ⟨w.heap.size, 2, none⟩ y2).setCell ⟨w.heap.size, 3, none⟩ y3).setCell ⟨w.heap.size, 4, none⟩ y4).setCell ⟨w.heap.size, 5, none⟩ y5).setCell ⟨w.heap.size, 6, none⟩ y6).setCell ⟨w.heap.size, 7, none⟩ y7).setCell ⟨w.heap.size, 8, none⟩ y8).setCell ⟨Z1, 0, none⟩ t0).setCell ⟨Z1, 1, none⟩ t1).setCell ⟨Z1, 2, none⟩ t2).cell? ⟨R, 5, none⟩ = some (.bool fe) ∧ ((((((((((((w5.setCell ⟨w.heap.size, 0, none⟩ y0).setCell ⟨w.heap.size, 1, none⟩ y1).setCell ⟨w.heap.size, 2, none⟩ y2).setCell ⟨w.heap.size, 3, none⟩ y3).setCell ⟨w.heap.size, 4, none⟩ y4).setCell ⟨w.heap.size, 5, none⟩ y5).setCell ⟨w.heap.size, 6, none⟩ y6).setCell ⟨w.heap.size, 7, none⟩ y7).setCell ⟨w.heap.size, 8, none⟩ y8).setCell ⟨Z1, 0, none⟩ t0).setCell ⟨Z1, 1, none⟩ t1).setCell ⟨Z1, 2, none⟩ t2).cell? ⟨R, 6, none⟩ = some (.bool ag) ∧ ((((((((((((w5.setCell ⟨w.heap.size, 0, none⟩ y0).setCell ⟨w.heap.size, 1, none⟩ y1).setCell ⟨w.heap.size, 2, none⟩ y2).setCell ⟨w.heap.size, 3, none⟩ y3).setCell ⟨w.heap.size, 4, none⟩ y4).setCell ⟨w.heap.size, 5, none⟩ y5).setCell ⟨w.heap.size, 6, none⟩ y6).setCell ⟨w.heap.size, 7, none⟩ y7).setCell ⟨w.heap.size, 8, none⟩ y8).setCell ⟨Z1, 0, none⟩ t0).setCell ⟨Z1, 1, none⟩ t1).setCell ⟨Z1, 2, none⟩ t2).cell? ⟨R, 7, none⟩ = some (.int .i64 c) ∧ ((((((((((((w5.setCell ⟨w.heap.size, 0, none⟩ y0).setCell ⟨w.heap.size, 1, none⟩ y1).setCell ⟨w.heap.size, 2, none⟩ y2).setCell ⟨w.heap.size, 3, none⟩ y3).setCell ⟨w.heap.size, 4, none⟩ y4).setCell ⟨w.heap.size, 5, none⟩ y5).setCell ⟨w.heap.size, 6, none⟩ y6).setCell ⟨w.heap.size, 7, none⟩ y7).setCell ⟨w.heap.size, 8, none⟩ y8).setCell ⟨Z1, 0, none⟩ t0).setCell ⟨Z1, 1, none⟩ t1).setCell ⟨Z1, 2, none⟩ t2).cell? ⟨R, 8, none⟩ = some (.int .i64 l)) ∧ OnW w ((((((((((((w5.setCell ⟨w.heap.size, 0, none⟩ y0).setCell ⟨w.heap.size, 1, none⟩ y1).setCell ⟨w.heap.size, 2, none⟩ y2).setCell ⟨w.heap.size, 3, none⟩ y3).setCell ⟨w.heap.size, 4, none⟩ y4).setCell ⟨w.heap.size, 5, none⟩ y5).setCell ⟨w.heap.size, 6, none⟩ y6).setCell ⟨w.heap.size, 7, none⟩ y7).setCell ⟨w.heap.size, 8, none⟩ y8).setCell ⟨Z1, 0, none⟩ t0).setCell ⟨Z1, 1, none⟩ t1).setCell ⟨Z1, 2, none⟩ t2)) := Lib.hid (fun y0 y1 y2 y3 y4 y5 y6 y7 y8 t0 t1 t2 => HT.out _ ((HRu.out.but (but9 w.heap.size w5 y0 y1 y2 y3 y4 y5 y6 y7 y8) hRw).but (but3 Z1 _ t0 t1 t2) hRw1) ((HOn.out.but (but9 w.heap.size w5 y0 y1 y2 y3 y4 y5 y6 y7 y8) (Nat.le_refl _)).but (but3 Z1 _ t0 t1 t2) hwZ))); clear zf ho hbut))
  go_wp2_with fail
  have m1 : g1 ≠ w.heap.size := by
    have := n1
    simp at this
    omega
  have m2 : g2 ≠ w.heap.size := by
    have := n2
    simp at this
    omega
  have m3 : g1 ≠ Z1 := by
    have := n1
    simp at this
    omega
  have m4 : g2 ≠ Z1 := by
    have := n2
    simp at this
    omega
  refine bodyPost_ret (v := .tuple #[.agg #[.int .i64 P, .int .i64 s, .bool st, .bool sk, .bool re, .bool fe, .bool ag, .int .i64 c, .int .i64 l], .agg #[.slice (some ⟨g1, 0, none⟩) (2 * P) c1, .slice (some ⟨g2, 0, none⟩) 2 c2, .int .i64 pl]]) (by simp [results, Try.results30, go_sem, x0, x1, x2, x3, x4, x5, x6, x7, x8, z0, z1, z2, hz01, hz10]) rfl ⟨P, s, c, l, st, sk, re, fe, ag, g1, c1, g2, c2, pl, xs, y0, y1, Hok.out, okP_drawn Hok.out (by omega) HO.out.l1 hpl hxs h0 h1, rfl, ((HO.out.but (but9 w.heap.size _ _ _ _ _ _ _ _ _ _) m1 m2).but (but3 Z1 _ _ _ _) m3 m4).lower (by have := HOn.out.size; first | omega | (simp; omega)), by simpa using lt1, by simpa using lt2, hc1, hc2, (HOn.out.but (but9 w.heap.size _ _ _ _ _ _ _ _ _ _) (Nat.le_refl _)).but (but3 Z1 _ _ _ _) hwZ⟩
end Go.Proofs.Ytkpmocjghpeppaa
