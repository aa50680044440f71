/- PositionAt and AtIndex of both sides. No conditions. -/
import Derived.Test.YthbgfkklejnhiaaN13L
import Derived.Test.YthbgfkklejnhiaaNx2
import Derived.Test.YthbgfkklejnhiaaView5
import Derived.ScopeJumps
import Derived.WalkMore
namespace Go.Proofs.Ythbgfkklejnhiaa
open Go.Joins Go.ChangeShapes Go.WideShapes Go.ChangeAt Go.RowKit Go.Deep
set_option linter.unusedVariables false

section
variable {w u v : World} {b : Nat} {p s c l : Int} {st sk re fe ag : Bool}
theorem RbAt.set3 (h : RbAt w b p s c l st sk re fe ag u) {z : Nat} (hb : b ≠ z) (hz : w.heap.size ≤ z) (x y t : Value) : RbAt w b p s c l st sk re fe ag (((u.setCell ⟨z, 0, none⟩ x).setCell ⟨z, 1, none⟩ y).setCell ⟨z, 2, none⟩ t) := by
  have k : But z u (((u.setCell ⟨z, 0, none⟩ x).setCell ⟨z, 1, none⟩ y).setCell ⟨z, 2, none⟩ t) := ((((But.refl z u).setCell (p := ⟨z, 0, none⟩) rfl x).setCell (p := ⟨z, 1, none⟩) rfl y).setCell (p := ⟨z, 2, none⟩) rfl t)
  exact ⟨h.1.but k hb, OnW.set3 h.2 hz _ _ _⟩
end
theorem zero_at1b (p s c l : Int) (st sk re fe ag : Bool) (w : World) (T U : TypeId) : ZeroP ((w.alloc (.cells #[.int .i64 p, .int .i64 s, .bool st, .bool sk, .bool re, .bool fe, .bool ag, .int .i64 c, .int .i64 l] T)).alloc (.cells #[.slice none 0 0, .slice none 0 0, .int .i64 0] U)) (w.heap.size + 1) := by
  have h := zero_new (w.alloc (.cells #[.int .i64 p, .int .i64 s, .bool st, .bool sk, .bool re, .bool fe, .bool ag, .int .i64 c, .int .i64 l] T)) U
  rwa [show (w.alloc (.cells #[.int .i64 p, .int .i64 s, .bool st, .bool sk, .bool re, .bool fe, .bool ag, .int .i64 c, .int .i64 l] T)).heap.size = w.heap.size + 1 by simp] at h
theorem out_made2b (u : World) : OutN (u.alloc (.cells (madeCells #[.int .i64 0] 2) 2)) u.heap.size (some ⟨u.heap.size, 0, none⟩) u.heap.size [0, 0] := by
  have h := out_two u 0 0 2
  have e : madeCells #[Value.int .i64 0] 2 = #[.int .i64 0, .int .i64 0] := by
    apply Array.ext
    · simp [madeCells]
    · intro i h1 h2
      match i, h2 with
      | 0, _ => simp [madeCells]
      | 1, _ => simp [madeCells]
  rw [e]
  exact h
/-- A number of the seeds that there is. -/
def paK (P S : Nat) (m : Int) : Prop := 0 ≤ m ∧ m < (cnt S (2 * P) : Int)
set_option maxHeartbeats 2000000 in
theorem implPa_no (p s c l : Int) (st sk re fe ag : Bool) (n m cd : Int) (w : World) (hc : n13C (okR p s c l st ag) p n = cd) (h0 : cd ≠ 0) :
    Calls Try.prog 20 #[.agg #[.int .i64 p, .int .i64 s, .bool st, .bool sk, .bool re, .bool fe, .bool ag, .int .i64 c, .int .i64 l], .int .i64 n, .int .i64 m] w (PosZ 0 0 0 cd [] [] w) := by
  have HS := Lib.hid (show RbAt w w.heap.size p s c l st sk re fe ag _ from ⟨(ru_new p s c l st sk re fe ag w 25).below (al1 _ (.cells #[.slice none 0 0, .slice none 0 0, .int .i64 0] 28)), al2 _ _ _⟩)
  have HZ := Lib.hid (zero_at1b p s c l st sk re fe ag w 25 28)
  have HK := Lib.hid (fun u => chk_any p s c l st sk re fe ag n u)
  rw [hc] at HK
  have d1 : (cd != 0) = true := by simpa using h0
  clear hc h0
  go_enter Try.func20, Try.ntmps20
  go_wp2_with fail
  refine (HK.out _).mono ?_
  rintro e u ⟨rfl, hb⟩
  have HS := Lib.hid (HS.out.below hb)
  have HZ := Lib.hid (HZ.out.below hb)
  have hz0 := HZ.out.lt
  clear hb
  obtain ⟨zl, z0, z1, z2, zf⟩ := HZ.out
  have f0 := zf 0
  have f1 := zf 1
  have f2 := zf 2
  clear zf
  go_wp2_with fail
  refine bodyPost_ret (v := .tuple #[.agg #[.slice none 0 0, .slice none 0 0, .int .i64 0], .int .i64 cd]) (by simp [results, Try.results20, go_sem, z0, z1, z2]) rfl ?_
  exact posZ_zero cd (HS.out.set3 (z := w.heap.size + 1) (by omega) (by omega) _ _ _).2 (by simp; omega)
set_option maxHeartbeats 2000000 in
theorem implPa_rg (P S : Nat) (s c l : Int) (st sk re fe ag : Bool) (m : Int) (w : World) (hok : okR (P : Int) s c l st ag = true) (hc : n13C true (P : Int) (S : Int) = 0) (hm : ¬ paK P S m) :
    Calls Try.prog 20 #[.agg #[.int .i64 P, .int .i64 s, .bool st, .bool sk, .bool re, .bool fe, .bool ag, .int .i64 c, .int .i64 l], .int .i64 S, .int .i64 m] w (PosZ 0 0 0 2 [] [] w) := by
  have HS := Lib.hid (show RbAt w w.heap.size (P : Int) s c l st sk re fe ag _ from ⟨(ru_new (P : Int) s c l st sk re fe ag w 25).below (al1 _ (.cells #[.slice none 0 0, .slice none 0 0, .int .i64 0] 28)), al2 _ _ _⟩)
  have HZ := Lib.hid (zero_at1b (P : Int) s c l st sk re fe ag w 25 28)
  have HK := Lib.hid (fun u => chk_any (P : Int) s c l st sk re fe ag (S : Int) u)
  rw [hok, hc] at HK
  obtain ⟨hp1, hp2, -⟩ := okR_bd hok
  obtain ⟨-, S', hS', hS96, hb⟩ := n13_parts hc
  obtain rfl : S = S' := by omega
  rw [Int.toNat_natCast] at hb
  have hf := (cnt_fit (P := P) (S := S) (by omega) hb).1
  have hw2 : IntKind.i64.wrap (2 * (P : Int)) = 2 * (P : Int) := IntWalk.i64_in _ ⟨by omega, by omega⟩
  have HU : Hid (∀ (q : Int) (u : World), q = 2 * (P : Int) → Calls Try.prog 55 #[.int .i64 S, .int .i64 q, .int .i64 m] u (RwP [] 0 2 u)) := Lib.hid (by
    rintro q u rfl
    have h := implUn_any (S : Int) (2 * (P : Int)) m u
    have hk : cnK (S : Int) (((2 * P - 1 : Nat) : Int) + 1) = true := by rw [cn_in hS96 (by omega), decide_eq_true (by rw [show 2 * P - 1 + 1 = 2 * P by omega]; omega)]
    have hu : unK (S : Int) (2 * (P : Int)) m = false := by
      rw [show ((2 * P - 1 : Nat) : Int) + 1 = 2 * (P : Int) by omega] at hk
      unfold unK
      rw [hk, Int.toNat_natCast, show (2 * (P : Int)).toNat = 2 * P by omega]
      unfold paK at hm
      by_cases h0 : 0 ≤ m
      · rw [decide_eq_false (by omega : ¬ m ≤ (cnt S (2 * P) : Int) - 1)]; simp
      · rw [decide_eq_false h0]; rfl
    rwa [(un_no hu).1, (un_no hu).2] at h)
  clear hok hc hm hS' hb hf
  go_enter Try.func20, Try.ntmps20
  go_wp2_with fail
  refine (HK.out _).mono ?_
  rintro e u ⟨rfl, hb⟩
  have HS := Lib.hid (HS.out.below hb)
  have HZ := Lib.hid (HZ.out.below hb)
  have hz0 := HZ.out.lt
  clear hb
  obtain ⟨hz, r0, r1, r2, r3, r4, r5, r6, r7, r8⟩ := HS.out.1
  go_wp2_with fail
  clear hz r0 r1 r2 r3 r4 r5 r6 r7 r8
  refine (board_any (P : Int) s c l st sk re fe ag (by unfold I64; omega) _).mono ?_
  rintro e u ⟨rfl, hb⟩
  have HS := Lib.hid (HS.out.below hb)
  have HZ := Lib.hid (HZ.out.below hb)
  have hz0 := HZ.out.lt
  clear hb
  go_wp2_with fail
  refine (HU.out _ _ rfl).mono ?_
  rintro e v ⟨a1, c1, b1, rfl, -, -, hb⟩
  have HS := Lib.hid (HS.out.below hb)
  have HZ := Lib.hid (HZ.out.below hb)
  have hz0 := HZ.out.lt
  clear hb
  obtain ⟨zl, z0, z1, z2, zf⟩ := HZ.out
  have f0 := zf 0
  have f1 := zf 1
  have f2 := zf 2
  clear zf
  go_wp2_with fail
  refine bodyPost_ret (v := .tuple #[.agg #[.slice none 0 0, .slice none 0 0, .int .i64 0], .int .i64 2]) (by simp [results, Try.results20, go_sem, z0, z1, z2]) rfl ?_
  exact posZ_zero 2 (HS.out.set3 (z := w.heap.size + 1) (by omega) (by omega) _ _ _).2 (by simp; omega)
set_option maxHeartbeats 4000000 in
theorem implPa_yes (P S R : Nat) (s c l : Int) (st sk re fe ag : Bool) (m : Int) (w : World) (hok : okR (P : Int) s c l st ag = true) (hc : n13C true (P : Int) (S : Int) = 0) (hm : m = (R : Int)) (hR : R < cnt S (2 * P)) :
    Calls Try.prog 20 #[.agg #[.int .i64 P, .int .i64 s, .bool st, .bool sk, .bool re, .bool fe, .bool ag, .int .i64 c, .int .i64 l], .int .i64 S, .int .i64 m] w (PosZ (2 * P) 2 0 0 (vals (unr (2 * P - 1) S R)) [0, 0] w) := by
  subst hm
  have HS := Lib.hid (show RbAt w w.heap.size (P : Int) s c l st sk re fe ag _ from ⟨(ru_new (P : Int) s c l st sk re fe ag w 25).below (al1 _ (.cells #[.slice none 0 0, .slice none 0 0, .int .i64 0] 28)), al2 _ _ _⟩)
  have HZ := Lib.hid (zero_at1b (P : Int) s c l st sk re fe ag w 25 28)
  have HK := Lib.hid (fun u => chk_any (P : Int) s c l st sk re fe ag (S : Int) u)
  rw [hok, hc] at HK
  obtain ⟨hp1, hp2, -⟩ := okR_bd hok
  obtain ⟨-, S', hS', hS96, hb⟩ := n13_parts hc
  obtain rfl : S = S' := by omega
  rw [Int.toNat_natCast] at hb
  have hf := (cnt_fit (P := P) (S := S) (by omega) hb).1
  have hw2 : IntKind.i64.wrap (2 * (P : Int)) = 2 * (P : Int) := IntWalk.i64_in _ ⟨by omega, by omega⟩
  have HU : Hid (∀ (q : Int) (u : World), q = 2 * (P : Int) → Calls Try.prog 55 #[.int .i64 S, .int .i64 q, .int .i64 R] u (NxP (vals (unr (2 * P - 1) S R)) (2 * P) 0 u)) := Lib.hid (by
    rintro q u rfl
    have h := implUn_yes2 S (2 * P - 1) R u hS96 (by omega) (by rw [show 2 * P - 1 + 1 = 2 * P by omega]; omega) (by rw [show 2 * P - 1 + 1 = 2 * P by omega]; exact hR)
    rwa [show ((2 * P - 1 : Nat) : Int) + 1 = 2 * (P : Int) by omega, show 2 * P - 1 + 1 = 2 * P by omega] at h)
  have HL := Lib.hid (show (vals (unr (2 * P - 1) S R)).length = 2 * P by rw [vals_len, (unr_is (2 * P - 1) S R (by rw [show 2 * P - 1 + 1 = 2 * P by omega]; exact hR)).1]; omega)
  generalize vals (unr (2 * P - 1) S R) = L at *
  have hmk := run_make_row' (P := Try.prog) 26 2 (.int .i64 0) 8 Try.underlying26 infoN rfl .i64 .i64 2 (by omega) (by omega)
  have hmk2 : ∀ v : World, (Instr.makeSlice 26 (.int .i64 2) (.int .i64 2)).run Try.prog v = .ok (.slice (some ⟨v.heap.size, 0, none⟩) 2 2) (v.alloc (.cells (madeCells #[.int .i64 0] 2) 2)) := fun v => hmk v
  clear hok hc hS' hb hf hmk hR
  go_enter Try.func20, Try.ntmps20
  go_wp2_with fail
  refine (HK.out _).mono ?_
  rintro e u ⟨rfl, hb⟩
  have HS := Lib.hid (HS.out.below hb)
  have HZ := Lib.hid (HZ.out.below hb)
  have hz0 := HZ.out.lt
  clear hb
  obtain ⟨hz, r0, r1, r2, r3, r4, r5, r6, r7, r8⟩ := HS.out.1
  go_wp2_with fail
  clear hz r0 r1 r2 r3 r4 r5 r6 r7 r8
  refine (board_any (P : Int) s c l st sk re fe ag (by unfold I64; omega) _).mono ?_
  rintro e u ⟨rfl, hb⟩
  have HS := Lib.hid (HS.out.below hb)
  have HZ := Lib.hid (HZ.out.below hb)
  have hz0 := HZ.out.lt
  clear hb
  go_wp2_with fail
  refine (HU.out _ _ rfl).mono ?_
  rintro e v ⟨G, C, rfl, ho, hG, hC, hb⟩
  have hus := HS.out.2.size
  have HS := Lib.hid ((HS.out.below hb).below (al1 _ (.cells (madeCells #[.int .i64 0] 2) 2)))
  have HZ := Lib.hid ((HZ.out.below hb).below (al1 _ (.cells (madeCells #[.int .i64 0] 2) 2)))
  have HO := Lib.hid (show PosO (v.alloc (.cells (madeCells #[.int .i64 0] 2) 2)) u.heap.size (some ⟨G, 0, none⟩) (some ⟨v.heap.size, 0, none⟩) G v.heap.size (2 * P) 2 L [0, 0] from ⟨ho.below (al1 _ _), (out_made2b v).lower hb.size, by omega, HL.out, rfl⟩)
  have hG0 : u.heap.size ≤ G := ho.new
  have hvs := hb.size
  have hu1 := hz0
  clear hb ho
  obtain ⟨zl, z0, z1, z2, zf⟩ := HZ.out
  have f0 := zf 0
  have f1 := zf 1
  have f2 := zf 2
  clear zf
  go_wp2_with fail
  refine bodyPost_ret (v := .tuple #[.agg #[.slice (some ⟨G, 0, none⟩) (2 * P) C, .slice (some ⟨v.heap.size, 0, none⟩) 2 2, .int .i64 0], .int .i64 0]) (by simp [results, Try.results20, go_sem, z0, z1, z2]) rfl ?_
  exact posZ_of 0 (HO.out.set3 _ _ _ (by omega) (by omega)) (by omega) (by simp; omega) (by simp) hC (Nat.le_refl _) (HS.out.set3 (z := w.heap.size + 1) (by omega) (by omega) _ _ _).2
set_option maxHeartbeats 4000000 in
theorem at13_any (P S R : Nat) (s c l : Int) (st sk re fe ag : Bool) (m : Int) (b : Nat) (w : World) (hr : RuAt w b (P : Int) s c l st sk re fe ag) (hP : 2 ≤ P) (hP2 : P ≤ 8) (hS : S ≤ 96) (hf : cnt S (2 * P) ≤ 1000000000) (hm : m = (R : Int)) (hR : R < cnt S (2 * P)) :
    Calls Try.prog 66 #[.pointer (some ⟨b, 0, none⟩), .int .i64 S, .int .i64 m] w (PosQ (2 * P) 2 0 (vals (unr (2 * P - 1) S R)) [0, 0] w) := by
  subst hm
  have hb0 := hr.1
  have HR := Lib.hid (hr.below (al1 w (.cells #[.slice none 0 0, .slice none 0 0, .int .i64 0] 28)))
  have HZ := Lib.hid (zero_new w 28)
  have HB := Lib.hid (show OnW w _ from al1 w (.cells #[.slice none 0 0, .slice none 0 0, .int .i64 0] 28))
  have hw2 : IntKind.i64.wrap (2 * (P : Int)) = 2 * (P : Int) := IntWalk.i64_in _ ⟨by omega, by omega⟩
  have HU : Hid (∀ (q : Int) (u : World), q = 2 * (P : Int) → Calls Try.prog 87 #[.int .i64 S, .int .i64 q, .int .i64 R] u (OwnP (vals (unr (2 * P - 1) S R)) (2 * P) u)) := Lib.hid (by
    rintro q u rfl
    have h := specAt_any S (2 * P - 1) R (2 * (P : Int)) u (by omega) hS (by omega) (by rw [show 2 * P - 1 + 1 = 2 * P by omega]; omega) (by rw [show 2 * P - 1 + 1 = 2 * P by omega]; exact hR)
    rwa [show 2 * P - 1 + 1 = 2 * P by omega] at h)
  have HL := Lib.hid (show (vals (unr (2 * P - 1) S R)).length = 2 * P by rw [vals_len, (unr_is (2 * P - 1) S R (by rw [show 2 * P - 1 + 1 = 2 * P by omega]; exact hR)).1]; omega)
  generalize vals (unr (2 * P - 1) S R) = L at *
  have HNE : Hid (L ≠ []) := Lib.hid (by intro e; have := HL.out; rw [e] at this; simp at this; omega)
  obtain ⟨hz, r0, r1, r2, r3, r4, r5, r6, r7, r8⟩ := HR.out
  clear hr hf hR
  go_enter Try.func66, Try.ntmps66
  go_wp2_with fail
  clear hz r0 r1 r2 r3 r4 r5 r6 r7 r8
  refine (HU.out _ _ rfl).mono ?_
  rintro e v ⟨v1, rfl, hown, hb⟩
  obtain ⟨C, G, rfl, ho, hG, hC⟩ := outN_own hown HL.out (by omega) HNE.out
  have HB := Lib.hid ((HB.out.below hb).below (al1 _ (.cells #[.int .i64 0, .int .i64 0] 2)))
  have HZ := Lib.hid ((HZ.out.below hb).below (al1 _ (.cells #[.int .i64 0, .int .i64 0] 2)))
  have hG0 := ho.new
  simp at hG0
  have HO := Lib.hid (show PosO (v.alloc (.cells #[.int .i64 0, .int .i64 0] 2)) (w.heap.size + 1) (some ⟨G, 0, none⟩) (some ⟨v.heap.size, 0, none⟩) G v.heap.size (2 * P) 2 L [0, 0] from ⟨(ho.below (al1 _ _)).lower (by simp), (out_two v 0 0 _).lower (by have := hb.size; simpa using this), by omega, HL.out, rfl⟩)
  have hvs := hb.size
  simp at hvs
  clear hb ho hown
  obtain ⟨zl, z0, z1, z2, zf⟩ := HZ.out
  have f0 := zf 0
  have f1 := zf 1
  have f2 := zf 2
  clear zf
  go_wp2_with fail
  refine bodyPost_ret (v := .agg #[.slice (some ⟨G, 0, none⟩) (2 * P) C, .slice (some ⟨v.heap.size, 0, none⟩) 2 2, .int .i64 0]) (by simp [results, Try.results66, go_sem, z0, z1, z2]) rfl ⟨G, C, v.heap.size, 2, rfl, (HO.out.set3 _ _ _ (by omega) (by omega)).lower (by omega), by simp; omega, by simp, hC, Nat.le_refl _, HB.out.set3 (by omega) _ _ _⟩
set_option maxHeartbeats 2000000 in
theorem specPa_no (p s c l : Int) (st sk re fe ag : Bool) (n m cd : Int) (w : World) (hc : n13C (okR p s c l st ag) p n = cd) (h0 : cd ≠ 0) :
    Calls Try.prog 32 #[.agg #[.int .i64 p, .int .i64 s, .bool st, .bool sk, .bool re, .bool fe, .bool ag, .int .i64 c, .int .i64 l], .int .i64 n, .int .i64 m] w (PosZ 0 0 0 cd [] [] w) := by
  have HS := Lib.hid (show RbAt w w.heap.size p s c l st sk re fe ag _ from ⟨(ru_new p s c l st sk re fe ag w 25).below (al1 _ (.cells #[.slice none 0 0, .slice none 0 0, .int .i64 0] 28)), al2 _ _ _⟩)
  have HZ := Lib.hid (zero_at1b p s c l st sk re fe ag w 25 28)
  have HK := Lib.hid (fun (u : World) (hu : RuAt u w.heap.size p s c l st sk re fe ag) => code13_any p s c l st sk re fe ag n w.heap.size u hu)
  rw [hc] at HK
  have d1 : (cd != 0) = true := by simpa using h0
  have d2 : (cd == 0) = false := by simpa using h0
  clear hc h0
  go_enter Try.func32, Try.ntmps32
  go_wp2_with fail
  refine (HK.out _ HS.out.1).mono ?_
  rintro e u ⟨rfl, hb⟩
  have HS := Lib.hid (HS.out.below hb)
  have HZ := Lib.hid (HZ.out.below hb)
  have hz0 := HZ.out.lt
  clear hb
  obtain ⟨zl, z0, z1, z2, zf⟩ := HZ.out
  have f0 := zf 0
  have f1 := zf 1
  have f2 := zf 2
  clear zf
  go_wp2_with fail
  refine bodyPost_ret (v := .tuple #[.agg #[.slice none 0 0, .slice none 0 0, .int .i64 0], .int .i64 cd]) (by simp [results, Try.results32, go_sem, z0, z1, z2]) rfl ?_
  exact posZ_zero cd (HS.out.set3 (z := w.heap.size + 1) (by omega) (by omega) _ _ _).2 (by simp; omega)
set_option maxHeartbeats 2000000 in
theorem specPa_rg (P S : Nat) (s c l : Int) (st sk re fe ag : Bool) (m : Int) (w : World) (hok : okR (P : Int) s c l st ag = true) (hc : n13C true (P : Int) (S : Int) = 0) (hm : ¬ paK P S m) :
    Calls Try.prog 32 #[.agg #[.int .i64 P, .int .i64 s, .bool st, .bool sk, .bool re, .bool fe, .bool ag, .int .i64 c, .int .i64 l], .int .i64 S, .int .i64 m] w (PosZ 0 0 0 2 [] [] w) := by
  have HS := Lib.hid (show RbAt w w.heap.size (P : Int) s c l st sk re fe ag _ from ⟨(ru_new (P : Int) s c l st sk re fe ag w 25).below (al1 _ (.cells #[.slice none 0 0, .slice none 0 0, .int .i64 0] 28)), al2 _ _ _⟩)
  have HZ := Lib.hid (zero_at1b (P : Int) s c l st sk re fe ag w 25 28)
  have HK := Lib.hid (fun (u : World) (hu : RuAt u w.heap.size (P : Int) s c l st sk re fe ag) => code13_any (P : Int) s c l st sk re fe ag (S : Int) w.heap.size u hu)
  rw [hok, hc] at HK
  obtain ⟨hp1, hp2, -⟩ := okR_bd hok
  obtain ⟨-, S', hS', hS96, hb⟩ := n13_parts hc
  obtain rfl : S = S' := by omega
  rw [Int.toNat_natCast] at hb
  have hf := (cnt_fit (P := P) (S := S) (by omega) hb).1
  have hw2 : IntKind.i64.wrap (2 * (P : Int)) = 2 * (P : Int) := IntWalk.i64_in _ ⟨by omega, by omega⟩
  have HN : Hid (∀ (a b : Int) (u : World), a = (S : Int) → b = 2 * (P : Int) → Calls Try.prog 59 #[.int .i64 a, .int .i64 b] u fun e w' => e = .returned (.int .i64 (cnt S (2 * P) : Int)) ∧ Below u.heap.size u w') := Lib.hid (by
    rintro a b u rfl rfl
    have h := specN_any S (2 * P - 1) (S : Int) (2 * (P : Int)) u rfl (by omega) hS96 (by omega)
    rwa [show 2 * P - 1 + 1 = 2 * P by omega, cap_lo (Nat.le_trans (cnt_fit (by omega) hb).1 (by omega))] at h)
  have HI := Lib.hid (show (decide (0 ≤ m) && decide (m ≤ (cnt S (2 * P) : Int) - 1)) = false by
    unfold paK at hm
    by_cases h0 : 0 ≤ m
    · rw [decide_eq_false (by omega : ¬ m ≤ (cnt S (2 * P) : Int) - 1)]; simp
    · rw [decide_eq_false h0]; rfl)
  generalize cnt S (2 * P) = V at *
  clear hok hc hm hS' hb
  go_enter Try.func32, Try.ntmps32
  go_wp2_with fail
  refine (HK.out _ HS.out.1).mono ?_
  rintro e u ⟨rfl, hb⟩
  have HS := Lib.hid (HS.out.below hb)
  have HZ := Lib.hid (HZ.out.below hb)
  have hz0 := HZ.out.lt
  clear hb
  obtain ⟨hz, r0, r1, r2, r3, r4, r5, r6, r7, r8⟩ := HS.out.1
  go_wp2_with fail
  clear hz r0 r1 r2 r3 r4 r5 r6 r7 r8
  refine (HN.out _ _ _ rfl rfl).mono ?_
  rintro e u ⟨rfl, hb⟩
  have HS := Lib.hid (HS.out.below hb)
  have HZ := Lib.hid (HZ.out.below hb)
  have hz0 := HZ.out.lt
  clear hb
  obtain ⟨zl, z0, z1, z2, zf⟩ := HZ.out
  have f0 := zf 0
  have f1 := zf 1
  have f2 := zf 2
  clear zf
  go_wp2_with (go_at_call 65; with_reducible refine (in_b _ 0 _ false HI.out _).mono ?_; rintro e w' ⟨rfl, rfl⟩)
  refine bodyPost_ret (v := .tuple #[.agg #[.slice none 0 0, .slice none 0 0, .int .i64 0], .int .i64 2]) (by simp [results, Try.results32, go_sem, z0, z1, z2]) rfl ?_
  exact posZ_zero 2 (HS.out.set3 (z := w.heap.size + 1) (by omega) (by omega) _ _ _).2 (by simp; omega)
set_option maxHeartbeats 4000000 in
theorem specPa_yes (P S R : Nat) (s c l : Int) (st sk re fe ag : Bool) (m : Int) (w : World) (hok : okR (P : Int) s c l st ag = true) (hc : n13C true (P : Int) (S : Int) = 0) (hm : m = (R : Int)) (hR : R < cnt S (2 * P)) :
    Calls Try.prog 32 #[.agg #[.int .i64 P, .int .i64 s, .bool st, .bool sk, .bool re, .bool fe, .bool ag, .int .i64 c, .int .i64 l], .int .i64 S, .int .i64 m] w (PosZ (2 * P) 2 0 0 (vals (unr (2 * P - 1) S R)) [0, 0] w) := by
  have HS := Lib.hid (show RbAt w w.heap.size (P : Int) s c l st sk re fe ag _ from ⟨(ru_new (P : Int) s c l st sk re fe ag w 25).below (al1 _ (.cells #[.slice none 0 0, .slice none 0 0, .int .i64 0] 28)), al2 _ _ _⟩)
  have HZ := Lib.hid (zero_at1b (P : Int) s c l st sk re fe ag w 25 28)
  have HK := Lib.hid (fun (u : World) (hu : RuAt u w.heap.size (P : Int) s c l st sk re fe ag) => code13_any (P : Int) s c l st sk re fe ag (S : Int) w.heap.size u hu)
  rw [hok, hc] at HK
  obtain ⟨hp1, hp2, -⟩ := okR_bd hok
  obtain ⟨-, S', hS', hS96, hb⟩ := n13_parts hc
  obtain rfl : S = S' := by omega
  rw [Int.toNat_natCast] at hb
  have hf := (cnt_fit (P := P) (S := S) (by omega) hb).1
  have hw2 : IntKind.i64.wrap (2 * (P : Int)) = 2 * (P : Int) := IntWalk.i64_in _ ⟨by omega, by omega⟩
  have HN : Hid (∀ (a b : Int) (u : World), a = (S : Int) → b = 2 * (P : Int) → Calls Try.prog 59 #[.int .i64 a, .int .i64 b] u fun e w' => e = .returned (.int .i64 (cnt S (2 * P) : Int)) ∧ Below u.heap.size u w') := Lib.hid (by
    rintro a b u rfl rfl
    have h := specN_any S (2 * P - 1) (S : Int) (2 * (P : Int)) u rfl (by omega) hS96 (by omega)
    rwa [show 2 * P - 1 + 1 = 2 * P by omega, cap_lo (Nat.le_trans (cnt_fit (by omega) hb).1 (by omega))] at h)
  have HI := Lib.hid (show (decide (0 ≤ m) && decide (m ≤ (cnt S (2 * P) : Int) - 1)) = true by
    rw [decide_eq_true (by omega : 0 ≤ m), decide_eq_true (by omega : m ≤ (cnt S (2 * P) : Int) - 1)]; rfl)
  have HA := Lib.hid (fun (u : World) (hu : RuAt u w.heap.size (P : Int) s c l st sk re fe ag) => at13_any P S R s c l st sk re fe ag m w.heap.size u hu (by omega) (by omega) hS96 hf hm hR)
  generalize vals (unr (2 * P - 1) S R) = L at *
  generalize cnt S (2 * P) = V at *
  clear hok hc hm hS' hb hR
  go_enter Try.func32, Try.ntmps32
  go_wp2_with fail
  refine (HK.out _ HS.out.1).mono ?_
  rintro e u ⟨rfl, hb⟩
  have HS := Lib.hid (HS.out.below hb)
  have HZ := Lib.hid (HZ.out.below hb)
  have hz0 := HZ.out.lt
  clear hb
  obtain ⟨hz, r0, r1, r2, r3, r4, r5, r6, r7, r8⟩ := HS.out.1
  go_wp2_with fail
  clear hz r0 r1 r2 r3 r4 r5 r6 r7 r8
  refine (HN.out _ _ _ rfl rfl).mono ?_
  rintro e u ⟨rfl, hb⟩
  have HS := Lib.hid (HS.out.below hb)
  have HZ := Lib.hid (HZ.out.below hb)
  have hz0 := HZ.out.lt
  clear hb
  go_wp2_with (go_at_call 65; with_reducible refine (in_b _ 0 _ true HI.out _).mono ?_; rintro e w' ⟨rfl, rfl⟩)
  refine (HA.out _ HS.out.1).mono ?_
  rintro e v ⟨g1, c1, g2, c2, rfl, ho, l1, l2, q1, q2, hb⟩
  have hus := HS.out.2.size
  have HS := Lib.hid (HS.out.below hb)
  have HZ := Lib.hid (HZ.out.below hb)
  have HO := Lib.hid ho
  have n1 := ho.o1.new
  have n2 := ho.o2.new
  clear hb ho
  obtain ⟨zl, z0, z1, z2, zf⟩ := HZ.out
  have f0 := zf 0
  have f1 := zf 1
  have f2 := zf 2
  clear zf
  go_wp2_with fail
  refine bodyPost_ret (v := .tuple #[.agg #[.slice (some ⟨g1, 0, none⟩) (2 * P) c1, .slice (some ⟨g2, 0, none⟩) 2 c2, .int .i64 0], .int .i64 0]) (by simp [results, Try.results32, go_sem, z0, z1, z2]) rfl ?_
  exact posZ_of 0 (HO.out.set3 _ _ _ (by omega) (by omega)) (by omega) (by simpa using l1) (by simpa using l2) q1 q2 (HS.out.set3 (z := w.heap.size + 1) (by omega) (by omega) _ _ _).2
end Go.Proofs.Ythbgfkklejnhiaa
