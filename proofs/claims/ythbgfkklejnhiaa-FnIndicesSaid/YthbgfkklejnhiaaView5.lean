/- The view of the player to move: the reference's and the program's. No conditions. -/
import Derived.Test.YthbgfkklejnhiaaView4
namespace Go.Proofs.Ythbgfkklejnhiaa
open Go.Joins Go.ChangeShapes Go.WideShapes Go.ChangeAt Go.RowKit Go.Deep
set_option linter.unusedVariables false

set_option maxHeartbeats 2000000 in
theorem l04View_one (P : Nat) (s c l : Int) (st sk re fe ag : Bool) (p1 p2 : Option Addr) (pn1 pc1 pn2 pc2 : Nat) (xs : List Int) (y0 y1 : Int) (b d : Nat) (w : World) (hr : RuAt w b (P : Int) s c l st sk re fe ag) (hp : PoAt w d p1 p2 pn1 pc1 pn2 pc2 1) (h : PosR w p1 p2 pn1 pn2 xs [y0, y1]) (hP : 2 ≤ P) (hP2 : P ≤ 8) (hn : pn1 = 2 * P) (h2 : pn2 = 2) (hc1 : pn1 ≤ pc1) :
    Calls Try.prog 54 #[.pointer (some ⟨b, 0, none⟩), .pointer (some ⟨d, 0, none⟩)] w (PosQ (2 * P) 2 0 (turnL P xs) [y1, y0] w) := by
  subst hn
  subst h2
  have hne : xs ≠ [] := by intro e; have := h.l1; rw [e] at this; simp at this; omega
  have H := Lib.hid h
  have HZ := Lib.hid (zero_new w 28)
  have HB := Lib.hid (show OnW w _ from al1 w (.cells #[.slice none 0 0, .slice none 0 0, .int .i64 0] 28))
  obtain ⟨hd, k0, k1, k2⟩ := hp
  have hp : PoAt w d p1 p2 (2 * P) pc1 2 pc2 1 := ⟨hd, k0, k1, k2⟩
  clear h
  go_enter Try.func54, Try.ntmps54
  go_wp2_with fail
  refine (l04Turn_any P s c l st sk re fe ag p1 p2 (2 * P) pc1 2 pc2 1 xs y0 y1 b d _ (hr.below (al1 _ _)) (hp.below (al1 _ _)) (H.out.below (al1 _ _)) hP hP2 rfl rfl hc1 (by omega) (by omega)).mono ?_
  rintro e v ⟨g1, c1, g2, c2, rfl, ho, l1, l2, q1, q2, hb⟩
  have hz0 := HZ.out.lt
  obtain ⟨zl, z0, z1, z2, zf⟩ := HZ.out.below hb
  have HB := Lib.hid (HB.out.below hb)
  have f0 := zf 0
  have f1 := zf 1
  have f2 := zf 2
  have HO := Lib.hid ho
  have n1 := ho.o1.new
  have n2 := ho.o2.new
  clear zf hb ho k0 k1 k2 hr hp
  go_wp2_with fail
  refine bodyPost_ret (v := .agg #[.slice (some ⟨g1, 0, none⟩) (2 * P) c1, .slice (some ⟨g2, 0, none⟩) 2 c2, .int .i64 0]) (by simp [results, Try.results54, go_sem, z0, z1, z2]) rfl ⟨g1, c1, g2, c2, rfl, (HO.out.set3 _ _ _ (by omega) (by omega)).lower (by simp), by simpa using l1, by simpa using l2, q1, q2, HB.out.set3 (Nat.le_refl _) _ _ _⟩
set_option maxHeartbeats 2000000 in
theorem l04View_zero (P : Nat) (s c l : Int) (st sk re fe ag : Bool) (p1 p2 : Option Addr) (pn1 pc1 pn2 pc2 : Nat) (xs : List Int) (y0 y1 : Int) (b d : Nat) (w : World) (hr : RuAt w b (P : Int) s c l st sk re fe ag) (hp : PoAt w d p1 p2 pn1 pc1 pn2 pc2 0) (h : PosR w p1 p2 pn1 pn2 xs [y0, y1]) (hP : 2 ≤ P) (hP2 : P ≤ 8) (hn : pn1 = 2 * P) (h2 : pn2 = 2) (hc1 : pn1 ≤ pc1) :
    Calls Try.prog 54 #[.pointer (some ⟨b, 0, none⟩), .pointer (some ⟨d, 0, none⟩)] w (PosQ (2 * P) 2 0 (xs) [y0, y1] w) := by
  subst hn
  subst h2
  have hne : xs ≠ [] := by intro e; have := h.l1; rw [e] at this; simp at this; omega
  have H := Lib.hid h
  have HZ := Lib.hid (zero_new w 28)
  have HB := Lib.hid (show OnW w _ from al1 w (.cells #[.slice none 0 0, .slice none 0 0, .int .i64 0] 28))
  obtain ⟨hd, k0, k1, k2⟩ := hp
  have hp : PoAt w d p1 p2 (2 * P) pc1 2 pc2 0 := ⟨hd, k0, k1, k2⟩
  clear h
  go_enter Try.func54, Try.ntmps54
  go_wp2_with fail
  refine (l04Own_any p1 p2 (2 * P) pc1 2 pc2 0 xs [y0, y1] d _ (hp.below (al1 _ _)) (H.out.below (al1 _ _)) hne (by simp)).mono ?_
  rintro e v ⟨g1, c1, g2, c2, rfl, ho, l1, l2, q1, q2, hb⟩
  have hz0 := HZ.out.lt
  obtain ⟨zl, z0, z1, z2, zf⟩ := HZ.out.below hb
  have HB := Lib.hid (HB.out.below hb)
  have f0 := zf 0
  have f1 := zf 1
  have f2 := zf 2
  have HO := Lib.hid ho
  have n1 := ho.o1.new
  have n2 := ho.o2.new
  clear zf hb ho k0 k1 k2 hr hp
  go_wp2_with fail
  refine bodyPost_ret (v := .agg #[.slice (some ⟨g1, 0, none⟩) (2 * P) c1, .slice (some ⟨g2, 0, none⟩) 2 c2, .int .i64 0]) (by simp [results, Try.results54, go_sem, z0, z1, z2]) rfl ⟨g1, c1, g2, c2, rfl, (HO.out.set3 _ _ _ (by omega) (by omega)).lower (by simp), by simpa using l1, by simpa using l2, q1, q2, HB.out.set3 (Nat.le_refl _) _ _ _⟩
theorem specView_no (p s c l : Int) (st sk re fe ag : Bool) (p1 p2 : Option Addr) (pn1 pc1 pn2 pc2 : Nat) (pp : Int) (xs ys : List Int) (w : World) (h : PosR w p1 p2 pn1 pn2 xs ys) (hk : okP (okR p s c l st ag) p pn1 pn2 pp xs ys = false) :
    Calls Try.prog 19 #[.agg #[.int .i64 p, .int .i64 s, .bool st, .bool sk, .bool re, .bool fe, .bool ag, .int .i64 c, .int .i64 l], .agg #[.slice p1 pn1 pc1, .slice p2 pn2 pc2, .int .i64 pp]] w (PosZ 0 0 0 1 [] [] w) := by
  have H := Lib.hid h
  have HS := Lib.hid ((rp_new p s c l st sk re fe ag p1 p2 pn1 pc1 pn2 pc2 pp w 25 28).below (al1 _ (.cells #[.slice none 0 0, .slice none 0 0, .int .i64 0] 28)))
  have HZ := Lib.hid (zero_at2 p s c l st sk re fe ag p1 p2 pn1 pc1 pn2 pc2 pp w 25 28 28)
  have Hk := Lib.hid hk
  clear h hk
  go_enter Try.func19, Try.ntmps19
  go_wp2_with fail
  refine (l04Ok_at p s c l st sk re fe ag p1 p2 pn1 pc1 pn2 pc2 pp xs ys _ _ _ HS.out.1 HS.out.2.1 (H.out.below HS.out.2.2) _ Hk.out).mono ?_
  rintro e u ⟨rfl, m, rfl⟩
  have HS := Lib.hid (HS.out.drewN m)
  obtain ⟨zl, z0, z1, z2, zf⟩ := HZ.out.below (below_dn (Below.refl _ _) m)
  have f0 := zf 0
  have f1 := zf 1
  have f2 := zf 2
  clear zf
  go_wp2_with fail
  refine bodyPost_ret (v := .tuple #[.agg #[.slice none 0 0, .slice none 0 0, .int .i64 0], .int .i64 1]) (by simp [results, Try.results19, go_sem, z0, z1, z2]) rfl ?_
  exact posZ_zero 1 (HS.out.set3z _ _ _).2.2 (by simp)
set_option maxHeartbeats 2000000 in
theorem specView_one (P : Nat) (s c l : Int) (st sk re fe ag : Bool) (p1 p2 : Option Addr) (pn1 pc1 pn2 pc2 : Nat) (pp : Int) (xs : List Int) (y0 y1 : Int) (w : World) (h : PosR w p1 p2 pn1 pn2 xs [y0, y1]) (hP : 2 ≤ P) (hP2 : P ≤ 8) (hn : pn1 = 2 * P) (h2 : pn2 = 2) (hc1 : pn1 ≤ pc1) (hpp : pp = 1) (hk : okP (okR (P : Int) s c l st ag) (P : Int) pn1 pn2 pp xs [y0, y1] = true) :
    Calls Try.prog 19 #[.agg #[.int .i64 P, .int .i64 s, .bool st, .bool sk, .bool re, .bool fe, .bool ag, .int .i64 c, .int .i64 l], .agg #[.slice p1 pn1 pc1, .slice p2 pn2 pc2, .int .i64 pp]] w (PosZ (2 * P) 2 0 0 (turnL P xs) [y1, y0] w) := by
  subst hn
  subst h2
  subst hpp
  have H := Lib.hid h
  have HS := Lib.hid ((rp_new (P : Int) s c l st sk re fe ag p1 p2 (2 * P) pc1 2 pc2 1 w 25 28).below (al1 _ (.cells #[.slice none 0 0, .slice none 0 0, .int .i64 0] 28)))
  have HZ := Lib.hid (zero_at2 (P : Int) s c l st sk re fe ag p1 p2 (2 * P) pc1 2 pc2 1 w 25 28 28)
  have Hk := Lib.hid hk
  clear h hk
  go_enter Try.func19, Try.ntmps19
  go_wp2_with fail
  refine (l04Ok_at (P : Int) s c l st sk re fe ag p1 p2 (2 * P) pc1 2 pc2 1 xs [y0, y1] _ _ _ HS.out.1 HS.out.2.1 (H.out.below HS.out.2.2) _ Hk.out).mono ?_
  rintro e u ⟨rfl, m, rfl⟩
  have HS := Lib.hid (HS.out.drewN m)
  have HZ := Lib.hid (HZ.out.below (below_dn (Below.refl _ _) m))
  go_wp2_with fail
  refine (l04View_one P s c l st sk re fe ag p1 p2 (2 * P) pc1 2 pc2 xs y0 y1 _ _ _ HS.out.1 HS.out.2.1 (H.out.below HS.out.2.2) hP hP2 rfl rfl hc1).mono ?_
  rintro e v ⟨g1, c1, g2, c2, rfl, ho, l1, l2, k1, k2, hb⟩
  have HS := Lib.hid (HS.out.below hb)
  have zl0 := HZ.out.lt
  obtain ⟨zl, z0, z1, z2, zf⟩ := HZ.out.below hb
  have f0 := zf 0
  have f1 := zf 1
  have f2 := zf 2
  have HO := Lib.hid ho
  have n1 := ho.o1.new
  have n2 := ho.o2.new
  clear zf hb ho
  go_wp2_with fail
  refine bodyPost_ret (v := .tuple #[.agg #[.slice (some ⟨g1, 0, none⟩) (2 * P) c1, .slice (some ⟨g2, 0, none⟩) 2 c2, .int .i64 0], .int .i64 0]) (by simp [results, Try.results19, go_sem, z0, z1, z2]) rfl ?_
  exact posZ_of 0 (HO.out.set3 _ _ _ (by omega) (by omega)) (by simp; omega) (by simpa using l1) (by simpa using l2) k1 k2 (HS.out.set3z _ _ _).2.2
set_option maxHeartbeats 2000000 in
theorem specView_zero (P : Nat) (s c l : Int) (st sk re fe ag : Bool) (p1 p2 : Option Addr) (pn1 pc1 pn2 pc2 : Nat) (pp : Int) (xs : List Int) (y0 y1 : Int) (w : World) (h : PosR w p1 p2 pn1 pn2 xs [y0, y1]) (hP : 2 ≤ P) (hP2 : P ≤ 8) (hn : pn1 = 2 * P) (h2 : pn2 = 2) (hc1 : pn1 ≤ pc1) (hpp : pp = 0) (hk : okP (okR (P : Int) s c l st ag) (P : Int) pn1 pn2 pp xs [y0, y1] = true) :
    Calls Try.prog 19 #[.agg #[.int .i64 P, .int .i64 s, .bool st, .bool sk, .bool re, .bool fe, .bool ag, .int .i64 c, .int .i64 l], .agg #[.slice p1 pn1 pc1, .slice p2 pn2 pc2, .int .i64 pp]] w (PosZ (2 * P) 2 0 0 (xs) [y0, y1] w) := by
  subst hn
  subst h2
  subst hpp
  have H := Lib.hid h
  have HS := Lib.hid ((rp_new (P : Int) s c l st sk re fe ag p1 p2 (2 * P) pc1 2 pc2 0 w 25 28).below (al1 _ (.cells #[.slice none 0 0, .slice none 0 0, .int .i64 0] 28)))
  have HZ := Lib.hid (zero_at2 (P : Int) s c l st sk re fe ag p1 p2 (2 * P) pc1 2 pc2 0 w 25 28 28)
  have Hk := Lib.hid hk
  clear h hk
  go_enter Try.func19, Try.ntmps19
  go_wp2_with fail
  refine (l04Ok_at (P : Int) s c l st sk re fe ag p1 p2 (2 * P) pc1 2 pc2 0 xs [y0, y1] _ _ _ HS.out.1 HS.out.2.1 (H.out.below HS.out.2.2) _ Hk.out).mono ?_
  rintro e u ⟨rfl, m, rfl⟩
  have HS := Lib.hid (HS.out.drewN m)
  have HZ := Lib.hid (HZ.out.below (below_dn (Below.refl _ _) m))
  go_wp2_with fail
  refine (l04View_zero P s c l st sk re fe ag p1 p2 (2 * P) pc1 2 pc2 xs y0 y1 _ _ _ HS.out.1 HS.out.2.1 (H.out.below HS.out.2.2) hP hP2 rfl rfl hc1).mono ?_
  rintro e v ⟨g1, c1, g2, c2, rfl, ho, l1, l2, k1, k2, hb⟩
  have HS := Lib.hid (HS.out.below hb)
  have zl0 := HZ.out.lt
  obtain ⟨zl, z0, z1, z2, zf⟩ := HZ.out.below hb
  have f0 := zf 0
  have f1 := zf 1
  have f2 := zf 2
  have HO := Lib.hid ho
  have n1 := ho.o1.new
  have n2 := ho.o2.new
  clear zf hb ho
  go_wp2_with fail
  refine bodyPost_ret (v := .tuple #[.agg #[.slice (some ⟨g1, 0, none⟩) (2 * P) c1, .slice (some ⟨g2, 0, none⟩) 2 c2, .int .i64 0], .int .i64 0]) (by simp [results, Try.results19, go_sem, z0, z1, z2]) rfl ?_
  exact posZ_of 0 (HO.out.set3 _ _ _ (by omega) (by omega)) (by simp; omega) (by simpa using l1) (by simpa using l2) k1 k2 (HS.out.set3z _ _ _).2.2
theorem implView_no (p s c l : Int) (st sk re fe ag : Bool) (p1 p2 : Option Addr) (pn1 pc1 pn2 pc2 : Nat) (pp : Int) (xs ys : List Int) (w : World) (h : PosR w p1 p2 pn1 pn2 xs ys) (hk : okP (okR p s c l st ag) p pn1 pn2 pp xs ys = false) :
    Calls Try.prog 51 #[.agg #[.int .i64 p, .int .i64 s, .bool st, .bool sk, .bool re, .bool fe, .bool ag, .int .i64 c, .int .i64 l], .agg #[.slice p1 pn1 pc1, .slice p2 pn2 pc2, .int .i64 pp]] w (PosZ 0 0 0 1 [] [] w) := by
  have H := Lib.hid h
  have HS := Lib.hid ((rp_new p s c l st sk re fe ag p1 p2 pn1 pc1 pn2 pc2 pp w 25 28).below (al1 _ (.cells #[.slice none 0 0, .slice none 0 0, .int .i64 0] 28)))
  have HZ := Lib.hid (zero_at2 p s c l st sk re fe ag p1 p2 pn1 pc1 pn2 pc2 pp w 25 28 28)
  have Hk := Lib.hid hk
  clear h hk
  go_enter Try.func51, Try.ntmps51
  go_wp2_with fail
  refine (implValid_b p s c l st sk re fe ag p1 p2 pn1 pc1 pn2 pc2 pp xs ys _ (H.out.below HS.out.2.2) _ Hk.out).mono ?_
  rintro e u ⟨rfl, hb⟩
  have HS := Lib.hid (HS.out.below hb)
  obtain ⟨zl, z0, z1, z2, zf⟩ := HZ.out.below hb
  have f0 := zf 0
  have f1 := zf 1
  have f2 := zf 2
  clear hb zf
  go_wp2_with fail
  refine bodyPost_ret (v := .tuple #[.agg #[.slice none 0 0, .slice none 0 0, .int .i64 0], .int .i64 1]) (by simp [results, Try.results51, go_sem, z0, z1, z2]) rfl ?_
  exact posZ_zero 1 (HS.out.set3z _ _ _).2.2 (by simp; omega)
set_option maxHeartbeats 2000000 in
theorem implView_one (P : Nat) (s c l : Int) (st sk re fe ag : Bool) (g o g2 o2 pc1 pc2 : Nat) (xs : List Int) (y0 y1 : Int) (w : World) (h : PosR w (some ⟨g, o, none⟩) (some ⟨g2, o2, none⟩) (2 * P) 2 xs [y0, y1]) (hP : 2 ≤ P) (hP2 : P ≤ 8) (hc1 : 2 * P ≤ pc1) (hk : okP (okR (P : Int) s c l st ag) (P : Int) (2 * P) 2 1 xs [y0, y1] = true) :
    Calls Try.prog 51 #[.agg #[.int .i64 P, .int .i64 s, .bool st, .bool sk, .bool re, .bool fe, .bool ag, .int .i64 c, .int .i64 l], .agg #[.slice (some ⟨g, o, none⟩) (2 * P) pc1, .slice (some ⟨g2, o2, none⟩) 2 pc2, .int .i64 1]] w (PosZ (2 * P) 2 0 0 (turnL P xs) [y1, y0] w) := by
  have hne : xs ≠ [] := by intro e; have := h.l1; rw [e] at this; simp at this; omega
  have H := Lib.hid h
  have HN := Lib.hid hne
  have HS := Lib.hid ((rp_new (P : Int) s c l st sk re fe ag (some ⟨g, o, none⟩) (some ⟨g2, o2, none⟩) (2 * P) pc1 2 pc2 1 w 25 28).below (al1 _ (.cells #[.slice none 0 0, .slice none 0 0, .int .i64 0] 28)))
  have HZ := Lib.hid (zero_at2 (P : Int) s c l st sk re fe ag (some ⟨g, o, none⟩) (some ⟨g2, o2, none⟩) (2 * P) pc1 2 pc2 1 w 25 28 28)
  have Hk := Lib.hid hk
  clear h hk hne
  go_enter Try.func51, Try.ntmps51
  go_wp2_with fail
  refine (implValid_b (P : Int) s c l st sk re fe ag (some ⟨g, o, none⟩) (some ⟨g2, o2, none⟩) (2 * P) pc1 2 pc2 1 xs [y0, y1] _ (H.out.below HS.out.2.2) _ Hk.out).mono ?_
  rintro e u ⟨rfl, hb⟩
  have HS := Lib.hid (HS.out.below hb)
  have HZ := Lib.hid (HZ.out.below hb)
  clear hb
  obtain ⟨⟨hb0, r0, r1, r2, r3, r4, r5, r6, r7, r8⟩, ⟨hd0, k0, k1, k2⟩, -⟩ := HS.out
  go_wp2_with fail
  clear hb0 r0 r1 r2 r3 r4 r5 r6 r7 r8 hd0 k0 k1 k2
  refine (implTurn_yes P s c l st sk re fe ag g o g2 o2 pc1 pc2 1 xs y0 y1 _ (H.out.below HS.out.2.2) hP hP2 hc1 (by omega) (by omega) Hk.out).mono ?_
  rintro e v ⟨a1, c1, b1, a2, c2, b2, rfl, ho, l1, l2, q1, q2, hb⟩
  have HS := Lib.hid (HS.out.below hb)
  have zl0 := HZ.out.lt
  obtain ⟨zl, z0, z1, z2, zf⟩ := HZ.out.below hb
  have f0 := zf 0
  have f1 := zf 1
  have f2 := zf 2
  have HO := Lib.hid ho
  have n1 := ho.o1.new
  have n2 := ho.o2.new
  clear zf hb ho
  go_wp2_with fail
  refine bodyPost_ret (v := .tuple #[.agg #[.slice a1 (2 * P) c1, .slice a2 2 c2, .int .i64 0], .int .i64 0]) (by simp [results, Try.results51, go_sem, z0, z1, z2]) rfl ?_
  exact posZ_of 0 (HO.out.set3 _ _ _ (by omega) (by omega)) (by first | omega | (simp; omega)) (by simpa using l1) (by simpa using l2) q1 q2 (HS.out.set3z _ _ _).2.2
set_option maxHeartbeats 2000000 in
theorem implView_zero (P : Nat) (s c l : Int) (st sk re fe ag : Bool) (g o g2 o2 pc1 pc2 : Nat) (xs : List Int) (y0 y1 : Int) (w : World) (h : PosR w (some ⟨g, o, none⟩) (some ⟨g2, o2, none⟩) (2 * P) 2 xs [y0, y1]) (hP : 2 ≤ P) (hP2 : P ≤ 8) (hc1 : 2 * P ≤ pc1) (hk : okP (okR (P : Int) s c l st ag) (P : Int) (2 * P) 2 0 xs [y0, y1] = true) :
    Calls Try.prog 51 #[.agg #[.int .i64 P, .int .i64 s, .bool st, .bool sk, .bool re, .bool fe, .bool ag, .int .i64 c, .int .i64 l], .agg #[.slice (some ⟨g, o, none⟩) (2 * P) pc1, .slice (some ⟨g2, o2, none⟩) 2 pc2, .int .i64 0]] w (PosZ (2 * P) 2 0 0 (xs) [y0, y1] w) := by
  have hne : xs ≠ [] := by intro e; have := h.l1; rw [e] at this; simp at this; omega
  have H := Lib.hid h
  have HN := Lib.hid hne
  have HS := Lib.hid ((rp_new (P : Int) s c l st sk re fe ag (some ⟨g, o, none⟩) (some ⟨g2, o2, none⟩) (2 * P) pc1 2 pc2 0 w 25 28).below (al1 _ (.cells #[.slice none 0 0, .slice none 0 0, .int .i64 0] 28)))
  have HZ := Lib.hid (zero_at2 (P : Int) s c l st sk re fe ag (some ⟨g, o, none⟩) (some ⟨g2, o2, none⟩) (2 * P) pc1 2 pc2 0 w 25 28 28)
  have Hk := Lib.hid hk
  clear h hk hne
  go_enter Try.func51, Try.ntmps51
  go_wp2_with fail
  refine (implValid_b (P : Int) s c l st sk re fe ag (some ⟨g, o, none⟩) (some ⟨g2, o2, none⟩) (2 * P) pc1 2 pc2 0 xs [y0, y1] _ (H.out.below HS.out.2.2) _ Hk.out).mono ?_
  rintro e u ⟨rfl, hb⟩
  have HS := Lib.hid (HS.out.below hb)
  have HZ := Lib.hid (HZ.out.below hb)
  clear hb
  obtain ⟨⟨hb0, r0, r1, r2, r3, r4, r5, r6, r7, r8⟩, ⟨hd0, k0, k1, k2⟩, -⟩ := HS.out
  go_wp2_with fail
  clear hb0 r0 r1 r2 r3 r4 r5 r6 r7 r8 hd0 k0 k1 k2
  refine (copy_any (some ⟨g, o, none⟩) (some ⟨g2, o2, none⟩) (2 * P) pc1 2 pc2 0 xs [y0, y1] _ (H.out.below HS.out.2.2) HN.out (by simp)).mono ?_
  rintro e v ⟨b1, c1, b2, c2, rfl, ho, l1, l2, q1, q2, hb⟩
  have HS := Lib.hid (HS.out.below hb)
  have zl0 := HZ.out.lt
  obtain ⟨zl, z0, z1, z2, zf⟩ := HZ.out.below hb
  have f0 := zf 0
  have f1 := zf 1
  have f2 := zf 2
  have HO := Lib.hid ho
  have n1 := ho.o1.new
  have n2 := ho.o2.new
  clear zf hb ho
  go_wp2_with fail
  refine bodyPost_ret (v := .tuple #[.agg #[.slice (some ⟨b1, 0, none⟩) (2 * P) c1, .slice (some ⟨b2, 0, none⟩) 2 c2, .int .i64 0], .int .i64 0]) (by simp [results, Try.results51, go_sem, z0, z1, z2]) rfl ?_
  exact posZ_of 0 (HO.out.set3 _ _ _ (by omega) (by omega)) (by first | omega | (simp; omega)) (by simpa using l1) (by simpa using l2) q1 q2 (HS.out.set3z _ _ _).2.2
theorem view_ex (p s c l : Int) (st sk re fe ag : Bool) (pn1 pn2 : Nat) (pp : Int) (xs ys : List Int) (l1 : xs.length = pn1) (l2 : ys.length = pn2) :
    ∃ (m1 m2 : Nat) (pl cd : Int) (us vs : List Int), m1 ≤ 10000000 ∧ m2 ≤ 10000000 ∧
      (∀ (g1 g2 : Nat) (w : World), PosR w (some ⟨g1, 0, none⟩) (some ⟨g2, 0, none⟩) pn1 pn2 xs ys → Calls Try.prog 19 #[.agg #[.int .i64 p, .int .i64 s, .bool st, .bool sk, .bool re, .bool fe, .bool ag, .int .i64 c, .int .i64 l], .agg #[.slice (some ⟨g1, 0, none⟩) pn1 pn1, .slice (some ⟨g2, 0, none⟩) pn2 pn2, .int .i64 pp]] w (PosZ m1 m2 pl cd us vs w)) ∧
      (∀ (g1 g2 : Nat) (w : World), PosR w (some ⟨g1, 0, none⟩) (some ⟨g2, 0, none⟩) pn1 pn2 xs ys → Calls Try.prog 51 #[.agg #[.int .i64 p, .int .i64 s, .bool st, .bool sk, .bool re, .bool fe, .bool ag, .int .i64 c, .int .i64 l], .agg #[.slice (some ⟨g1, 0, none⟩) pn1 pn1, .slice (some ⟨g2, 0, none⟩) pn2 pn2, .int .i64 pp]] w (PosZ m1 m2 pl cd us vs w)) := by
  cases hk : okP (okR p s c l st ag) p pn1 pn2 pp xs ys
  · exact ⟨0, 0, 0, 1, [], [], by omega, by omega, fun g1 g2 w h => specView_no p s c l st sk re fe ag _ _ _ _ _ _ _ _ _ w h hk, fun g1 g2 w h => implView_no p s c l st sk re fe ag _ _ _ _ _ _ _ _ _ w h hk⟩
  · obtain ⟨hok, hn1, hn2, hpl, hs⟩ := okP_parts hk
    obtain ⟨hp1, hp2, -⟩ := okR_bd hok
    obtain ⟨P, rfl⟩ : ∃ P : Nat, p = (P : Int) := ⟨p.toNat, by omega⟩
    have e1 : pn1 = 2 * P := by omega
    have e2 : pn2 = 2 := by omega
    subst e1
    subst e2
    obtain ⟨y0, y1, rfl⟩ := two_of l2
    have hpp : pp = 0 ∨ pp = 1 := by omega
    rcases hpp with rfl | rfl
    · exact ⟨2 * P, 2, 0, 0, xs, [y0, y1], by omega, by omega, fun g1 g2 w h => specView_zero P s c l st sk re fe ag _ _ _ _ _ _ _ xs y0 y1 w h (by omega) (by omega) rfl rfl (Nat.le_refl _) rfl hk,
        fun g1 g2 w h => implView_zero P s c l st sk re fe ag g1 0 g2 0 _ _ xs y0 y1 w h (by omega) (by omega) (Nat.le_refl _) hk⟩
    · exact ⟨2 * P, 2, 0, 0, turnL P xs, [y1, y0], by omega, by omega, fun g1 g2 w h => specView_one P s c l st sk re fe ag _ _ _ _ _ _ _ xs y0 y1 w h (by omega) (by omega) rfl rfl (Nat.le_refl _) rfl hk,
        fun g1 g2 w h => implView_one P s c l st sk re fe ag g1 0 g2 0 _ _ xs y0 y1 w h (by omega) (by omega) (Nat.le_refl _) hk⟩
end Go.Proofs.Ythbgfkklejnhiaa
