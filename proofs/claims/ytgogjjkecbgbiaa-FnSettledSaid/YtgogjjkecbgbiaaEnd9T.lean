/- SettlePosition and GivePosition of both sides. No conditions. -/
import Derived.Test.YtgogjjkecbgbiaaEnd9G
import Derived.Test.YtgogjjkecbgbiaaTurnEx
namespace Go.Proofs.Ytgogjjkecbgbiaa
open Go.Joins Go.ChangeShapes Go.WideShapes Go.ChangeAt Go.RowKit Go.Deep
set_option linter.unusedVariables false

set_option maxHeartbeats 2000000 in
set_option maxRecDepth 100000 in
theorem specSettle_no (p s c l : Int) (st sk re fe ag : Bool) (p1 p2 : Option Addr) (pn1 pc1 pn2 pc2 : Nat) (pp : Int) (xs ys : List Int) (w : World) (h : PosR w p1 p2 pn1 pn2 xs ys) (hk : okP (okR p s c l st ag) p pn1 pn2 pp xs ys = false) :
    Calls Try.prog 9 #[.agg #[.int .i64 p, .int .i64 s, .bool st, .bool sk, .bool re, .bool fe, .bool ag, .int .i64 c, .int .i64 l], .agg #[.slice p1 pn1 pc1, .slice p2 pn2 pc2, .int .i64 pp]] w (PosZ 0 0 0 1 [] [] w) := by
  have H := Lib.hid h
  have HS := Lib.hid ((rp_new p s c l st sk re fe ag p1 p2 pn1 pc1 pn2 pc2 pp w 25 28).below (al1 _ (.cells #[.slice none 0 0, .slice none 0 0, .int .i64 0] 28)))
  have HZ := Lib.hid (zero_at2 p s c l st sk re fe ag p1 p2 pn1 pc1 pn2 pc2 pp w 25 28 28)
  have Hk := Lib.hid hk
  clear h hk
  go_enter Try.func9, Try.ntmps9
  go_wp2_with fail
  refine (l04Ok_at p s c l st sk re fe ag p1 p2 pn1 pc1 pn2 pc2 pp xs ys _ _ _ HS.out.1 HS.out.2.1 (H.out.below HS.out.2.2) _ Hk.out).mono ?_
  rintro e u ⟨rfl, m, hm⟩
  have hbm : Below (((w.alloc (.cells #[.int .i64 p, .int .i64 s, .bool st, .bool sk, .bool re, .bool fe, .bool ag, .int .i64 c, .int .i64 l] 25)).alloc (.cells #[.slice p1 pn1 pc1, .slice p2 pn2 pc2, .int .i64 pp] 28)).alloc (.cells #[.slice none 0 0, .slice none 0 0, .int .i64 0] 28)).heap.size (((w.alloc (.cells #[.int .i64 p, .int .i64 s, .bool st, .bool sk, .bool re, .bool fe, .bool ag, .int .i64 c, .int .i64 l] 25)).alloc (.cells #[.slice p1 pn1 pc1, .slice p2 pn2 pc2, .int .i64 pp] 28)).alloc (.cells #[.slice none 0 0, .slice none 0 0, .int .i64 0] 28)) u := by rw [hm]; exact below_dn (Below.refl _ _) m
  clear hm
  have hb := hbm
  have HS := Lib.hid (HS.out.below hb)
  have HZ := Lib.hid (HZ.out.below hb)
  clear hb hbm
  obtain ⟨zl, z0, z1, z2, zf⟩ := HZ.out
  have f0 := zf 0
  have f1 := zf 1
  have f2 := zf 2
  clear zf
  go_wp2_with fail
  refine bodyPost_ret (v := .tuple #[.agg #[.slice none 0 0, .slice none 0 0, .int .i64 0], .int .i64 1]) (by simp [results, Try.results9, go_sem, z0, z1, z2]) rfl ?_
  exact posZ_zero 1 (HS.out.set3z _ _ _).2.2 (by simp; omega)
set_option maxHeartbeats 4000000 in
set_option maxRecDepth 100000 in
theorem specSettle_yes (P : Nat) (s c l : Int) (st sk re fe ag : Bool) (p1 p2 : Option Addr) (pn1 pc1 pc2 : Nat) (pp : Int) (xs : List Int) (y0 y1 : Int) (w : World) (h : PosR w p1 p2 pn1 2 xs [y0, y1]) (hP : 2 ≤ P) (hP2 : P ≤ 8) (hn : pn1 = 2 * P) (hcap : pn1 ≤ pc1) (hs : seedB xs [y0, y1] = true) (hk : okP (okR (P : Int) s c l st ag) (P : Int) pn1 2 pp xs [y0, y1] = true) :
    Calls Try.prog 9 #[.agg #[.int .i64 P, .int .i64 s, .bool st, .bool sk, .bool re, .bool fe, .bool ag, .int .i64 c, .int .i64 l], .agg #[.slice p1 pn1 pc1, .slice p2 2 pc2, .int .i64 pp]] w (PosZ pn1 2 pp 0 (List.replicate pn1 0) [y0 + tot (halfL xs P 0), y1 + tot (halfL xs P 1)] w) := by
  have H := Lib.hid h
  have HS := Lib.hid ((rp_new (P : Int) s c l st sk re fe ag p1 p2 pn1 pc1 2 pc2 pp w 25 28).below (al1 _ (.cells #[.slice none 0 0, .slice none 0 0, .int .i64 0] 28)))
  have HZ := Lib.hid (zero_at2 (P : Int) s c l st sk re fe ag p1 p2 pn1 pc1 2 pc2 pp w 25 28 28)
  have Hk := Lib.hid hk
  have Hs := Lib.hid hs
  have Hn := Lib.hid hn
  clear h hk hs hn
  go_enter Try.func9, Try.ntmps9
  go_wp2_with fail
  refine (l04Ok_at (P : Int) s c l st sk re fe ag p1 p2 pn1 pc1 2 pc2 pp xs [y0, y1] _ _ _ HS.out.1 HS.out.2.1 (H.out.below HS.out.2.2) _ Hk.out).mono ?_
  rintro e u ⟨rfl, m, hm⟩
  have hbm : Below (((w.alloc (.cells #[.int .i64 (P : Int), .int .i64 s, .bool st, .bool sk, .bool re, .bool fe, .bool ag, .int .i64 c, .int .i64 l] 25)).alloc (.cells #[.slice p1 pn1 pc1, .slice p2 2 pc2, .int .i64 pp] 28)).alloc (.cells #[.slice none 0 0, .slice none 0 0, .int .i64 0] 28)).heap.size (((w.alloc (.cells #[.int .i64 (P : Int), .int .i64 s, .bool st, .bool sk, .bool re, .bool fe, .bool ag, .int .i64 c, .int .i64 l] 25)).alloc (.cells #[.slice p1 pn1 pc1, .slice p2 2 pc2, .int .i64 pp] 28)).alloc (.cells #[.slice none 0 0, .slice none 0 0, .int .i64 0] 28)) u := by rw [hm]; exact below_dn (Below.refl _ _) m
  clear hm
  have hb := hbm
  have HS := Lib.hid (HS.out.below hb)
  have HZ := Lib.hid (HZ.out.below hb)
  clear hb hbm
  go_wp2_with fail
  refine (settle_any P s c l st sk re fe ag p1 p2 pn1 pc1 pc2 pp xs y0 y1 _ _ _ _ _ HS.out.1 HS.out.2.1 (H.out.below HS.out.2.2) Hs.out hP hP2 Hn.out rfl rfl).mono ?_
  rintro e v ⟨g1, c1, g2, c2, rfl, ho, l1, l2, k1, k2, hb⟩
  have zl0 := HZ.out.lt
  have HS := Lib.hid (HS.out.below hb)
  have HZ := Lib.hid (HZ.out.below hb)
  have HO := Lib.hid ho
  have n1 := ho.o1.new
  have n2 := ho.o2.new
  clear hb ho
  obtain ⟨zl, z0, z1, z2, zf⟩ := HZ.out
  have f0 := zf 0
  have f1 := zf 1
  have f2 := zf 2
  clear zf
  go_wp2_with fail
  refine bodyPost_ret (v := .tuple #[.agg #[.slice (some ⟨g1, 0, none⟩) pn1 c1, .slice (some ⟨g2, 0, none⟩) 2 c2, .int .i64 pp], .int .i64 0]) (by simp [results, Try.results9, go_sem, z0, z1, z2]) rfl ?_
  exact posZ_of 0 (HO.out.set3 _ _ _ (by omega) (by omega)) (by have := HS.out.2.2.size; omega) (by simpa using l1) (by simpa using l2) k1 k2 (HS.out.set3z _ _ _).2.2
set_option maxHeartbeats 2000000 in
set_option maxRecDepth 100000 in
theorem specGive_no (p s c l : Int) (st sk re fe ag : Bool) (p1 p2 : Option Addr) (pn1 pc1 pn2 pc2 : Nat) (pp : Int) (xs ys : List Int) (player : Int) (w : World) (h : PosR w p1 p2 pn1 pn2 xs ys) (hk : okP (okR p s c l st ag) p pn1 pn2 pp xs ys = false) :
    Calls Try.prog 7 #[.agg #[.int .i64 p, .int .i64 s, .bool st, .bool sk, .bool re, .bool fe, .bool ag, .int .i64 c, .int .i64 l], .agg #[.slice p1 pn1 pc1, .slice p2 pn2 pc2, .int .i64 pp], .int .i64 player] w (PosZ 0 0 0 1 [] [] w) := by
  have H := Lib.hid h
  have HS := Lib.hid ((rp_new p s c l st sk re fe ag p1 p2 pn1 pc1 pn2 pc2 pp w 25 28).below (al1 _ (.cells #[.slice none 0 0, .slice none 0 0, .int .i64 0] 28)))
  have HZ := Lib.hid (zero_at2 p s c l st sk re fe ag p1 p2 pn1 pc1 pn2 pc2 pp w 25 28 28)
  have Hk := Lib.hid hk
  clear h hk
  go_enter Try.func7, Try.ntmps7
  go_wp2_with fail
  refine (l04Ok_at p s c l st sk re fe ag p1 p2 pn1 pc1 pn2 pc2 pp xs ys _ _ _ HS.out.1 HS.out.2.1 (H.out.below HS.out.2.2) _ Hk.out).mono ?_
  rintro e u ⟨rfl, m, hm⟩
  have hbm : Below (((w.alloc (.cells #[.int .i64 p, .int .i64 s, .bool st, .bool sk, .bool re, .bool fe, .bool ag, .int .i64 c, .int .i64 l] 25)).alloc (.cells #[.slice p1 pn1 pc1, .slice p2 pn2 pc2, .int .i64 pp] 28)).alloc (.cells #[.slice none 0 0, .slice none 0 0, .int .i64 0] 28)).heap.size (((w.alloc (.cells #[.int .i64 p, .int .i64 s, .bool st, .bool sk, .bool re, .bool fe, .bool ag, .int .i64 c, .int .i64 l] 25)).alloc (.cells #[.slice p1 pn1 pc1, .slice p2 pn2 pc2, .int .i64 pp] 28)).alloc (.cells #[.slice none 0 0, .slice none 0 0, .int .i64 0] 28)) u := by rw [hm]; exact below_dn (Below.refl _ _) m
  clear hm
  have hb := hbm
  have HS := Lib.hid (HS.out.below hb)
  have HZ := Lib.hid (HZ.out.below hb)
  clear hb hbm
  obtain ⟨zl, z0, z1, z2, zf⟩ := HZ.out
  have f0 := zf 0
  have f1 := zf 1
  have f2 := zf 2
  clear zf
  go_wp2_with fail
  refine bodyPost_ret (v := .tuple #[.agg #[.slice none 0 0, .slice none 0 0, .int .i64 0], .int .i64 1]) (by simp [results, Try.results7, go_sem, z0, z1, z2]) rfl ?_
  exact posZ_zero 1 (HS.out.set3z _ _ _).2.2 (by simp; omega)
set_option maxHeartbeats 2000000 in
set_option maxRecDepth 100000 in
theorem specGive_pl (p s c l : Int) (st sk re fe ag : Bool) (p1 p2 : Option Addr) (pn1 pc1 pn2 pc2 : Nat) (pp : Int) (xs ys : List Int) (player : Int) (w : World) (h : PosR w p1 p2 pn1 pn2 xs ys) (hk : okP (okR p s c l st ag) p pn1 pn2 pp xs ys = true) (hj : isPl player = false) :
    Calls Try.prog 7 #[.agg #[.int .i64 p, .int .i64 s, .bool st, .bool sk, .bool re, .bool fe, .bool ag, .int .i64 c, .int .i64 l], .agg #[.slice p1 pn1 pc1, .slice p2 pn2 pc2, .int .i64 pp], .int .i64 player] w (PosZ 0 0 0 2 [] [] w) := by
  have H := Lib.hid h
  have HS := Lib.hid ((rp_new p s c l st sk re fe ag p1 p2 pn1 pc1 pn2 pc2 pp w 25 28).below (al1 _ (.cells #[.slice none 0 0, .slice none 0 0, .int .i64 0] 28)))
  have HZ := Lib.hid (zero_at2 p s c l st sk re fe ag p1 p2 pn1 pc1 pn2 pc2 pp w 25 28 28)
  have Hk := Lib.hid hk
  have Hj : Hid ((decide (0 ≤ player) && decide (player ≤ 1)) = false) := Lib.hid hj
  clear h hk hj
  go_enter Try.func7, Try.ntmps7
  go_wp2_with fail
  refine (l04Ok_at p s c l st sk re fe ag p1 p2 pn1 pc1 pn2 pc2 pp xs ys _ _ _ HS.out.1 HS.out.2.1 (H.out.below HS.out.2.2) _ Hk.out).mono ?_
  rintro e u ⟨rfl, m, hm⟩
  have hbm : Below (((w.alloc (.cells #[.int .i64 p, .int .i64 s, .bool st, .bool sk, .bool re, .bool fe, .bool ag, .int .i64 c, .int .i64 l] 25)).alloc (.cells #[.slice p1 pn1 pc1, .slice p2 pn2 pc2, .int .i64 pp] 28)).alloc (.cells #[.slice none 0 0, .slice none 0 0, .int .i64 0] 28)).heap.size (((w.alloc (.cells #[.int .i64 p, .int .i64 s, .bool st, .bool sk, .bool re, .bool fe, .bool ag, .int .i64 c, .int .i64 l] 25)).alloc (.cells #[.slice p1 pn1 pc1, .slice p2 pn2 pc2, .int .i64 pp] 28)).alloc (.cells #[.slice none 0 0, .slice none 0 0, .int .i64 0] 28)) u := by rw [hm]; exact below_dn (Below.refl _ _) m
  clear hm
  have hb := hbm
  have HS := Lib.hid (HS.out.below hb)
  have HZ := Lib.hid (HZ.out.below hb)
  clear hb hbm
  go_wp2_with fail
  refine (in_b player 0 1 _ Hj.out _).mono ?_
  rintro e u2 ⟨rfl, rfl⟩
  obtain ⟨zl, z0, z1, z2, zf⟩ := HZ.out
  have f0 := zf 0
  have f1 := zf 1
  have f2 := zf 2
  clear zf
  go_wp2_with fail
  refine bodyPost_ret (v := .tuple #[.agg #[.slice none 0 0, .slice none 0 0, .int .i64 0], .int .i64 2]) (by simp [results, Try.results7, go_sem, z0, z1, z2]) rfl ?_
  exact posZ_zero 2 (HS.out.set3z _ _ _).2.2 (by simp; omega)
set_option maxHeartbeats 4000000 in
set_option maxRecDepth 100000 in
theorem specGive_yes0 (P : Nat) (s c l : Int) (st sk re fe ag : Bool) (p1 p2 : Option Addr) (pn1 pc1 pc2 : Nat) (pp : Int) (xs : List Int) (y0 y1 : Int) (w : World) (h : PosR w p1 p2 pn1 2 xs [y0, y1]) (hP : 2 ≤ P) (hP2 : P ≤ 8) (hn : pn1 = 2 * P) (hcap : pn1 ≤ pc1) (hs : seedB xs [y0, y1] = true) (hk : okP (okR (P : Int) s c l st ag) (P : Int) pn1 2 pp xs [y0, y1] = true) :
    Calls Try.prog 7 #[.agg #[.int .i64 P, .int .i64 s, .bool st, .bool sk, .bool re, .bool fe, .bool ag, .int .i64 c, .int .i64 l], .agg #[.slice p1 pn1 pc1, .slice p2 2 pc2, .int .i64 pp], .int .i64 0] w (PosZ pn1 2 pp 0 (List.replicate pn1 0) [y0 + tot xs, y1] w) := by
  have H := Lib.hid h
  have HS := Lib.hid ((rp_new (P : Int) s c l st sk re fe ag p1 p2 pn1 pc1 2 pc2 pp w 25 28).below (al1 _ (.cells #[.slice none 0 0, .slice none 0 0, .int .i64 0] 28)))
  have HZ := Lib.hid (zero_at2 (P : Int) s c l st sk re fe ag p1 p2 pn1 pc1 2 pc2 pp w 25 28 28)
  have Hk := Lib.hid hk
  have Hs := Lib.hid hs
  have Hn := Lib.hid hn
  clear h hk hs hn
  go_enter Try.func7, Try.ntmps7
  go_wp2_with fail
  refine (l04Ok_at (P : Int) s c l st sk re fe ag p1 p2 pn1 pc1 2 pc2 pp xs [y0, y1] _ _ _ HS.out.1 HS.out.2.1 (H.out.below HS.out.2.2) _ Hk.out).mono ?_
  rintro e u ⟨rfl, m, hm⟩
  have hbm : Below (((w.alloc (.cells #[.int .i64 (P : Int), .int .i64 s, .bool st, .bool sk, .bool re, .bool fe, .bool ag, .int .i64 c, .int .i64 l] 25)).alloc (.cells #[.slice p1 pn1 pc1, .slice p2 2 pc2, .int .i64 pp] 28)).alloc (.cells #[.slice none 0 0, .slice none 0 0, .int .i64 0] 28)).heap.size (((w.alloc (.cells #[.int .i64 (P : Int), .int .i64 s, .bool st, .bool sk, .bool re, .bool fe, .bool ag, .int .i64 c, .int .i64 l] 25)).alloc (.cells #[.slice p1 pn1 pc1, .slice p2 2 pc2, .int .i64 pp] 28)).alloc (.cells #[.slice none 0 0, .slice none 0 0, .int .i64 0] 28)) u := by rw [hm]; exact below_dn (Below.refl _ _) m
  clear hm
  have hb := hbm
  have HS := Lib.hid (HS.out.below hb)
  have HZ := Lib.hid (HZ.out.below hb)
  clear hb hbm
  go_wp2_with fail
  refine (in_b 0 0 1 true (by decide) _).mono ?_
  rintro e u2 ⟨rfl, rfl⟩
  go_wp2_with fail
  refine (give_any0 P s c l st sk re fe ag p1 p2 pn1 pc1 pc2 pp xs y0 y1 _ _ _ _ HS.out.1 HS.out.2.1 (H.out.below HS.out.2.2) Hs.out hP hP2 Hn.out rfl).mono ?_
  rintro e v ⟨g1, c1, g2, c2, rfl, ho, l1, l2, k1, k2, hb⟩
  have zl0 := HZ.out.lt
  have HS := Lib.hid (HS.out.below hb)
  have HZ := Lib.hid (HZ.out.below hb)
  have HO := Lib.hid ho
  have n1 := ho.o1.new
  have n2 := ho.o2.new
  clear hb ho
  obtain ⟨zl, z0, z1, z2, zf⟩ := HZ.out
  have f0 := zf 0
  have f1 := zf 1
  have f2 := zf 2
  clear zf
  go_wp2_with fail
  refine bodyPost_ret (v := .tuple #[.agg #[.slice (some ⟨g1, 0, none⟩) pn1 c1, .slice (some ⟨g2, 0, none⟩) 2 c2, .int .i64 pp], .int .i64 0]) (by simp [results, Try.results7, go_sem, z0, z1, z2]) rfl ?_
  exact posZ_of 0 (HO.out.set3 _ _ _ (by omega) (by omega)) (by have := HS.out.2.2.size; omega) (by simpa using l1) (by simpa using l2) k1 k2 (HS.out.set3z _ _ _).2.2
set_option maxHeartbeats 4000000 in
set_option maxRecDepth 100000 in
theorem specGive_yes1 (P : Nat) (s c l : Int) (st sk re fe ag : Bool) (p1 p2 : Option Addr) (pn1 pc1 pc2 : Nat) (pp : Int) (xs : List Int) (y0 y1 : Int) (w : World) (h : PosR w p1 p2 pn1 2 xs [y0, y1]) (hP : 2 ≤ P) (hP2 : P ≤ 8) (hn : pn1 = 2 * P) (hcap : pn1 ≤ pc1) (hs : seedB xs [y0, y1] = true) (hk : okP (okR (P : Int) s c l st ag) (P : Int) pn1 2 pp xs [y0, y1] = true) :
    Calls Try.prog 7 #[.agg #[.int .i64 P, .int .i64 s, .bool st, .bool sk, .bool re, .bool fe, .bool ag, .int .i64 c, .int .i64 l], .agg #[.slice p1 pn1 pc1, .slice p2 2 pc2, .int .i64 pp], .int .i64 1] w (PosZ pn1 2 pp 0 (List.replicate pn1 0) [y0, y1 + tot xs] w) := by
  have H := Lib.hid h
  have HS := Lib.hid ((rp_new (P : Int) s c l st sk re fe ag p1 p2 pn1 pc1 2 pc2 pp w 25 28).below (al1 _ (.cells #[.slice none 0 0, .slice none 0 0, .int .i64 0] 28)))
  have HZ := Lib.hid (zero_at2 (P : Int) s c l st sk re fe ag p1 p2 pn1 pc1 2 pc2 pp w 25 28 28)
  have Hk := Lib.hid hk
  have Hs := Lib.hid hs
  have Hn := Lib.hid hn
  clear h hk hs hn
  go_enter Try.func7, Try.ntmps7
  go_wp2_with fail
  refine (l04Ok_at (P : Int) s c l st sk re fe ag p1 p2 pn1 pc1 2 pc2 pp xs [y0, y1] _ _ _ HS.out.1 HS.out.2.1 (H.out.below HS.out.2.2) _ Hk.out).mono ?_
  rintro e u ⟨rfl, m, hm⟩
  have hbm : Below (((w.alloc (.cells #[.int .i64 (P : Int), .int .i64 s, .bool st, .bool sk, .bool re, .bool fe, .bool ag, .int .i64 c, .int .i64 l] 25)).alloc (.cells #[.slice p1 pn1 pc1, .slice p2 2 pc2, .int .i64 pp] 28)).alloc (.cells #[.slice none 0 0, .slice none 0 0, .int .i64 0] 28)).heap.size (((w.alloc (.cells #[.int .i64 (P : Int), .int .i64 s, .bool st, .bool sk, .bool re, .bool fe, .bool ag, .int .i64 c, .int .i64 l] 25)).alloc (.cells #[.slice p1 pn1 pc1, .slice p2 2 pc2, .int .i64 pp] 28)).alloc (.cells #[.slice none 0 0, .slice none 0 0, .int .i64 0] 28)) u := by rw [hm]; exact below_dn (Below.refl _ _) m
  clear hm
  have hb := hbm
  have HS := Lib.hid (HS.out.below hb)
  have HZ := Lib.hid (HZ.out.below hb)
  clear hb hbm
  go_wp2_with fail
  refine (in_b 1 0 1 true (by decide) _).mono ?_
  rintro e u2 ⟨rfl, rfl⟩
  go_wp2_with fail
  refine (give_any1 P s c l st sk re fe ag p1 p2 pn1 pc1 pc2 pp xs y0 y1 _ _ _ _ HS.out.1 HS.out.2.1 (H.out.below HS.out.2.2) Hs.out hP hP2 Hn.out rfl).mono ?_
  rintro e v ⟨g1, c1, g2, c2, rfl, ho, l1, l2, k1, k2, hb⟩
  have zl0 := HZ.out.lt
  have HS := Lib.hid (HS.out.below hb)
  have HZ := Lib.hid (HZ.out.below hb)
  have HO := Lib.hid ho
  have n1 := ho.o1.new
  have n2 := ho.o2.new
  clear hb ho
  obtain ⟨zl, z0, z1, z2, zf⟩ := HZ.out
  have f0 := zf 0
  have f1 := zf 1
  have f2 := zf 2
  clear zf
  go_wp2_with fail
  refine bodyPost_ret (v := .tuple #[.agg #[.slice (some ⟨g1, 0, none⟩) pn1 c1, .slice (some ⟨g2, 0, none⟩) 2 c2, .int .i64 pp], .int .i64 0]) (by simp [results, Try.results7, go_sem, z0, z1, z2]) rfl ?_
  exact posZ_of 0 (HO.out.set3 _ _ _ (by omega) (by omega)) (by have := HS.out.2.2.size; omega) (by simpa using l1) (by simpa using l2) k1 k2 (HS.out.set3z _ _ _).2.2
set_option maxHeartbeats 2000000 in
set_option maxRecDepth 100000 in
theorem implSettle_no (p s c l : Int) (st sk re fe ag : Bool) (p1 p2 : Option Addr) (pn1 pc1 pn2 pc2 : Nat) (pp : Int) (xs ys : List Int) (w : World) (h : PosR w p1 p2 pn1 pn2 xs ys) (hk : okP (okR p s c l st ag) p pn1 pn2 pp xs ys = false) :
    Calls Try.prog 8 #[.agg #[.int .i64 p, .int .i64 s, .bool st, .bool sk, .bool re, .bool fe, .bool ag, .int .i64 c, .int .i64 l], .agg #[.slice p1 pn1 pc1, .slice p2 pn2 pc2, .int .i64 pp]] w (PosZ 0 0 0 1 [] [] w) := by
  have H := Lib.hid h
  have HS := Lib.hid ((rp_new p s c l st sk re fe ag p1 p2 pn1 pc1 pn2 pc2 pp w 25 28).below (al1 _ (.cells #[.slice none 0 0, .slice none 0 0, .int .i64 0] 28)))
  have HZ := Lib.hid (zero_at2 p s c l st sk re fe ag p1 p2 pn1 pc1 pn2 pc2 pp w 25 28 28)
  have Hk := Lib.hid hk
  clear h hk
  go_enter Try.func8, Try.ntmps8
  go_wp2_with fail
  refine (implValid_b p s c l st sk re fe ag p1 p2 pn1 pc1 pn2 pc2 pp xs ys _ (H.out.below HS.out.2.2) _ Hk.out).mono ?_
  rintro e u ⟨rfl, hb⟩
  have HS := Lib.hid (HS.out.below hb)
  have HZ := Lib.hid (HZ.out.below hb)
  clear hb
  obtain ⟨zl, z0, z1, z2, zf⟩ := HZ.out
  have f0 := zf 0
  have f1 := zf 1
  have f2 := zf 2
  clear zf
  go_wp2_with fail
  refine bodyPost_ret (v := .tuple #[.agg #[.slice none 0 0, .slice none 0 0, .int .i64 0], .int .i64 1]) (by simp [results, Try.results8, go_sem, z0, z1, z2]) rfl ?_
  exact posZ_zero 1 (HS.out.set3z _ _ _).2.2 (by simp; omega)
set_option maxHeartbeats 4000000 in
set_option maxRecDepth 100000 in
theorem implSettle_yes (P : Nat) (s c l : Int) (st sk re fe ag : Bool) (p1 p2 : Option Addr) (pn1 pc1 pc2 : Nat) (pp : Int) (xs : List Int) (y0 y1 : Int) (w : World) (h : PosR w p1 p2 pn1 2 xs [y0, y1]) (hP : 2 ≤ P) (hP2 : P ≤ 8) (hn : pn1 = 2 * P) (hcap : pn1 ≤ pc1) (hs : seedB xs [y0, y1] = true) (hk : okP (okR (P : Int) s c l st ag) (P : Int) pn1 2 pp xs [y0, y1] = true) :
    Calls Try.prog 8 #[.agg #[.int .i64 P, .int .i64 s, .bool st, .bool sk, .bool re, .bool fe, .bool ag, .int .i64 c, .int .i64 l], .agg #[.slice p1 pn1 pc1, .slice p2 2 pc2, .int .i64 pp]] w (PosZ pn1 2 pp 0 (List.replicate pn1 0) [y0 + tot (halfL xs P 0), y1 + tot (halfL xs P 1)] w) := by
  have H := Lib.hid h
  have HS := Lib.hid ((rp_new (P : Int) s c l st sk re fe ag p1 p2 pn1 pc1 2 pc2 pp w 25 28).below (al1 _ (.cells #[.slice none 0 0, .slice none 0 0, .int .i64 0] 28)))
  have HZ := Lib.hid (zero_at2 (P : Int) s c l st sk re fe ag p1 p2 pn1 pc1 2 pc2 pp w 25 28 28)
  have Hk := Lib.hid hk
  have Hs := Lib.hid hs
  have Hn := Lib.hid hn
  clear h hk hs hn
  go_enter Try.func8, Try.ntmps8
  go_wp2_with fail
  refine (implValid_b (P : Int) s c l st sk re fe ag p1 p2 pn1 pc1 2 pc2 pp xs [y0, y1] _ (H.out.below HS.out.2.2) _ Hk.out).mono ?_
  rintro e u ⟨rfl, hb⟩
  have HS := Lib.hid (HS.out.below hb)
  have HZ := Lib.hid (HZ.out.below hb)
  clear hb
  obtain ⟨_, r0, r1, r2, r3, r4, r5, r6, r7, r8⟩ := HS.out.1
  obtain ⟨_, x0, x1, x2⟩ := HS.out.2.1
  go_wp2_with fail
  refine (emp_any01 P s c l st sk re fe ag p1 p2 pn1 pc1 pc2 pp xs y0 y1 _ _ _ (H.out.below HS.out.2.2) Hs.out hP hP2 Hn.out hcap rfl rfl).mono ?_
  rintro e v ⟨g1, c1, g2, c2, rfl, ho, l1, l2, k1, k2, hb⟩
  have zl0 := HZ.out.lt
  have HS := Lib.hid (HS.out.below hb)
  have HZ := Lib.hid (HZ.out.below hb)
  have HO := Lib.hid ho
  have n1 := ho.o1.new
  have n2 := ho.o2.new
  clear hb r0 r1 r2 r3 r4 r5 r6 r7 r8 x0 x1 x2 ho
  obtain ⟨zl, z0, z1, z2, zf⟩ := HZ.out
  have f0 := zf 0
  have f1 := zf 1
  have f2 := zf 2
  clear zf
  go_wp2_with fail
  refine bodyPost_ret (v := .tuple #[.agg #[.slice (some ⟨g1, 0, none⟩) pn1 c1, .slice (some ⟨g2, 0, none⟩) 2 c2, .int .i64 pp], .int .i64 0]) (by simp [results, Try.results8, go_sem, z0, z1, z2]) rfl ?_
  exact posZ_of 0 (HO.out.set3 _ _ _ (by omega) (by omega)) (by have := HS.out.2.2.size; omega) (by simpa using l1) (by simpa using l2) k1 k2 (HS.out.set3z _ _ _).2.2
set_option maxHeartbeats 2000000 in
set_option maxRecDepth 100000 in
theorem implGive_no (p s c l : Int) (st sk re fe ag : Bool) (p1 p2 : Option Addr) (pn1 pc1 pn2 pc2 : Nat) (pp : Int) (xs ys : List Int) (player : Int) (w : World) (h : PosR w p1 p2 pn1 pn2 xs ys) (hk : okP (okR p s c l st ag) p pn1 pn2 pp xs ys = false) :
    Calls Try.prog 6 #[.agg #[.int .i64 p, .int .i64 s, .bool st, .bool sk, .bool re, .bool fe, .bool ag, .int .i64 c, .int .i64 l], .agg #[.slice p1 pn1 pc1, .slice p2 pn2 pc2, .int .i64 pp], .int .i64 player] w (PosZ 0 0 0 1 [] [] w) := by
  have H := Lib.hid h
  have HS := Lib.hid ((rp_new p s c l st sk re fe ag p1 p2 pn1 pc1 pn2 pc2 pp w 25 28).below (al1 _ (.cells #[.slice none 0 0, .slice none 0 0, .int .i64 0] 28)))
  have HZ := Lib.hid (zero_at2 p s c l st sk re fe ag p1 p2 pn1 pc1 pn2 pc2 pp w 25 28 28)
  have Hk := Lib.hid hk
  clear h hk
  go_enter Try.func6, Try.ntmps6
  go_wp2_with fail
  refine (implValid_b p s c l st sk re fe ag p1 p2 pn1 pc1 pn2 pc2 pp xs ys _ (H.out.below HS.out.2.2) _ Hk.out).mono ?_
  rintro e u ⟨rfl, hb⟩
  have HS := Lib.hid (HS.out.below hb)
  have HZ := Lib.hid (HZ.out.below hb)
  clear hb
  obtain ⟨zl, z0, z1, z2, zf⟩ := HZ.out
  have f0 := zf 0
  have f1 := zf 1
  have f2 := zf 2
  clear zf
  go_wp2_with fail
  refine bodyPost_ret (v := .tuple #[.agg #[.slice none 0 0, .slice none 0 0, .int .i64 0], .int .i64 1]) (by simp [results, Try.results6, go_sem, z0, z1, z2]) rfl ?_
  exact posZ_zero 1 (HS.out.set3z _ _ _).2.2 (by simp; omega)
set_option maxHeartbeats 2000000 in
set_option maxRecDepth 100000 in
theorem implGive_pl (p s c l : Int) (st sk re fe ag : Bool) (p1 p2 : Option Addr) (pn1 pc1 pn2 pc2 : Nat) (pp : Int) (xs ys : List Int) (player : Int) (w : World) (h : PosR w p1 p2 pn1 pn2 xs ys) (hk : okP (okR p s c l st ag) p pn1 pn2 pp xs ys = true) (hj : isPl player = false) :
    Calls Try.prog 6 #[.agg #[.int .i64 p, .int .i64 s, .bool st, .bool sk, .bool re, .bool fe, .bool ag, .int .i64 c, .int .i64 l], .agg #[.slice p1 pn1 pc1, .slice p2 pn2 pc2, .int .i64 pp], .int .i64 player] w (PosZ 0 0 0 2 [] [] w) := by
  have H := Lib.hid h
  have HS := Lib.hid ((rp_new p s c l st sk re fe ag p1 p2 pn1 pc1 pn2 pc2 pp w 25 28).below (al1 _ (.cells #[.slice none 0 0, .slice none 0 0, .int .i64 0] 28)))
  have HZ := Lib.hid (zero_at2 p s c l st sk re fe ag p1 p2 pn1 pc1 pn2 pc2 pp w 25 28 28)
  have Hk := Lib.hid hk
  have Hj : Hid ((decide (0 ≤ player) && decide (player ≤ 1)) = false) := Lib.hid hj
  clear h hk hj
  go_enter Try.func6, Try.ntmps6
  go_wp2_with fail
  refine (implValid_b p s c l st sk re fe ag p1 p2 pn1 pc1 pn2 pc2 pp xs ys _ (H.out.below HS.out.2.2) _ Hk.out).mono ?_
  rintro e u ⟨rfl, hb⟩
  have HS := Lib.hid (HS.out.below hb)
  have HZ := Lib.hid (HZ.out.below hb)
  clear hb
  go_wp2_with fail
  refine (isPlayer_b player _ Hj.out _).mono ?_
  rintro e u2 ⟨rfl, rfl⟩
  obtain ⟨zl, z0, z1, z2, zf⟩ := HZ.out
  have f0 := zf 0
  have f1 := zf 1
  have f2 := zf 2
  clear zf
  go_wp2_with fail
  refine bodyPost_ret (v := .tuple #[.agg #[.slice none 0 0, .slice none 0 0, .int .i64 0], .int .i64 2]) (by simp [results, Try.results6, go_sem, z0, z1, z2]) rfl ?_
  exact posZ_zero 2 (HS.out.set3z _ _ _).2.2 (by simp; omega)
set_option maxHeartbeats 4000000 in
set_option maxRecDepth 100000 in
theorem implGive_yes0 (P : Nat) (s c l : Int) (st sk re fe ag : Bool) (p1 p2 : Option Addr) (pn1 pc1 pc2 : Nat) (pp : Int) (xs : List Int) (y0 y1 : Int) (w : World) (h : PosR w p1 p2 pn1 2 xs [y0, y1]) (hP : 2 ≤ P) (hP2 : P ≤ 8) (hn : pn1 = 2 * P) (hcap : pn1 ≤ pc1) (hs : seedB xs [y0, y1] = true) (hk : okP (okR (P : Int) s c l st ag) (P : Int) pn1 2 pp xs [y0, y1] = true) :
    Calls Try.prog 6 #[.agg #[.int .i64 P, .int .i64 s, .bool st, .bool sk, .bool re, .bool fe, .bool ag, .int .i64 c, .int .i64 l], .agg #[.slice p1 pn1 pc1, .slice p2 2 pc2, .int .i64 pp], .int .i64 0] w (PosZ pn1 2 pp 0 (List.replicate pn1 0) [y0 + tot xs, y1] w) := by
  have H := Lib.hid h
  have HS := Lib.hid ((rp_new (P : Int) s c l st sk re fe ag p1 p2 pn1 pc1 2 pc2 pp w 25 28).below (al1 _ (.cells #[.slice none 0 0, .slice none 0 0, .int .i64 0] 28)))
  have HZ := Lib.hid (zero_at2 (P : Int) s c l st sk re fe ag p1 p2 pn1 pc1 2 pc2 pp w 25 28 28)
  have Hk := Lib.hid hk
  have Hs := Lib.hid hs
  have Hn := Lib.hid hn
  clear h hk hs hn
  have hsm := half_sum (xs := xs) (P := P) (H.out.l1.trans Hn.out)
  go_enter Try.func6, Try.ntmps6
  go_wp2_with fail
  refine (implValid_b (P : Int) s c l st sk re fe ag p1 p2 pn1 pc1 2 pc2 pp xs [y0, y1] _ (H.out.below HS.out.2.2) _ Hk.out).mono ?_
  rintro e u ⟨rfl, hb⟩
  have HS := Lib.hid (HS.out.below hb)
  have HZ := Lib.hid (HZ.out.below hb)
  clear hb
  obtain ⟨_, r0, r1, r2, r3, r4, r5, r6, r7, r8⟩ := HS.out.1
  obtain ⟨_, x0, x1, x2⟩ := HS.out.2.1
  go_wp2_with fail
  refine (isPlayer_b 0 true (by decide) _).mono ?_
  rintro e u2 ⟨rfl, rfl⟩
  go_wp2_with fail
  refine (emp_any00 P s c l st sk re fe ag p1 p2 pn1 pc1 pc2 pp xs y0 y1 _ _ _ (H.out.below HS.out.2.2) Hs.out hP hP2 Hn.out hcap rfl rfl).mono ?_
  rintro e v ⟨g1, c1, g2, c2, rfl, ho, l1, l2, k1, k2, hb⟩
  have zl0 := HZ.out.lt
  have HS := Lib.hid (HS.out.below hb)
  have HZ := Lib.hid (HZ.out.below hb)
  have ey : y0 + tot (halfL xs P 0) + tot (halfL xs P 1) = y0 + tot xs := by omega
  rw [ey] at ho
  have HO := Lib.hid ho
  have n1 := ho.o1.new
  have n2 := ho.o2.new
  clear hb r0 r1 r2 r3 r4 r5 r6 r7 r8 x0 x1 x2 ho
  obtain ⟨zl, z0, z1, z2, zf⟩ := HZ.out
  have f0 := zf 0
  have f1 := zf 1
  have f2 := zf 2
  clear zf
  go_wp2_with fail
  refine bodyPost_ret (v := .tuple #[.agg #[.slice (some ⟨g1, 0, none⟩) pn1 c1, .slice (some ⟨g2, 0, none⟩) 2 c2, .int .i64 pp], .int .i64 0]) (by simp [results, Try.results6, go_sem, z0, z1, z2]) rfl ?_
  exact posZ_of 0 (HO.out.set3 _ _ _ (by omega) (by omega)) (by have := HS.out.2.2.size; omega) (by simpa using l1) (by simpa using l2) k1 k2 (HS.out.set3z _ _ _).2.2
set_option maxHeartbeats 4000000 in
set_option maxRecDepth 100000 in
theorem implGive_yes1 (P : Nat) (s c l : Int) (st sk re fe ag : Bool) (p1 p2 : Option Addr) (pn1 pc1 pc2 : Nat) (pp : Int) (xs : List Int) (y0 y1 : Int) (w : World) (h : PosR w p1 p2 pn1 2 xs [y0, y1]) (hP : 2 ≤ P) (hP2 : P ≤ 8) (hn : pn1 = 2 * P) (hcap : pn1 ≤ pc1) (hs : seedB xs [y0, y1] = true) (hk : okP (okR (P : Int) s c l st ag) (P : Int) pn1 2 pp xs [y0, y1] = true) :
    Calls Try.prog 6 #[.agg #[.int .i64 P, .int .i64 s, .bool st, .bool sk, .bool re, .bool fe, .bool ag, .int .i64 c, .int .i64 l], .agg #[.slice p1 pn1 pc1, .slice p2 2 pc2, .int .i64 pp], .int .i64 1] w (PosZ pn1 2 pp 0 (List.replicate pn1 0) [y0, y1 + tot xs] w) := by
  have H := Lib.hid h
  have HS := Lib.hid ((rp_new (P : Int) s c l st sk re fe ag p1 p2 pn1 pc1 2 pc2 pp w 25 28).below (al1 _ (.cells #[.slice none 0 0, .slice none 0 0, .int .i64 0] 28)))
  have HZ := Lib.hid (zero_at2 (P : Int) s c l st sk re fe ag p1 p2 pn1 pc1 2 pc2 pp w 25 28 28)
  have Hk := Lib.hid hk
  have Hs := Lib.hid hs
  have Hn := Lib.hid hn
  clear h hk hs hn
  have hsm := half_sum (xs := xs) (P := P) (H.out.l1.trans Hn.out)
  go_enter Try.func6, Try.ntmps6
  go_wp2_with fail
  refine (implValid_b (P : Int) s c l st sk re fe ag p1 p2 pn1 pc1 2 pc2 pp xs [y0, y1] _ (H.out.below HS.out.2.2) _ Hk.out).mono ?_
  rintro e u ⟨rfl, hb⟩
  have HS := Lib.hid (HS.out.below hb)
  have HZ := Lib.hid (HZ.out.below hb)
  clear hb
  obtain ⟨_, r0, r1, r2, r3, r4, r5, r6, r7, r8⟩ := HS.out.1
  obtain ⟨_, x0, x1, x2⟩ := HS.out.2.1
  go_wp2_with fail
  refine (isPlayer_b 1 true (by decide) _).mono ?_
  rintro e u2 ⟨rfl, rfl⟩
  go_wp2_with fail
  refine (emp_any11 P s c l st sk re fe ag p1 p2 pn1 pc1 pc2 pp xs y0 y1 _ _ _ (H.out.below HS.out.2.2) Hs.out hP hP2 Hn.out hcap rfl rfl).mono ?_
  rintro e v ⟨g1, c1, g2, c2, rfl, ho, l1, l2, k1, k2, hb⟩
  have zl0 := HZ.out.lt
  have HS := Lib.hid (HS.out.below hb)
  have HZ := Lib.hid (HZ.out.below hb)
  have ey : y1 + tot (halfL xs P 0) + tot (halfL xs P 1) = y1 + tot xs := by omega
  rw [ey] at ho
  have HO := Lib.hid ho
  have n1 := ho.o1.new
  have n2 := ho.o2.new
  clear hb r0 r1 r2 r3 r4 r5 r6 r7 r8 x0 x1 x2 ho
  obtain ⟨zl, z0, z1, z2, zf⟩ := HZ.out
  have f0 := zf 0
  have f1 := zf 1
  have f2 := zf 2
  clear zf
  go_wp2_with fail
  refine bodyPost_ret (v := .tuple #[.agg #[.slice (some ⟨g1, 0, none⟩) pn1 c1, .slice (some ⟨g2, 0, none⟩) 2 c2, .int .i64 pp], .int .i64 0]) (by simp [results, Try.results6, go_sem, z0, z1, z2]) rfl ?_
  exact posZ_of 0 (HO.out.set3 _ _ _ (by omega) (by omega)) (by have := HS.out.2.2.size; omega) (by simpa using l1) (by simpa using l2) k1 k2 (HS.out.set3z _ _ _).2.2
theorem settle_ex (p s c l : Int) (st sk re fe ag : Bool) (pn1 pn2 : Nat) (pp : Int) (xs ys : List Int) (l1 : xs.length = pn1) (l2 : ys.length = pn2) :
    ∃ (m1 m2 : Nat) (pl cd : Int) (us vs : List Int), m1 ≤ 10000000 ∧ m2 ≤ 10000000 ∧
      (∀ (g1 g2 : Nat) (w : World), PosR w (some ⟨g1, 0, none⟩) (some ⟨g2, 0, none⟩) pn1 pn2 xs ys → Calls Try.prog 9 #[.agg #[.int .i64 p, .int .i64 s, .bool st, .bool sk, .bool re, .bool fe, .bool ag, .int .i64 c, .int .i64 l], .agg #[.slice (some ⟨g1, 0, none⟩) pn1 pn1, .slice (some ⟨g2, 0, none⟩) pn2 pn2, .int .i64 pp]] w (PosZ m1 m2 pl cd us vs w)) ∧
      (∀ (g1 g2 : Nat) (w : World), PosR w (some ⟨g1, 0, none⟩) (some ⟨g2, 0, none⟩) pn1 pn2 xs ys → Calls Try.prog 8 #[.agg #[.int .i64 p, .int .i64 s, .bool st, .bool sk, .bool re, .bool fe, .bool ag, .int .i64 c, .int .i64 l], .agg #[.slice (some ⟨g1, 0, none⟩) pn1 pn1, .slice (some ⟨g2, 0, none⟩) pn2 pn2, .int .i64 pp]] w (PosZ m1 m2 pl cd us vs w)) := by
  cases hk : okP (okR p s c l st ag) p pn1 pn2 pp xs ys
  · exact ⟨0, 0, 0, 1, [], [], by omega, by omega, fun g1 g2 w h => specSettle_no p s c l st sk re fe ag _ _ _ _ _ _ _ _ _ w h hk, fun g1 g2 w h => implSettle_no p s c l st sk re fe ag _ _ _ _ _ _ _ _ _ w h hk⟩
  · obtain ⟨hok, hn1, hn2, hpl, hs⟩ := okP_parts hk
    obtain ⟨hp1, hp2, -⟩ := okR_bd hok
    obtain ⟨P, rfl⟩ : ∃ P : Nat, p = (P : Int) := ⟨p.toNat, by omega⟩
    have e1 : pn1 = 2 * P := by omega
    obtain rfl : pn2 = 2 := by omega
    obtain ⟨y0, y1, rfl⟩ := two9 l2
    exact ⟨pn1, 2, pp, 0, List.replicate pn1 0, [y0 + tot (halfL xs P 0), y1 + tot (halfL xs P 1)], by omega, by omega, fun g1 g2 w h => specSettle_yes P s c l st sk re fe ag _ _ _ _ _ _ xs y0 y1 w h (by omega) (by omega) e1 (Nat.le_refl _) hs hk, fun g1 g2 w h => implSettle_yes P s c l st sk re fe ag _ _ _ _ _ _ xs y0 y1 w h (by omega) (by omega) e1 (Nat.le_refl _) hs hk⟩
theorem give_ex (p s c l : Int) (st sk re fe ag : Bool) (pn1 pn2 : Nat) (pp : Int) (xs ys : List Int) (move : Int) (l1 : xs.length = pn1) (l2 : ys.length = pn2) :
    ∃ (m1 m2 : Nat) (pl cd : Int) (us vs : List Int), m1 ≤ 10000000 ∧ m2 ≤ 10000000 ∧
      (∀ (g1 g2 : Nat) (w : World), PosR w (some ⟨g1, 0, none⟩) (some ⟨g2, 0, none⟩) pn1 pn2 xs ys → Calls Try.prog 7 #[.agg #[.int .i64 p, .int .i64 s, .bool st, .bool sk, .bool re, .bool fe, .bool ag, .int .i64 c, .int .i64 l], .agg #[.slice (some ⟨g1, 0, none⟩) pn1 pn1, .slice (some ⟨g2, 0, none⟩) pn2 pn2, .int .i64 pp], .int .i64 move] w (PosZ m1 m2 pl cd us vs w)) ∧
      (∀ (g1 g2 : Nat) (w : World), PosR w (some ⟨g1, 0, none⟩) (some ⟨g2, 0, none⟩) pn1 pn2 xs ys → Calls Try.prog 6 #[.agg #[.int .i64 p, .int .i64 s, .bool st, .bool sk, .bool re, .bool fe, .bool ag, .int .i64 c, .int .i64 l], .agg #[.slice (some ⟨g1, 0, none⟩) pn1 pn1, .slice (some ⟨g2, 0, none⟩) pn2 pn2, .int .i64 pp], .int .i64 move] w (PosZ m1 m2 pl cd us vs w)) := by
  cases hk : okP (okR p s c l st ag) p pn1 pn2 pp xs ys
  · exact ⟨0, 0, 0, 1, [], [], by omega, by omega, fun g1 g2 w h => specGive_no p s c l st sk re fe ag _ _ _ _ _ _ _ _ _ move w h hk, fun g1 g2 w h => implGive_no p s c l st sk re fe ag _ _ _ _ _ _ _ _ _ move w h hk⟩
  · obtain ⟨hok, hn1, hn2, hpl, hs⟩ := okP_parts hk
    obtain ⟨hp1, hp2, -⟩ := okR_bd hok
    obtain ⟨P, rfl⟩ : ∃ P : Nat, p = (P : Int) := ⟨p.toNat, by omega⟩
    have e1 : pn1 = 2 * P := by omega
    obtain rfl : pn2 = 2 := by omega
    obtain ⟨y0, y1, rfl⟩ := two9 l2
    cases hj : isPl move
    · exact ⟨0, 0, 0, 2, [], [], by omega, by omega, fun g1 g2 w h => specGive_pl (P : Int) s c l st sk re fe ag _ _ _ _ _ _ _ _ _ move w h hk hj, fun g1 g2 w h => implGive_pl (P : Int) s c l st sk re fe ag _ _ _ _ _ _ _ _ _ move w h hk hj⟩
    · have hm : move = 0 ∨ move = 1 := by
        unfold isPl at hj
        simp only [Bool.and_eq_true, decide_eq_true_eq] at hj
        omega
      rcases hm with rfl | rfl
      · exact ⟨pn1, 2, pp, 0, List.replicate pn1 0, [y0 + tot xs, y1], by omega, by omega, fun g1 g2 w h => specGive_yes0 P s c l st sk re fe ag _ _ _ _ _ _ xs y0 y1 w h (by omega) (by omega) e1 (Nat.le_refl _) hs hk, fun g1 g2 w h => implGive_yes0 P s c l st sk re fe ag _ _ _ _ _ _ xs y0 y1 w h (by omega) (by omega) e1 (Nat.le_refl _) hs hk⟩
      · exact ⟨pn1, 2, pp, 0, List.replicate pn1 0, [y0, y1 + tot xs], by omega, by omega, fun g1 g2 w h => specGive_yes1 P s c l st sk re fe ag _ _ _ _ _ _ xs y0 y1 w h (by omega) (by omega) e1 (Nat.le_refl _) hs hk, fun g1 g2 w h => implGive_yes1 P s c l st sk re fe ag _ _ _ _ _ _ xs y0 y1 w h (by omega) (by omega) e1 (Nat.le_refl _) hs hk⟩
end Go.Proofs.Ytgogjjkecbgbiaa
