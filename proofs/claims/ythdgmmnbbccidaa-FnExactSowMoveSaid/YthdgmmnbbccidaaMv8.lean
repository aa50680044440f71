/- SowMove of the reference. No conditions. -/
import Derived.Test.YthdgmmnbbccidaaMv7
namespace Go.Proofs.Ythdgmmnbbccidaa
open Go.Joins Go.ChangeShapes Go.WideShapes Go.ChangeAt Go.RowKit Go.Deep
set_option linter.unusedVariables false

/-- The result's variable behind rules and a position. -/
theorem z4_at2 (p s c l : Int) (st sk re fe ag : Bool) (p1 p2 : Option Addr) (pn1 pc1 pn2 pc2 : Nat) (pp : Int) (w : World) (T U V : TypeId) : Z4 (((w.alloc (.cells #[.int .i64 p, .int .i64 s, .bool st, .bool sk, .bool re, .bool fe, .bool ag, .int .i64 c, .int .i64 l] T)).alloc (.cells #[.slice p1 pn1 pc1, .slice p2 pn2 pc2, .int .i64 pp] U)).alloc (.cells #[.slice none 0 0, .slice none 0 0, .int .i64 0, .int .i64 0] V)) (w.heap.size + 1 + 1) := by
  have := z4_new ((w.alloc (.cells #[.int .i64 p, .int .i64 s, .bool st, .bool sk, .bool re, .bool fe, .bool ag, .int .i64 c, .int .i64 l] T)).alloc (.cells #[.slice p1 pn1 pc1, .slice p2 pn2 pc2, .int .i64 pp] U)) V
  simpa using this
set_option maxHeartbeats 4000000 in
set_option maxRecDepth 100000 in
theorem specMove_err (p s c l : Int) (st sk re fe ag : Bool) (p1 p2 : Option Addr) (pn1 pc1 pn2 pc2 : Nat) (pp : Int) (move : Int) (w : World) (cd : Int) (hC : ∀ u, RpAt w p s c l st sk re fe ag p1 p2 pn1 pc1 pn2 pc2 pp u → Calls Try.prog 65 #[.pointer (some ⟨w.heap.size, 0, none⟩), .pointer (some ⟨w.heap.size + 1, 0, none⟩), .int .i64 move] u (SwC pn1 cd none u)) :
    Calls Try.prog 23 #[.agg #[.int .i64 p, .int .i64 s, .bool st, .bool sk, .bool re, .bool fe, .bool ag, .int .i64 c, .int .i64 l], .agg #[.slice p1 pn1 pc1, .slice p2 pn2 pc2, .int .i64 pp], .int .i64 move] w (SoZ 0 0 0 0 cd [] [] w) := by
  have HC := Lib.hid hC
  have HS := Lib.hid ((rp_new p s c l st sk re fe ag p1 p2 pn1 pc1 pn2 pc2 pp w 32 34).below (al1 _ (.cells #[.slice none 0 0, .slice none 0 0, .int .i64 0, .int .i64 0] 29)))
  have HZ := Lib.hid (z4_at2 p s c l st sk re fe ag p1 p2 pn1 pc1 pn2 pc2 pp w 32 34 29)
  clear hC
  go_enter Try.func23, Try.ntmps23
  go_wp2_with fail
  refine (HC.out _ HS.out).mono ?_
  generalize ((w.alloc (.cells #[.int .i64 p, .int .i64 s, .bool st, .bool sk, .bool re, .bool fe, .bool ag, .int .i64 c, .int .i64 l] 32)).alloc (.cells #[.slice p1 pn1 pc1, .slice p2 pn2 pc2, .int .i64 pp] 34)).alloc (.cells #[.slice none 0 0, .slice none 0 0, .int .i64 0, .int .i64 0] 29) = u at *
  rintro e u2 ⟨rfl, hb⟩
  have HS := Lib.hid (show OnW w u2 from (HS.out.below hb).2.2)
  obtain ⟨zl, z0, z1, z2, z3, f0, f1, f2, f3⟩ := HZ.out.below hb
  clear hb
  have hne : u2.heap.size ≠ w.heap.size + 1 + 1 := by omega
  have hne' : w.heap.size + 1 + 1 ≠ u2.heap.size := by omega
  go_wp2_with fail
  refine bodyPost_ret (v := .tuple #[.agg #[.slice none 0 0, .slice none 0 0, .int .i64 0, .int .i64 0], .int .i64 cd]) (by simp [results, Try.results23, go_sem, z0, z1, z2, z3, zl, hne, hne']) rfl ?_
  exact soZ_zero cd (OnW.below (OnW.set4 HS.out (by omega) _ _ _ _) (al1 _ _)) (by simp; omega)
set_option maxHeartbeats 4000000 in
set_option maxRecDepth 100000 in
theorem specMove_some (p s c l : Int) (st sk re fe ag : Bool) (p1 p2 : Option Addr) (pn1 pc1 pn2 pc2 : Nat) (pp : Int) (move : Int) (w : World) (m : Res) (hC : ∀ u, RpAt w p s c l st sk re fe ag p1 p2 pn1 pc1 pn2 pc2 pp u → Calls Try.prog 65 #[.pointer (some ⟨w.heap.size, 0, none⟩), .pointer (some ⟨w.heap.size + 1, 0, none⟩), .int .i64 move] u (SwC pn1 0 (some m) u)) :
    Calls Try.prog 23 #[.agg #[.int .i64 p, .int .i64 s, .bool st, .bool sk, .bool re, .bool fe, .bool ag, .int .i64 c, .int .i64 l], .agg #[.slice p1 pn1 pc1, .slice p2 pn2 pc2, .int .i64 pp], .int .i64 move] w (SoZ pn1 2 m.last m.laps 0 m.xs m.ys w) := by
  have HC := Lib.hid hC
  have HS := Lib.hid ((rp_new p s c l st sk re fe ag p1 p2 pn1 pc1 pn2 pc2 pp w 32 34).below (al1 _ (.cells #[.slice none 0 0, .slice none 0 0, .int .i64 0, .int .i64 0] 29)))
  have HZ := Lib.hid (z4_at2 p s c l st sk re fe ag p1 p2 pn1 pc1 pn2 pc2 pp w 32 34 29)
  clear hC
  go_enter Try.func23, Try.ntmps23
  go_wp2_with fail
  refine (HC.out _ HS.out).mono ?_
  generalize ((w.alloc (.cells #[.int .i64 p, .int .i64 s, .bool st, .bool sk, .bool re, .bool fe, .bool ag, .int .i64 c, .int .i64 l] 32)).alloc (.cells #[.slice p1 pn1 pc1, .slice p2 pn2 pc2, .int .i64 pp] 34)).alloc (.cells #[.slice none 0 0, .slice none 0 0, .int .i64 0, .int .i64 0] 29) = u at *
  rintro e u2 ⟨b1, c1, b2, c2, v, rfl, ho, hl1, hl2, hc1, hc2, hown, hb⟩
  have hus := HZ.out.lt
  have HS := Lib.hid (show OnW w u2 from (HS.out.below hb).2.2)
  obtain ⟨zl, z0, z1, z2, z3, f0, f1, f2, f3⟩ := HZ.out.below hb
  have HO := Lib.hid ho
  have n1 := ho.o1.new
  have n2 := ho.o2.new
  clear hb ho hown
  have hne : u2.heap.size ≠ w.heap.size + 1 + 1 := by omega
  have hne' : w.heap.size + 1 + 1 ≠ u2.heap.size := by omega
  go_wp2_with fail
  refine bodyPost_ret (v := .tuple #[.agg #[.slice (some ⟨b1, 0, none⟩) pn1 c1, .slice (some ⟨b2, 0, none⟩) 2 c2, .int .i64 m.last, .int .i64 m.laps], .int .i64 0]) (by simp [results, Try.results23, go_sem, z0, z1, z2, z3, zl, hne, hne']) rfl ?_
  exact ⟨some ⟨b1, 0, none⟩, c1, b1, some ⟨b2, 0, none⟩, c2, b2, rfl, ((PosO.set4 HO.out _ _ _ _ (by omega) (by omega)).below (al1 _ _)).lower (by omega), by simp; omega, by simp; omega, hc1, hc2, OnW.below (OnW.set4 HS.out (by omega) _ _ _ _) (al1 _ _)⟩
theorem specMove_any (p s c l : Int) (st sk re fe ag : Bool) (p1 p2 : Option Addr) (pn1 pc1 pn2 pc2 : Nat) (pp : Int) (xs ys : List Int) (move : Int) (w : World) (h : PosR w p1 p2 pn1 pn2 xs ys) (k : Bool) (hk : okP (okR p s c l st ag) p pn1 pn2 pp xs ys = k) :
    Calls Try.prog 23 #[.agg #[.int .i64 p, .int .i64 s, .bool st, .bool sk, .bool re, .bool fe, .bool ag, .int .i64 c, .int .i64 l], .agg #[.slice p1 pn1 pc1, .slice p2 pn2 pc2, .int .i64 pp], .int .i64 move] w (SoV pn1 (mvCd k p pp st sk re xs ys move) (mvV k p pp st sk re xs ys move) w) := by
  refine mv_cases (sk := sk) (re := re) hk h.l1 move (fun cd MV => (∀ u, RpAt w p s c l st sk re fe ag p1 p2 pn1 pc1 pn2 pc2 pp u → Calls Try.prog 65 #[.pointer (some ⟨w.heap.size, 0, none⟩), .pointer (some ⟨w.heap.size + 1, 0, none⟩), .int .i64 move] u (SwC pn1 cd MV u)) → Calls Try.prog 23 #[.agg #[.int .i64 p, .int .i64 s, .bool st, .bool sk, .bool re, .bool fe, .bool ag, .int .i64 c, .int .i64 l], .agg #[.slice p1 pn1 pc1, .slice p2 pn2 pc2, .int .i64 pp], .int .i64 move] w (SoV pn1 cd MV w)) ?_ ?_ ?_ ?_ (fun u hu => l05Move_any p s c l st sk re fe ag p1 p2 pn1 pc1 pn2 pc2 pp xs ys _ _ move u hu.1 hu.2.1 (h.below hu.2.2) k hk)
  · intro _ hc
    exact specMove_err p s c l st sk re fe ag p1 p2 pn1 pc1 pn2 pc2 pp move w 1 hc
  · intro _ _ hc
    exact specMove_err p s c l st sk re fe ag p1 p2 pn1 pc1 pn2 pc2 pp move w 2 hc
  · intro _ _ _ _ _ _ _ hc
    exact specMove_err p s c l st sk re fe ag p1 p2 pn1 pc1 pn2 pc2 pp move w 6 hc
  · intro _ _ _ _ _ _ _ MV _ hc
    cases MV
    · exact specMove_err p s c l st sk re fe ag p1 p2 pn1 pc1 pn2 pc2 pp move w 10 hc
    · exact specMove_some p s c l st sk re fe ag p1 p2 pn1 pc1 pn2 pc2 pp move w _ hc
theorem mvV_n1 {p s c l pp : Int} {st sk re ag : Bool} {n1 n2 : Nat} {xs ys : List Int} {k : Bool} (hk : okP (okR p s c l st ag) p n1 n2 pp xs ys = k) (l1 : xs.length = n1) {move : Int} {m : Res} (h : mvV k p pp st sk re xs ys move = some m) : mvCd k p pp st sk re xs ys move = 0 ∧ n1 ≤ 16 := by
  refine mv_cases (sk := sk) (re := re) hk l1 move (fun cd MV => MV = some m → cd = 0 ∧ n1 ≤ 16) ?_ ?_ ?_ ?_ h
  · intro _ e; cases e
  · intro _ _ e; cases e
  · intro _ _ _ _ _ _ _ e; cases e
  · rintro e m0 m1 F hF hf he MV hMV rfl
    obtain ⟨q1, q2, -⟩ := okP_parts (hk.trans e)
    obtain ⟨r1, r2, -⟩ := okR_bd q1
    exact ⟨rfl, by omega⟩
theorem move_ex (p s c l : Int) (st sk re fe ag : Bool) (pn1 pn2 : Nat) (pp : Int) (xs ys : List Int) (move : Int) (l1 : xs.length = pn1) (l2 : ys.length = pn2) :
    ∃ (m1 m2 : Nat) (pl pk cd : Int) (us vs : List Int), m1 ≤ 10000000 ∧ m2 ≤ 10000000 ∧
      (∀ (g1 g2 : Nat) (w : World), PosR w (some ⟨g1, 0, none⟩) (some ⟨g2, 0, none⟩) pn1 pn2 xs ys → Calls Try.prog 23 #[.agg #[.int .i64 p, .int .i64 s, .bool st, .bool sk, .bool re, .bool fe, .bool ag, .int .i64 c, .int .i64 l], .agg #[.slice (some ⟨g1, 0, none⟩) pn1 pn1, .slice (some ⟨g2, 0, none⟩) pn2 pn2, .int .i64 pp], .int .i64 move] w (SoZ m1 m2 pl pk cd us vs w)) ∧
      (∀ (g1 g2 : Nat) (w : World), PosR w (some ⟨g1, 0, none⟩) (some ⟨g2, 0, none⟩) pn1 pn2 xs ys → Calls Try.prog 24 #[.agg #[.int .i64 p, .int .i64 s, .bool st, .bool sk, .bool re, .bool fe, .bool ag, .int .i64 c, .int .i64 l], .agg #[.slice (some ⟨g1, 0, none⟩) pn1 pn1, .slice (some ⟨g2, 0, none⟩) pn2 pn2, .int .i64 pp], .int .i64 move] w (SoZ m1 m2 pl pk cd us vs w)) := by
  generalize hk : okP (okR p s c l st ag) p pn1 pn2 pp xs ys = k
  have hs := fun g1 g2 w h => specMove_any p s c l st sk re fe ag (some ⟨g1, 0, none⟩) (some ⟨g2, 0, none⟩) pn1 pn1 pn2 pn2 pp xs ys move w h k hk
  have hi := fun g1 g2 w h => implMove_any p s c l st sk re fe ag (some ⟨g1, 0, none⟩) (some ⟨g2, 0, none⟩) pn1 pn1 pn2 pn2 pp xs ys move w h k hk
  cases hm : mvV k p pp st sk re xs ys move with
  | none =>
    rw [hm] at hs hi
    exact ⟨0, 0, 0, 0, _, [], [], by omega, by omega, hs, hi⟩
  | some m =>
    obtain ⟨e, hn⟩ := mvV_n1 hk l1 hm
    rw [hm, e] at hs hi
    exact ⟨pn1, 2, m.last, m.laps, 0, m.xs, m.ys, by omega, by omega, hs, hi⟩
end Go.Proofs.Ythdgmmnbbccidaa
