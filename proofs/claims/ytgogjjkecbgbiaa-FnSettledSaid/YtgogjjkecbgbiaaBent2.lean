/- Rules that the laws draw, right or wrong. No conditions. -/
import Derived.Test.YtgogjjkecbgbiaaDraw
import Derived.Test.YtgogjjkecbgbiaaAmong
import Derived.Test.YtgogjjkecbgbiaaBox4
import Derived.Test.YtgogjjkecbgbiaaView4
import Derived.Deep.DeepCutAuto
import Derived.Deep.Cut
namespace Go.Proofs.Ytgogjjkecbgbiaa
open Go.Joins Go.ChangeShapes Go.WideShapes Go.ChangeAt Go.RowKit Go.Deep
set_option linter.unusedVariables false

/-- Rules that are being bent. -/
structure Bt (w : World) (sb : Nat) (a : Option Addr) (len cap R : Nat) (p s c l : Int) (st sk re fe ag : Bool) (K : Nat) (u : World) : Prop where
  on : But sb w u
  src : Src u sb a len cap K
  ru : RuAt u R p s c l st sk re fe ag
  rf : ∀ o, u.frozen? ⟨R, o, none⟩ = false
  rz : RuAt u w.heap.size 0 0 0 0 false false false false false
  zf : ∀ o, u.frozen? ⟨w.heap.size, o, none⟩ = false
  r0 : RowAt w sb a len
  s1 : sb < w.heap.size
  v0 : w.heap.size < R
section
variable {w u u' : World} {sb : Nat} {a : Option Addr} {len cap R : Nat} {p s c l : Int} {st sk re fe ag : Bool} {K : Nat}
theorem Bt.pick {K' : Nat} (h : Bt w sb a len cap R p s c l st sk re fe ag K u) (kb : But sb u u') (hs : Src u' sb a len cap K') : Bt w sb a len cap R p s c l st sk re fe ag K' u' := by
  have h1 := h.s1
  have h2 := h.v0
  exact ⟨h.on.trans kb, hs, h.ru.but kb (by omega), fun o => (kb.frozen h.ru.1 (by omega)).trans (h.rf o), h.rz.but kb (by omega), fun o => (kb.frozen h.rz.1 (by omega)).trans (h.zf o), h.r0, h.s1, h.v0⟩
theorem Bt.new (h : Bt w sb a len cap R p s c l st sk re fe ag K u) (kb : Below u.heap.size u u') : Bt w sb a len cap R p s c l st sk re fe ag K u' := h.pick (.of_below kb) (h.src.below kb)
theorem Bt.drew (h : Bt w sb a len cap R p s c l st sk re fe ag K u) : Bt w sb a len cap R p s c l st sk re fe ag K u.drew := h.new (Below.refl _ _).drew
theorem Bt.set_p (v : Int) (h : Bt w sb a len cap R p s c l st sk re fe ag K u) : Bt w sb a len cap R v s c l st sk re fe ag K (u.setCell ⟨R, 0, none⟩ (.int .i64 v)) := by
  have h1 := h.s1
  have h2 := h.v0
  have kb : But R u (u.setCell ⟨R, 0, none⟩ (.int .i64 v)) := (But.refl R u).setCell (p := ⟨R, 0, none⟩) rfl _
  have ho : But sb w (u.setCell ⟨R, 0, none⟩ (.int .i64 v)) := h.on.setNew (by omega) _
  obtain ⟨hd, k0, k1, k2, k3, k4, k5, k6, k7, k8⟩ := h.ru
  have f2 := h.rf 0
  refine ⟨ho, Src.at h.r0 ho h.src ((SameAt.refl sb u).setCell (by omega) _), ⟨by simpa using hd, by go_simp, by go_simp, by go_simp, by go_simp, by go_simp, by go_simp, by go_simp, by go_simp, by go_simp⟩, fun o => ?_, h.rz.but kb (by omega), fun o => (kb.frozen h.rz.1 (by omega)).trans (h.zf o), h.r0, h.s1, h.v0⟩
  have := h.rf o
  go_simp
theorem Bt.set_s (v : Int) (h : Bt w sb a len cap R p s c l st sk re fe ag K u) : Bt w sb a len cap R p v c l st sk re fe ag K (u.setCell ⟨R, 1, none⟩ (.int .i64 v)) := by
  have h1 := h.s1
  have h2 := h.v0
  have kb : But R u (u.setCell ⟨R, 1, none⟩ (.int .i64 v)) := (But.refl R u).setCell (p := ⟨R, 1, none⟩) rfl _
  have ho : But sb w (u.setCell ⟨R, 1, none⟩ (.int .i64 v)) := h.on.setNew (by omega) _
  obtain ⟨hd, k0, k1, k2, k3, k4, k5, k6, k7, k8⟩ := h.ru
  have f2 := h.rf 1
  refine ⟨ho, Src.at h.r0 ho h.src ((SameAt.refl sb u).setCell (by omega) _), ⟨by simpa using hd, by go_simp, by go_simp, by go_simp, by go_simp, by go_simp, by go_simp, by go_simp, by go_simp, by go_simp⟩, fun o => ?_, h.rz.but kb (by omega), fun o => (kb.frozen h.rz.1 (by omega)).trans (h.zf o), h.r0, h.s1, h.v0⟩
  have := h.rf o
  go_simp
theorem Bt.set_st (v : Bool) (h : Bt w sb a len cap R p s c l st sk re fe ag K u) : Bt w sb a len cap R p s c l v sk re fe ag K (u.setCell ⟨R, 2, none⟩ (.bool v)) := by
  have h1 := h.s1
  have h2 := h.v0
  have kb : But R u (u.setCell ⟨R, 2, none⟩ (.bool v)) := (But.refl R u).setCell (p := ⟨R, 2, none⟩) rfl _
  have ho : But sb w (u.setCell ⟨R, 2, none⟩ (.bool v)) := h.on.setNew (by omega) _
  obtain ⟨hd, k0, k1, k2, k3, k4, k5, k6, k7, k8⟩ := h.ru
  have f2 := h.rf 2
  refine ⟨ho, Src.at h.r0 ho h.src ((SameAt.refl sb u).setCell (by omega) _), ⟨by simpa using hd, by go_simp, by go_simp, by go_simp, by go_simp, by go_simp, by go_simp, by go_simp, by go_simp, by go_simp⟩, fun o => ?_, h.rz.but kb (by omega), fun o => (kb.frozen h.rz.1 (by omega)).trans (h.zf o), h.r0, h.s1, h.v0⟩
  have := h.rf o
  go_simp
theorem Bt.set_ag (v : Bool) (h : Bt w sb a len cap R p s c l st sk re fe ag K u) : Bt w sb a len cap R p s c l st sk re fe v K (u.setCell ⟨R, 6, none⟩ (.bool v)) := by
  have h1 := h.s1
  have h2 := h.v0
  have kb : But R u (u.setCell ⟨R, 6, none⟩ (.bool v)) := (But.refl R u).setCell (p := ⟨R, 6, none⟩) rfl _
  have ho : But sb w (u.setCell ⟨R, 6, none⟩ (.bool v)) := h.on.setNew (by omega) _
  obtain ⟨hd, k0, k1, k2, k3, k4, k5, k6, k7, k8⟩ := h.ru
  have f2 := h.rf 6
  refine ⟨ho, Src.at h.r0 ho h.src ((SameAt.refl sb u).setCell (by omega) _), ⟨by simpa using hd, by go_simp, by go_simp, by go_simp, by go_simp, by go_simp, by go_simp, by go_simp, by go_simp, by go_simp⟩, fun o => ?_, h.rz.but kb (by omega), fun o => (kb.frozen h.rz.1 (by omega)).trans (h.zf o), h.r0, h.s1, h.v0⟩
  have := h.rf o
  go_simp
theorem Bt.set_c (v : Int) (h : Bt w sb a len cap R p s c l st sk re fe ag K u) : Bt w sb a len cap R p s v l st sk re fe ag K (u.setCell ⟨R, 7, none⟩ (.int .i64 v)) := by
  have h1 := h.s1
  have h2 := h.v0
  have kb : But R u (u.setCell ⟨R, 7, none⟩ (.int .i64 v)) := (But.refl R u).setCell (p := ⟨R, 7, none⟩) rfl _
  have ho : But sb w (u.setCell ⟨R, 7, none⟩ (.int .i64 v)) := h.on.setNew (by omega) _
  obtain ⟨hd, k0, k1, k2, k3, k4, k5, k6, k7, k8⟩ := h.ru
  have f2 := h.rf 7
  refine ⟨ho, Src.at h.r0 ho h.src ((SameAt.refl sb u).setCell (by omega) _), ⟨by simpa using hd, by go_simp, by go_simp, by go_simp, by go_simp, by go_simp, by go_simp, by go_simp, by go_simp, by go_simp⟩, fun o => ?_, h.rz.but kb (by omega), fun o => (kb.frozen h.rz.1 (by omega)).trans (h.zf o), h.r0, h.s1, h.v0⟩
  have := h.rf o
  go_simp
theorem Bt.set_l (v : Int) (h : Bt w sb a len cap R p s c l st sk re fe ag K u) : Bt w sb a len cap R p s c v st sk re fe ag K (u.setCell ⟨R, 8, none⟩ (.int .i64 v)) := by
  have h1 := h.s1
  have h2 := h.v0
  have kb : But R u (u.setCell ⟨R, 8, none⟩ (.int .i64 v)) := (But.refl R u).setCell (p := ⟨R, 8, none⟩) rfl _
  have ho : But sb w (u.setCell ⟨R, 8, none⟩ (.int .i64 v)) := h.on.setNew (by omega) _
  obtain ⟨hd, k0, k1, k2, k3, k4, k5, k6, k7, k8⟩ := h.ru
  have f2 := h.rf 8
  refine ⟨ho, Src.at h.r0 ho h.src ((SameAt.refl sb u).setCell (by omega) _), ⟨by simpa using hd, by go_simp, by go_simp, by go_simp, by go_simp, by go_simp, by go_simp, by go_simp, by go_simp, by go_simp⟩, fun o => ?_, h.rz.but kb (by omega), fun o => (kb.frozen h.rz.1 (by omega)).trans (h.zf o), h.r0, h.s1, h.v0⟩
  have := h.rf o
  go_simp
end
/-- A row of numbers that a call has just laid. -/
theorem row_laid (u : World) (L : List Int) (T : TypeId) (hl : L.length ≤ 1000) : RowN (u.alloc (.cells (L.map (Value.int .i64)).toArray T)) (some ⟨u.heap.size, 0, none⟩) L :=
  ⟨by omega, .inr ⟨u.heap.size, 0, rfl, by simp, fun i z hi => by
    rw [Nat.zero_add, World.cell?_alloc_new]
    simp [hi]⟩⟩
def BentP (sb : Nat) (a : Option Addr) (len cap K : Nat) (w : World) (e : Ending) (w' : World) : Prop :=
  ∃ (p s c l : Int) (st sk re fe ag : Bool), e = .returned (.agg #[.int .i64 p, .int .i64 s, .bool st, .bool sk, .bool re, .bool fe, .bool ag, .int .i64 c, .int .i64 l]) ∧ But sb w w' ∧ Src w' sb a len cap (K + 40)
set_option maxHeartbeats 8000000 in
set_option maxRecDepth 100000 in
theorem bent2_any (sb : Nat) (a : Option Addr) (len cap K : Nat) (w : World) (hs : Src w sb a len cap K) (hK : K < 800000) :
    Calls Try.prog 50 #[.pointer (some ⟨sb, 0, none⟩)] w (BentP sb a len cap K w) := by
  have hsl := hs.lt
  have HSrc := Lib.hid hs
  clear hs
  go_enter Try.func50, Try.ntmps50
  go_wp2_with fail
  refine (draw_any sb a len cap K _ (HSrc.out.below (al1 _ _)) (by omega)).mono ?_
  rintro e w1 ⟨p, s, c, l, st, sk, re, fe, ag, -, rfl, hb1, hs1⟩
  have hz1 := hb1.size
  simp at hz1
  have HD : Hid (Bt w sb a len cap w1.heap.size p s c l st sk re fe ag (K + 30) (w1.alloc (.cells #[.int .i64 p, .int .i64 s, .bool st, .bool sk, .bool re, .bool fe, .bool ag, .int .i64 c, .int .i64 l] 25))) := by
    have h1 : But sb w w1 := (But.of_below (al1 w (.cells #[.int .i64 0, .int .i64 0, .bool false, .bool false, .bool false, .bool false, .bool false, .int .i64 0, .int .i64 0] 25))).trans hb1
    have hk := al1 w1 (.cells #[.int .i64 p, .int .i64 s, .bool st, .bool sk, .bool re, .bool fe, .bool ag, .int .i64 c, .int .i64 l] 25)
    exact Lib.hid ⟨h1.trans (.of_below hk), hs1.below hk, ru_new p s c l st sk re fe ag w1 _, fun o => by go_simp, ((ru_new 0 0 0 0 false false false false false w 25).but hb1 (by omega)).below hk, fun o => ((hk.frozen (p := ⟨w.heap.size, o, none⟩) (by show w.heap.size < w1.heap.size; omega)).trans ((hb1.frozen (c := w.heap.size) (o := o) (by simp) (by omega)).trans (by go_simp))), HSrc.out.1, hsl, by omega⟩
  clear hb1 hs1
  go_wp2_with fail
  generalize hR : w1.heap.size = R at *
  generalize hW : w1.alloc (.cells #[.int .i64 p, .int .i64 s, .bool st, .bool sk, .bool re, .bool fe, .bool ag, .int .i64 c, .int .i64 l] 25) = w2 at *
  clear hR hW
  refine (pick_any sb a len cap _ 24 _ HD.out.src (by omega) (by omega) (by omega)).mono ?_
  rintro e w3 ⟨v, hv, rfl, hbut, hsrc⟩
  have HD := Lib.hid (HD.out.pick hbut hsrc)
  clear hbut hsrc
  by_cases e0 : v = 0
  · subst e0
    go_wp2_with fail
    refine (among_any sb a len cap _ _ 5 5 [1, 2, 8, 9, -9223372036854775808] _ (HD.out.new (al1 _ _)).src (by omega) rfl (by omega) (by omega) (by have := HD.out.src.lt; omega) (row_laid _ [1, 2, 8, 9, -9223372036854775808] _ (by decide))).mono ?_
    rintro e w5 ⟨x, -, rfl, hbut, hsrc⟩
    have HD := Lib.hid ((HD.out.new (al1 _ _)).pick hbut hsrc)
    clear hbut hsrc
    obtain ⟨hrl, r0, r1, r2, r3, r4, r5, r6, r7, r8⟩ := HD.out.ru
    have f0 := HD.out.rf 0
    go_upto_region 14 with fail
    clear hrl r0 r1 r2 r3 r4 r5 r6 r7 r8 f0
    have HD := Lib.hid (HD.out.set_p x)
    generalize hW : w5.setCell ⟨R, 0, none⟩ (.int .i64 x) = w6 at *
    clear hW
    obtain ⟨hzl, z0, z1, z2, z3, z4, z5, z6, z7, z8⟩ := HD.out.rz
    obtain ⟨hrl, r0, r1, r2, r3, r4, r5, r6, r7, r8⟩ := HD.out.ru
    have f0 := HD.out.zf 0
    have f1 := HD.out.zf 1
    have f2 := HD.out.zf 2
    have f3 := HD.out.zf 3
    have f4 := HD.out.zf 4
    have f5 := HD.out.zf 5
    have f6 := HD.out.zf 6
    have f7 := HD.out.zf 7
    have f8 := HD.out.zf 8
    go_wp2_with fail
    have hne : w.heap.size ≠ sb := by omega
    have HBF := ((((((((((HD.out.on.setNew (o := 0) (Nat.le_refl _) (.int .i64 x)).setNew (o := 1) (Nat.le_refl _) (.int .i64 s)).setNew (o := 2) (Nat.le_refl _) (.bool st)).setNew (o := 3) (Nat.le_refl _) (.bool sk)).setNew (o := 4) (Nat.le_refl _) (.bool re)).setNew (o := 5) (Nat.le_refl _) (.bool fe)).setNew (o := 6) (Nat.le_refl _) (.bool ag)).setNew (o := 7) (Nat.le_refl _) (.int .i64 c)).setNew (o := 8) (Nat.le_refl _) (.int .i64 l)))
    exact bodyPost_ret (v := .agg #[.int .i64 x, .int .i64 s, .bool st, .bool sk, .bool re, .bool fe, .bool ag, .int .i64 c, .int .i64 l]) (by simp [results, Try.results50, go_sem, z0, z1, z2, z3, z4, z5, z6, z7, z8]) rfl ⟨_, _, _, _, _, _, _, _, _, rfl, HBF, (Src.at HD.out.r0 HBF HD.out.src (((((((((((SameAt.refl sb _).setCell hne _).setCell hne _).setCell hne _).setCell hne _).setCell hne _).setCell hne _).setCell hne _).setCell hne _).setCell hne _))).mono (by omega)⟩
  have d0 : (v == 0) = false := by simpa using e0
  by_cases e1 : v = 1
  · subst e1
    go_wp2_with fail
    refine (among_any sb a len cap _ _ 4 4 [0, 1, 6, 7] _ (HD.out.new (al1 _ _)).src (by omega) rfl (by omega) (by omega) (by have := HD.out.src.lt; omega) (row_laid _ [0, 1, 6, 7] _ (by decide))).mono ?_
    rintro e w5 ⟨x, -, rfl, hbut, hsrc⟩
    have HD := Lib.hid ((HD.out.new (al1 _ _)).pick hbut hsrc)
    clear hbut hsrc
    obtain ⟨hrl, r0, r1, r2, r3, r4, r5, r6, r7, r8⟩ := HD.out.ru
    have f0 := HD.out.rf 1
    go_upto_region 14 with fail
    clear hrl r0 r1 r2 r3 r4 r5 r6 r7 r8 f0
    have HD := Lib.hid (HD.out.set_s x)
    generalize hW : w5.setCell ⟨R, 1, none⟩ (.int .i64 x) = w6 at *
    clear hW
    obtain ⟨hzl, z0, z1, z2, z3, z4, z5, z6, z7, z8⟩ := HD.out.rz
    obtain ⟨hrl, r0, r1, r2, r3, r4, r5, r6, r7, r8⟩ := HD.out.ru
    have f0 := HD.out.zf 0
    have f1 := HD.out.zf 1
    have f2 := HD.out.zf 2
    have f3 := HD.out.zf 3
    have f4 := HD.out.zf 4
    have f5 := HD.out.zf 5
    have f6 := HD.out.zf 6
    have f7 := HD.out.zf 7
    have f8 := HD.out.zf 8
    go_wp2_with fail
    have hne : w.heap.size ≠ sb := by omega
    have HBF := ((((((((((HD.out.on.setNew (o := 0) (Nat.le_refl _) (.int .i64 p)).setNew (o := 1) (Nat.le_refl _) (.int .i64 x)).setNew (o := 2) (Nat.le_refl _) (.bool st)).setNew (o := 3) (Nat.le_refl _) (.bool sk)).setNew (o := 4) (Nat.le_refl _) (.bool re)).setNew (o := 5) (Nat.le_refl _) (.bool fe)).setNew (o := 6) (Nat.le_refl _) (.bool ag)).setNew (o := 7) (Nat.le_refl _) (.int .i64 c)).setNew (o := 8) (Nat.le_refl _) (.int .i64 l)))
    exact bodyPost_ret (v := .agg #[.int .i64 p, .int .i64 x, .bool st, .bool sk, .bool re, .bool fe, .bool ag, .int .i64 c, .int .i64 l]) (by simp [results, Try.results50, go_sem, z0, z1, z2, z3, z4, z5, z6, z7, z8]) rfl ⟨_, _, _, _, _, _, _, _, _, rfl, HBF, (Src.at HD.out.r0 HBF HD.out.src (((((((((((SameAt.refl sb _).setCell hne _).setCell hne _).setCell hne _).setCell hne _).setCell hne _).setCell hne _).setCell hne _).setCell hne _).setCell hne _))).mono (by omega)⟩
  have d1 : (v == 1) = false := by simpa using e1
  by_cases e2 : v = 2
  · subst e2
    go_wp2_with fail
    refine (among_any sb a len cap _ _ 4 4 [-1, 4, 0, 3] _ (HD.out.new (al1 _ _)).src (by omega) rfl (by omega) (by omega) (by have := HD.out.src.lt; omega) (row_laid _ [-1, 4, 0, 3] _ (by decide))).mono ?_
    rintro e w5 ⟨x, -, rfl, hbut, hsrc⟩
    have HD := Lib.hid ((HD.out.new (al1 _ _)).pick hbut hsrc)
    clear hbut hsrc
    obtain ⟨hrl, r0, r1, r2, r3, r4, r5, r6, r7, r8⟩ := HD.out.ru
    have f0 := HD.out.rf 7
    go_upto_region 14 with fail
    clear hrl r0 r1 r2 r3 r4 r5 r6 r7 r8 f0
    have HD := Lib.hid (HD.out.set_c x)
    generalize hW : w5.setCell ⟨R, 7, none⟩ (.int .i64 x) = w6 at *
    clear hW
    obtain ⟨hzl, z0, z1, z2, z3, z4, z5, z6, z7, z8⟩ := HD.out.rz
    obtain ⟨hrl, r0, r1, r2, r3, r4, r5, r6, r7, r8⟩ := HD.out.ru
    have f0 := HD.out.zf 0
    have f1 := HD.out.zf 1
    have f2 := HD.out.zf 2
    have f3 := HD.out.zf 3
    have f4 := HD.out.zf 4
    have f5 := HD.out.zf 5
    have f6 := HD.out.zf 6
    have f7 := HD.out.zf 7
    have f8 := HD.out.zf 8
    go_wp2_with fail
    have hne : w.heap.size ≠ sb := by omega
    have HBF := ((((((((((HD.out.on.setNew (o := 0) (Nat.le_refl _) (.int .i64 p)).setNew (o := 1) (Nat.le_refl _) (.int .i64 s)).setNew (o := 2) (Nat.le_refl _) (.bool st)).setNew (o := 3) (Nat.le_refl _) (.bool sk)).setNew (o := 4) (Nat.le_refl _) (.bool re)).setNew (o := 5) (Nat.le_refl _) (.bool fe)).setNew (o := 6) (Nat.le_refl _) (.bool ag)).setNew (o := 7) (Nat.le_refl _) (.int .i64 x)).setNew (o := 8) (Nat.le_refl _) (.int .i64 l)))
    exact bodyPost_ret (v := .agg #[.int .i64 p, .int .i64 s, .bool st, .bool sk, .bool re, .bool fe, .bool ag, .int .i64 x, .int .i64 l]) (by simp [results, Try.results50, go_sem, z0, z1, z2, z3, z4, z5, z6, z7, z8]) rfl ⟨_, _, _, _, _, _, _, _, _, rfl, HBF, (Src.at HD.out.r0 HBF HD.out.src (((((((((((SameAt.refl sb _).setCell hne _).setCell hne _).setCell hne _).setCell hne _).setCell hne _).setCell hne _).setCell hne _).setCell hne _).setCell hne _))).mono (by omega)⟩
  have d2 : (v == 2) = false := by simpa using e2
  by_cases e3 : v = 3
  · subst e3
    go_wp2_with fail
    refine (among_any sb a len cap _ _ 3 3 [-1, 3, 2] _ (HD.out.new (al1 _ _)).src (by omega) rfl (by omega) (by omega) (by have := HD.out.src.lt; omega) (row_laid _ [-1, 3, 2] _ (by decide))).mono ?_
    rintro e w5 ⟨x, -, rfl, hbut, hsrc⟩
    have HD := Lib.hid ((HD.out.new (al1 _ _)).pick hbut hsrc)
    clear hbut hsrc
    obtain ⟨hrl, r0, r1, r2, r3, r4, r5, r6, r7, r8⟩ := HD.out.ru
    have f0 := HD.out.rf 8
    go_upto_region 14 with fail
    clear hrl r0 r1 r2 r3 r4 r5 r6 r7 r8 f0
    have HD := Lib.hid (HD.out.set_l x)
    generalize hW : w5.setCell ⟨R, 8, none⟩ (.int .i64 x) = w6 at *
    clear hW
    obtain ⟨hzl, z0, z1, z2, z3, z4, z5, z6, z7, z8⟩ := HD.out.rz
    obtain ⟨hrl, r0, r1, r2, r3, r4, r5, r6, r7, r8⟩ := HD.out.ru
    have f0 := HD.out.zf 0
    have f1 := HD.out.zf 1
    have f2 := HD.out.zf 2
    have f3 := HD.out.zf 3
    have f4 := HD.out.zf 4
    have f5 := HD.out.zf 5
    have f6 := HD.out.zf 6
    have f7 := HD.out.zf 7
    have f8 := HD.out.zf 8
    go_wp2_with fail
    have hne : w.heap.size ≠ sb := by omega
    have HBF := ((((((((((HD.out.on.setNew (o := 0) (Nat.le_refl _) (.int .i64 p)).setNew (o := 1) (Nat.le_refl _) (.int .i64 s)).setNew (o := 2) (Nat.le_refl _) (.bool st)).setNew (o := 3) (Nat.le_refl _) (.bool sk)).setNew (o := 4) (Nat.le_refl _) (.bool re)).setNew (o := 5) (Nat.le_refl _) (.bool fe)).setNew (o := 6) (Nat.le_refl _) (.bool ag)).setNew (o := 7) (Nat.le_refl _) (.int .i64 c)).setNew (o := 8) (Nat.le_refl _) (.int .i64 x)))
    exact bodyPost_ret (v := .agg #[.int .i64 p, .int .i64 s, .bool st, .bool sk, .bool re, .bool fe, .bool ag, .int .i64 c, .int .i64 x]) (by simp [results, Try.results50, go_sem, z0, z1, z2, z3, z4, z5, z6, z7, z8]) rfl ⟨_, _, _, _, _, _, _, _, _, rfl, HBF, (Src.at HD.out.r0 HBF HD.out.src (((((((((((SameAt.refl sb _).setCell hne _).setCell hne _).setCell hne _).setCell hne _).setCell hne _).setCell hne _).setCell hne _).setCell hne _).setCell hne _))).mono (by omega)⟩
  have d3 : (v == 3) = false := by simpa using e3
  by_cases e4 : v = 4
  · subst e4
    obtain ⟨hrl, r0, r1, r2, r3, r4, r5, r6, r7, r8⟩ := HD.out.ru
    have f6 := HD.out.rf 6
    go_upto_region 13 with fail
    clear hrl r0 r1 r2 r3 r4 r5 r6 r7 r8 f6
    have HD := Lib.hid (HD.out.set_ag true)
    generalize hW : w3.setCell ⟨R, 6, none⟩ (.bool true) = w4 at *
    clear hW
    go_wp2_with fail
    refine (one_any sb a len cap _ 2 _ HD.out.src (by omega) (by omega) (by omega)).mono ?_
    rintro e w5 ⟨x, rfl, hbut, hsrc⟩
    have HD := Lib.hid (HD.out.pick hbut hsrc)
    clear hbut hsrc
    obtain ⟨hrl, r0, r1, r2, r3, r4, r5, r6, r7, r8⟩ := HD.out.ru
    have f2 := HD.out.rf 2
    go_upto_region 14 with fail
    clear hrl r0 r1 r2 r3 r4 r5 r6 r7 r8 f2
    have HD := Lib.hid (HD.out.set_st x)
    generalize hW : w5.setCell ⟨R, 2, none⟩ (.bool x) = w6 at *
    clear hW
    obtain ⟨hzl, z0, z1, z2, z3, z4, z5, z6, z7, z8⟩ := HD.out.rz
    obtain ⟨hrl, r0, r1, r2, r3, r4, r5, r6, r7, r8⟩ := HD.out.ru
    have f0 := HD.out.zf 0
    have f1 := HD.out.zf 1
    have f2 := HD.out.zf 2
    have f3 := HD.out.zf 3
    have f4 := HD.out.zf 4
    have f5 := HD.out.zf 5
    have f6 := HD.out.zf 6
    have f7 := HD.out.zf 7
    have f8 := HD.out.zf 8
    go_wp2_with fail
    have hne : w.heap.size ≠ sb := by omega
    have HBF := ((((((((((HD.out.on.setNew (o := 0) (Nat.le_refl _) (.int .i64 p)).setNew (o := 1) (Nat.le_refl _) (.int .i64 s)).setNew (o := 2) (Nat.le_refl _) (.bool x)).setNew (o := 3) (Nat.le_refl _) (.bool sk)).setNew (o := 4) (Nat.le_refl _) (.bool re)).setNew (o := 5) (Nat.le_refl _) (.bool fe)).setNew (o := 6) (Nat.le_refl _) (.bool true)).setNew (o := 7) (Nat.le_refl _) (.int .i64 c)).setNew (o := 8) (Nat.le_refl _) (.int .i64 l)))
    exact bodyPost_ret (v := .agg #[.int .i64 p, .int .i64 s, .bool x, .bool sk, .bool re, .bool fe, .bool true, .int .i64 c, .int .i64 l]) (by simp [results, Try.results50, go_sem, z0, z1, z2, z3, z4, z5, z6, z7, z8]) rfl ⟨_, _, _, _, _, _, _, _, _, rfl, HBF, (Src.at HD.out.r0 HBF HD.out.src (((((((((((SameAt.refl sb _).setCell hne _).setCell hne _).setCell hne _).setCell hne _).setCell hne _).setCell hne _).setCell hne _).setCell hne _).setCell hne _))).mono (by omega)⟩
  have d4 : (v == 4) = false := by simpa using e4
  clear e0 e1 e2 e3 e4
  go_upto_region 14 with fail
  obtain ⟨hzl, z0, z1, z2, z3, z4, z5, z6, z7, z8⟩ := HD.out.rz
  obtain ⟨hrl, r0, r1, r2, r3, r4, r5, r6, r7, r8⟩ := HD.out.ru
  have f0 := HD.out.zf 0
  have f1 := HD.out.zf 1
  have f2 := HD.out.zf 2
  have f3 := HD.out.zf 3
  have f4 := HD.out.zf 4
  have f5 := HD.out.zf 5
  have f6 := HD.out.zf 6
  have f7 := HD.out.zf 7
  have f8 := HD.out.zf 8
  go_wp2_with fail
  have hne : w.heap.size ≠ sb := by omega
  have HBF := ((((((((((HD.out.on.setNew (o := 0) (Nat.le_refl _) (.int .i64 p)).setNew (o := 1) (Nat.le_refl _) (.int .i64 s)).setNew (o := 2) (Nat.le_refl _) (.bool st)).setNew (o := 3) (Nat.le_refl _) (.bool sk)).setNew (o := 4) (Nat.le_refl _) (.bool re)).setNew (o := 5) (Nat.le_refl _) (.bool fe)).setNew (o := 6) (Nat.le_refl _) (.bool ag)).setNew (o := 7) (Nat.le_refl _) (.int .i64 c)).setNew (o := 8) (Nat.le_refl _) (.int .i64 l)))
  exact bodyPost_ret (v := .agg #[.int .i64 p, .int .i64 s, .bool st, .bool sk, .bool re, .bool fe, .bool ag, .int .i64 c, .int .i64 l]) (by simp [results, Try.results50, go_sem, z0, z1, z2, z3, z4, z5, z6, z7, z8]) rfl ⟨_, _, _, _, _, _, _, _, _, rfl, HBF, (Src.at HD.out.r0 HBF HD.out.src (((((((((((SameAt.refl sb _).setCell hne _).setCell hne _).setCell hne _).setCell hne _).setCell hne _).setCell hne _).setCell hne _).setCell hne _).setCell hne _))).mono (by omega)⟩
end Go.Proofs.Ytgogjjkecbgbiaa
