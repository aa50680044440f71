/- Rules, a position and a player that the laws draw, right or wrong. No conditions. -/
import Derived.Test.YtgogjjkecbgbiaaBent4
import Derived.Deep.DeepCutAuto
import Derived.Deep.RegionLaw
namespace Go.Proofs.Ytgogjjkecbgbiaa
open Go.Joins Go.ChangeShapes Go.WideShapes Go.ChangeAt Go.RowKit Go.Deep
set_option linter.unusedVariables false

/-- What lies there while the stores are bent. -/
structure Ax (w : World) (sb : Nat) (a : Option Addr) (len cap R : Nat) (p s c l : Int) (st sk re fe ag : Bool) (V g1 o1 : Nat) (x2 : Option Addr) (xn1 xc1 xn2 xc2 : Nat) (xp : Int) (xs ys : List Int) (K : Nat) (u : World) : Prop where
  on : OnW w u
  src : Src u sb a len cap K
  ru : RuAt u R p s c l st sk re fe ag
  po : PoAt u V (some ⟨g1, o1, none⟩) x2 xn1 xc1 xn2 xc2 xp
  ro : PosR u (some ⟨g1, o1, none⟩) x2 xn1 xn2 xs ys
  b1 : sb < g1
  b2 : ys ≠ [] → ∀ g o, x2 = some ⟨g, o, none⟩ → sb < g
  rz : RuAt u w.heap.size 0 0 0 0 false false false false false
  zf : ∀ o, u.frozen? ⟨w.heap.size, o, none⟩ = false
  pz : ZeroP u (w.heap.size + 1)
  s1 : sb = w.heap.size + 2
  vR : sb < R
  vV : sb < V
section
variable {w u u' : World} {sb : Nat} {a : Option Addr} {len cap R : Nat} {p s c l : Int} {st sk re fe ag : Bool} {V g1 o1 : Nat} {x2 : Option Addr} {xn1 xc1 xn2 xc2 : Nat} {xp : Int} {xs ys : List Int} {K : Nat}
theorem Ax.pick {K' : Nat} (h : Ax w sb a len cap R p s c l st sk re fe ag V g1 o1 x2 xn1 xc1 xn2 xc2 xp xs ys K u) (kb : But sb u u') (hs : Src u' sb a len cap K') : Ax w sb a len cap R p s c l st sk re fe ag V g1 o1 x2 xn1 xc1 xn2 xc2 xp xs ys K' u' := by
  have h1 := h.s1
  have h2 := h.vR
  have h3 := h.vV
  have h4 := h.b1
  exact ⟨h.on.but kb (by omega), hs, h.ru.but kb (by omega), h.po.but kb (by omega), ⟨row_butb h.ro.r1 kb (fun _ g o e => by cases e; omega), row_butb h.ro.r2 kb (fun hn g o e => by have := h.b2 hn g o e; omega), h.ro.l1, h.ro.l2⟩, h.b1, h.b2, h.rz.but kb (by omega), fun o => (kb.frozen h.rz.1 (by omega)).trans (h.zf o), h.pz.but kb (by omega), h.s1, h.vR, h.vV⟩
theorem Ax.new (h : Ax w sb a len cap R p s c l st sk re fe ag V g1 o1 x2 xn1 xc1 xn2 xc2 xp xs ys K u) (kb : Below u.heap.size u u') : Ax w sb a len cap R p s c l st sk re fe ag V g1 o1 x2 xn1 xc1 xn2 xc2 xp xs ys K u' := h.pick (.of_below kb) (h.src.below kb)
theorem Ax.drew (h : Ax w sb a len cap R p s c l st sk re fe ag V g1 o1 x2 xn1 xc1 xn2 xc2 xp xs ys K u) : Ax w sb a len cap R p s c l st sk re fe ag V g1 o1 x2 xn1 xc1 xn2 xc2 xp xs ys K u.drew := h.new (Below.refl _ _).drew
end
theorem rowAt_of {w u : World} {a : Option Addr} {len b : Nat} (h : Bytes w a len) (k : Below w.heap.size w u) (hb : w.heap.size ≤ b) : RowAt u b a len := by
  obtain ⟨hl, h | ⟨c, off, ha, hc, hx⟩⟩ := h
  · exact ⟨hl, .inl h⟩
  · refine ⟨hl, .inr ⟨c, off, ha, by omega, Nat.lt_of_lt_of_le hc k.size, fun i hi => ?_⟩⟩
    rw [k.cell hc]
    exact hx i hi
theorem Ax.setSt {w u : World} {sb : Nat} {a : Option Addr} {len cap R : Nat} {p s c l : Int} {st sk re fe ag : Bool} {V g1 o1 g2 : Nat} {xn1 xc1 xc2 : Nat} {xp : Int} {xs ys : List Int} {K B j : Nat} (v : Int) (hby : Bytes w a len) (h : Ax w sb a len cap R p s c l st sk re fe ag V g1 o1 (some ⟨g2, 0, none⟩) xn1 xc1 2 xc2 xp xs ys K u) (ho : OutN u B (some ⟨g2, 0, none⟩) g2 ys) (hj : j < 2) (h12 : g1 ≠ g2) (hV : g2 ≠ V) (hR : g2 ≠ R) :
    Ax w sb a len cap R p s c l st sk re fe ag V g1 o1 (some ⟨g2, 0, none⟩) xn1 xc1 2 xc2 xp xs (ys.set j v) K (u.setCell ⟨g2, j, none⟩ (.int .i64 v)) := by
  have h1 := h.s1
  have h2 := h.ro.l2
  have hne : ys ≠ [] := by
    intro e
    rw [e, List.length_nil] at h2
    omega
  have h3 := h.b2 hne g2 0 rfl
  have kb : But g2 u (u.setCell ⟨g2, j, none⟩ (.int .i64 v)) := (But.refl g2 u).setCell (p := ⟨g2, j, none⟩) rfl _
  have hon : OnW w (u.setCell ⟨g2, j, none⟩ (.int .i64 v)) := h.on.but kb (by omega)
  have hsrc : Src (u.setCell ⟨g2, j, none⟩ (.int .i64 v)) sb a len cap K := Src.at (rowAt_of hby hon (by omega)) (But.refl _ _) h.src ((SameAt.refl sb u).setCell (by omega) _)
  exact ⟨h.on.but kb (by omega), hsrc, h.ru.but kb (by omega), h.po.but kb (by omega), ⟨row_butb h.ro.r1 kb (fun _ g o e => by cases e; omega), (ho.set (by omega) v).row, h.ro.l1, by rw [List.length_set]; exact h2⟩, h.b1, fun _ g o e => h.b2 hne g o e, h.rz.but kb (by omega), fun o => (kb.frozen h.rz.1 (by omega)).trans (h.zf o), h.pz.but kb (by omega), h.s1, h.vR, h.vV⟩
/-- A cell of a row that may be written. -/
theorem out_at {u : World} {B g j : Nat} {ys : List Int} (h : OutN u B (some ⟨g, 0, none⟩) g ys) (hj : j < ys.length) : g < u.heap.size ∧ u.frozen? ⟨g, j, none⟩ = false ∧ ∃ y, y ∈ ys ∧ u.cell? ⟨g, j, none⟩ = some (.int .i64 y) := by
  have hne : ys ≠ [] := by
    intro e
    rw [e, List.length_nil] at hj
    omega
  obtain ⟨gl, gf⟩ := h.free hne
  refine ⟨gl, gf j, ?_⟩
  obtain ⟨_, h1 | ⟨g', o, ha, _, hx⟩⟩ := h.row
  · exact absurd h1 hne
  · cases ha
    have := hx j _ (List.getElem?_eq_getElem hj)
    rw [Nat.zero_add] at this
    exact ⟨_, List.getElem_mem hj, this⟩
/-- Rules, a position and a player, whatever they are. -/
def Ask9P (w : World) (e : Ending) (w' : World) : Prop :=
  ∃ (p s c l : Int) (st sk re fe ag : Bool) (g1 o1 : Nat) (x2 : Option Addr) (xn1 xc1 xn2 xc2 : Nat) (xp pl : Int) (xs ys : List Int), e = .returned (.tuple #[.agg #[.int .i64 p, .int .i64 s, .bool st, .bool sk, .bool re, .bool fe, .bool ag, .int .i64 c, .int .i64 l], .agg #[.slice (some ⟨g1, o1, none⟩) xn1 xc1, .slice x2 xn2 xc2, .int .i64 xp], .int .i64 pl]) ∧ PosR w' (some ⟨g1, o1, none⟩) x2 xn1 xn2 xs ys ∧ xn1 ≤ xc1 ∧ xn2 ≤ xc2 ∧ w.heap.size + 2 ≤ g1 ∧ (ys ≠ [] → ∀ g o, x2 = some ⟨g, o, none⟩ → w.heap.size + 2 ≤ g) ∧ Below w.heap.size w w'
theorem ax_fin {w u : World} {sb : Nat} {a : Option Addr} {len cap R : Nat} {p s c l : Int} {st sk re fe ag : Bool} {V g1 o1 : Nat} {x2 : Option Addr} {xn1 xc1 xn2 xc2 : Nat} {xp : Int} {xs ys : List Int} {K : Nat} (h : Ax w sb a len cap R p s c l st sk re fe ag V g1 o1 x2 xn1 xc1 xn2 xc2 xp xs ys K u) (v0 v1 v2 v3 v4 v5 v6 v7 v8 t0 t1 t2 : Value) :
    PosR (((((((((((((u.setCell ⟨w.heap.size, 0, none⟩ v0).setCell ⟨w.heap.size, 1, none⟩ v1).setCell ⟨w.heap.size, 2, none⟩ v2).setCell ⟨w.heap.size, 3, none⟩ v3).setCell ⟨w.heap.size, 4, none⟩ v4).setCell ⟨w.heap.size, 5, none⟩ v5).setCell ⟨w.heap.size, 6, none⟩ v6).setCell ⟨w.heap.size, 7, none⟩ v7).setCell ⟨w.heap.size, 8, none⟩ v8).setCell ⟨w.heap.size + 1, 0, none⟩ t0).setCell ⟨w.heap.size + 1, 1, none⟩ t1).setCell ⟨w.heap.size + 1, 2, none⟩ t2).drew) (some ⟨g1, o1, none⟩) x2 xn1 xn2 xs ys ∧
    Below w.heap.size w (((((((((((((u.setCell ⟨w.heap.size, 0, none⟩ v0).setCell ⟨w.heap.size, 1, none⟩ v1).setCell ⟨w.heap.size, 2, none⟩ v2).setCell ⟨w.heap.size, 3, none⟩ v3).setCell ⟨w.heap.size, 4, none⟩ v4).setCell ⟨w.heap.size, 5, none⟩ v5).setCell ⟨w.heap.size, 6, none⟩ v6).setCell ⟨w.heap.size, 7, none⟩ v7).setCell ⟨w.heap.size, 8, none⟩ v8).setCell ⟨w.heap.size + 1, 0, none⟩ t0).setCell ⟨w.heap.size + 1, 1, none⟩ t1).setCell ⟨w.heap.size + 1, 2, none⟩ t2).drew) := by
  have h1 := h.s1
  have h2 := h.b1
  have k9 := but9 w.heap.size u v0 v1 v2 v3 v4 v5 v6 v7 v8
  refine ⟨⟨?_, ?_, h.ro.l1, h.ro.l2⟩, ((h.on.but k9 (Nat.le_refl _)).but (but3 (w.heap.size + 1) _ t0 t1 t2) (by omega)).drew⟩
  · exact (row_butb (row_butb h.ro.r1 k9 (fun _ g o e => by cases e; omega)) (but3 (w.heap.size + 1) _ t0 t1 t2) (fun _ g o e => by cases e; omega)).drewN 1
  · exact (row_butb (row_butb h.ro.r2 k9 (fun hn g o e => by have := h.b2 hn g o e; omega)) (but3 (w.heap.size + 1) _ t0 t1 t2) (fun hn g o e => by have := h.b2 hn g o e; omega)).drewN 1
set_option maxHeartbeats 16000000 in
set_option maxRecDepth 100000 in
theorem ask9_any (a : Option Addr) (len cap : Nat) (w : World) (hB : Bytes w a len) :
    Calls Try.prog 18 #[.slice a len cap] w (Ask9P w) := by
  have HB := Lib.hid hB
  clear hB
  go_enter Try.func18, Try.ntmps18
  go_wp2_with (go_at_call 33; go_in)
  refine (bent4_any (w.heap.size + 1 + 1) a len cap 0 _ ⟨?_, 0, 0, Nat.le_refl _, ⟨by simp, by go_simp, by go_simp, by go_simp, fun o => by go_simp, by decide, by decide⟩⟩ (by decide)).mono ?_
  · have h := (HB.out.below ((Below.refl w.heap.size w).alloc (Nat.le_refl _) (.cells #[.int .i64 0, .int .i64 0, .bool false, .bool false, .bool false, .bool false, .bool false, .int .i64 0, .int .i64 0] 25) |>.alloc (by simp) (.cells #[.slice none 0 0, .slice none 0 0, .int .i64 0] 28))).row (.cells #[.slice a len cap, .int .i64 0, .int .u64 0] 69)
    simpa using h
  rintro e w1 ⟨p, s, c, l, st, sk, re, fe, ag, g1, o1, x2, xn1, xc1, xn2, xc2, xp, xs, ys, rfl, hro, hc1, hc2, hown, hg1, hg2, hb1, hs1⟩
  have hws : (((w.alloc (.cells #[.int .i64 0, .int .i64 0, .bool false, .bool false, .bool false, .bool false, .bool false, .int .i64 0, .int .i64 0] 25)).alloc (.cells #[.slice none 0 0, .slice none 0 0, .int .i64 0] 28)).alloc (.cells #[.slice a len cap, .int .i64 0, .int .u64 0] 69)).heap.size = w.heap.size + 3 := by simp
  have hz1 := hb1.size
  simp only [hws] at hz1 hg1 hg2 hown
  have HOn : Hid (OnW w w1) := Lib.hid (But.below (((Below.refl w.heap.size w).alloc (Nat.le_refl _) _).alloc (by simp) _ |>.alloc (by simp; omega) _) hb1 (by omega) (by simp; omega))
  have HRz := Lib.hid ((((ru_new 0 0 0 0 false false false false false w 25).below (al1 _ (.cells #[.slice none 0 0, .slice none 0 0, .int .i64 0] 28))).below (al1 _ (.cells #[.slice a len cap, .int .i64 0, .int .u64 0] 69))).but hb1 (by omega))
  have HRf : Hid (∀ o, w1.frozen? ⟨w.heap.size, o, none⟩ = false) := Lib.hid (fun o => (hb1.frozen (c := w.heap.size) (o := o) (by simp; omega) (by omega)).trans (by go_simp))
  have hzp := zero_new (w.alloc (.cells #[.int .i64 0, .int .i64 0, .bool false, .bool false, .bool false, .bool false, .bool false, .int .i64 0, .int .i64 0] 25)) 28
  rw [show (w.alloc (.cells #[.int .i64 0, .int .i64 0, .bool false, .bool false, .bool false, .bool false, .bool false, .int .i64 0, .int .i64 0] 25)).heap.size = w.heap.size + 1 by simp] at hzp
  have HZ := Lib.hid ((hzp.below (al1 _ (.cells #[.slice a len cap, .int .i64 0, .int .u64 0] 69))).but hb1 (by omega))
  have hk2 := al2 w1 (.cells #[.int .i64 p, .int .i64 s, .bool st, .bool sk, .bool re, .bool fe, .bool ag, .int .i64 c, .int .i64 l] 25) (.cells #[.slice (some ⟨g1, o1, none⟩) xn1 xc1, .slice x2 xn2 xc2, .int .i64 xp] 28)
  have HD : Hid (Ax w (w.heap.size + 1 + 1) a len cap w1.heap.size p s c l st sk re fe ag (w1.heap.size + 1) g1 o1 x2 xn1 xc1 xn2 xc2 xp xs ys (0 + 300) ((w1.alloc (.cells #[.int .i64 p, .int .i64 s, .bool st, .bool sk, .bool re, .bool fe, .bool ag, .int .i64 c, .int .i64 l] 25)).alloc (.cells #[.slice (some ⟨g1, o1, none⟩) xn1 xc1, .slice x2 xn2 xc2, .int .i64 xp] 28))) := by
    have hpn := po_new (some ⟨g1, o1, none⟩) x2 xn1 xc1 xn2 xc2 xp (w1.alloc (.cells #[.int .i64 p, .int .i64 s, .bool st, .bool sk, .bool re, .bool fe, .bool ag, .int .i64 c, .int .i64 l] 25)) 28
    rw [show (w1.alloc (.cells #[.int .i64 p, .int .i64 s, .bool st, .bool sk, .bool re, .bool fe, .bool ag, .int .i64 c, .int .i64 l] 25)).heap.size = w1.heap.size + 1 by simp] at hpn
    exact Lib.hid ⟨HOn.out.below hk2, hs1.below hk2, (ru_new p s c l st sk re fe ag w1 25).below (al1 _ _), hpn, hro.below hk2, by omega, fun hn g o e => by have := hg2 hn g o e; omega, HRz.out.below hk2, fun o => ((hk2.frozen (p := ⟨w.heap.size, o, none⟩) (by show w.heap.size < w1.heap.size; omega)).trans (HRf.out o)), HZ.out.below hk2, rfl, by omega, by omega⟩
  have HW : Hid (xn2 = 2 → ∃ g2, x2 = some ⟨g2, 0, none⟩ ∧ OutN ((w1.alloc (.cells #[.int .i64 p, .int .i64 s, .bool st, .bool sk, .bool re, .bool fe, .bool ag, .int .i64 c, .int .i64 l] 25)).alloc (.cells #[.slice (some ⟨g1, o1, none⟩) xn1 xc1, .slice x2 xn2 xc2, .int .i64 xp] 28)) (w.heap.size + 3) (some ⟨g2, 0, none⟩) g2 ys ∧ g1 ≠ g2 ∧ g2 ≠ w1.heap.size + 1 ∧ g2 ≠ w1.heap.size ∧ ∀ y ∈ ys, -200 ≤ y ∧ y ≤ 200) := Lib.hid (fun h => by
    obtain ⟨g2, e, ho, h1, h2, h3⟩ := hown h
    have hne : ys ≠ [] := by
      intro e2
      have := hro.l2
      rw [e2, List.length_nil] at this
      omega
    have hlt := (ho.free hne).1
    exact ⟨g2, e, (ho.below hk2).lower (by omega), h1, by omega, by omega, h3⟩)
  have HC := Lib.hid (And.intro hc1 hc2)
  clear hb1 hs1 hzp hro hown hg2 hk2 HOn HRz HRf HZ hws
  go_upto_region 3 with fail
  generalize hV : w1.heap.size + 1 = V at *
  generalize hR : w1.heap.size = R at *
  generalize hW : (w1.alloc (.cells #[.int .i64 p, .int .i64 s, .bool st, .bool sk, .bool re, .bool fe, .bool ag, .int .i64 c, .int .i64 l] 25)).alloc (.cells #[.slice (some ⟨g1, o1, none⟩) xn1 xc1, .slice x2 xn2 xc2, .int .i64 xp] 28) = w2 at *
  generalize hS : w.heap.size + 1 + 1 = sb at *
  clear hW hV hR hS
  go_wp2_with fail
  refine (pick_any sb a len cap _ 20 _ HD.out.src (by omega) (by omega) (by omega)).mono ?_
  rintro e w3 ⟨v, hv, rfl, hbut, hsrc⟩
  have HD := Lib.hid (HD.out.pick hbut hsrc)
  have HB3 := Lib.hid hbut
  clear hbut hsrc
  go_wp2_with fail
  refine (pick_any sb a len cap _ 20 _ HD.out.src (by omega) (by omega) (by omega)).mono ?_
  rintro e w4 ⟨v2, hv2, rfl, hbut, hsrc⟩
  have HD := Lib.hid (HD.out.pick hbut hsrc)
  have HB4 := Lib.hid (HB3.out.trans hbut)
  clear hbut hsrc
  go_upto_region 4 with fail
  generalize v / 9 - v2 / 19 = pl at *
  clear hv hv2 HB3
  by_cases h2 : xn2 = 2
  · subst h2
    obtain ⟨g2, rfl, ho2, h12, hgV, hgR, hyb⟩ := HW.out rfl
    have hl2 := HD.out.ro.l2
    have hne2 : ys ≠ [] := by
      intro e
      rw [e, List.length_nil] at hl2
      omega
    have hg2 := HD.out.b2 hne2 g2 0 rfl
    have HO := Lib.hid (ho2.but HB4.out (by omega))
    have HYB := Lib.hid hyb
    have HL2 := Lib.hid hl2
    clear ho2 hyb hl2 hne2 HB4 HW
    obtain ⟨hVl, q0, q1, q2⟩ := HD.out.po
    go_wp2_with fail
    clear hVl q0 q1 q2
    refine (one_any sb a len cap _ 3 _ HD.out.src (by omega) (by omega) (by omega)).mono ?_
    rintro e w5 ⟨bb, rfl, hbut, hsrc⟩
    have HD := Lib.hid (HD.out.pick hbut hsrc)
    have HO := Lib.hid (HO.out.but hbut (by omega))
    clear hbut hsrc
    cases bb
    · go_upto_region 6 with fail
      obtain ⟨hrl, z0, z1, z2, z3, z4, z5, z6, z7, z8⟩ := HD.out.rz
      obtain ⟨hRl, r0, r1, r2, r3, r4, r5, r6, r7, r8⟩ := HD.out.ru
      obtain ⟨hVl, q0, q1, q2⟩ := HD.out.po
      obtain ⟨zl, y0, y1, y2, zf⟩ := HD.out.pz
      have f0 := zf 0
      have f1 := zf 1
      have f2 := zf 2
      have e0 := HD.out.zf 0
      have e1 := HD.out.zf 1
      have e2 := HD.out.zf 2
      have e3 := HD.out.zf 3
      have e4 := HD.out.zf 4
      have e5 := HD.out.zf 5
      have e6 := HD.out.zf 6
      have e7 := HD.out.zf 7
      have e8 := HD.out.zf 8
      clear zf
      have hsb := HD.out.s1
      have hvR := HD.out.vR
      have hvV := HD.out.vV
      have hb1 := HD.out.b1
      have m5 : R ≠ w.heap.size := by omega
      have m6 : R ≠ w.heap.size + 1 := by omega
      have m7 : V ≠ w.heap.size := by omega
      have m8 : V ≠ w.heap.size + 1 := by omega
      go_region
      all_goals go_wp2_with fail
      all_goals refine bodyPost_ret (v := .tuple #[.agg #[.int .i64 p, .int .i64 s, .bool st, .bool sk, .bool re, .bool fe, .bool ag, .int .i64 c, .int .i64 l], .agg #[.slice (some ⟨g1, o1, none⟩) xn1 xc1, .slice (some ⟨g2, 0, none⟩) 2 xc2, .int .i64 xp], .int .i64 pl]) (by simp [results, Try.results18, go_sem, z0, z1, z2, z3, z4, z5, z6, z7, z8, y0, y1, y2]) rfl ?_
      all_goals exact ⟨_, _, _, _, _, _, _, _, _, _, _, _, _, _, _, _, _, _, _, _, rfl, (ax_fin HD.out _ _ _ _ _ _ _ _ _ _ _ _).1, HC.out.1, HC.out.2, by omega, fun hn g o e => by have := HD.out.b2 hn g o e; omega, (ax_fin HD.out _ _ _ _ _ _ _ _ _ _ _ _).2⟩
    · have HT9 : Hid (∀ (K' : Nat) (ys : List Int) (u : World), Ax w sb a len cap R p s c l st sk re fe ag V g1 o1 (some ⟨g2, 0, none⟩) xn1 xc1 2 xc2 xp xs ys K' u → V < u.heap.size ∧ u.cell? ⟨V, 1, none⟩ = some (.slice (some ⟨g2, 0, none⟩) 2 xc2) ∧ OnW w u) := Lib.hid (fun K' ys u h => ⟨h.po.1, h.po.2.2.1, h.on⟩)
      go_upto_region 5 with fail
      obtain ⟨hVl, q0, q1, q2⟩ := HD.out.po
      have HD := Lib.hid HD.out.drew
      have HO := Lib.hid (HO.out.drewN 1)
      obtain ⟨hVl, q0, q1, q2⟩ := HD.out.po
      go_region_law
        (first
        | (go_simp; go_at_call 35; (with_reducible refine (pick_any sb a len cap (0 + 300 + 2 + 2 + 2) 2 _ ?_ (by omega) (by omega) (by omega)).mono ?_); (first | exact HD.out.src | exact HD.out.drew.src); rintro e w6 ⟨jv, hjv, rfl, hbut, hsrc⟩; (first | have HD := Lib.hid (HD.out.pick hbut hsrc) | have HD := Lib.hid (HD.out.drew.pick hbut hsrc)); (first | have HO := Lib.hid (HO.out.but hbut (by omega)) | have HO := Lib.hid ((HO.out.drewN 1).but hbut (by omega))); (obtain ⟨j, rfl⟩ : ∃ j : Nat, jv = (j : Int) := ⟨jv.toNat, by omega⟩); have hj2 : j < 2 := (by omega); have k1 : (j : Int) < 2 := (by omega); have k2 : (0 : Int) ≤ (j : Int) := (by omega); have k3 : ¬ (j : Int) < 0 := (by omega); (obtain ⟨gl, gf, y, hym, gx⟩ := out_at HO.out (j := j) (by rw [HL2.out]; exact hj2)); have hyr := HYB.out y hym; (obtain ⟨hVl, q0, q1, q2⟩ := HD.out.po); clear hsrc hym)
        | (go_simp; go_at_call 35; (with_reducible refine (pick_any sb a len cap (0 + 300 + 2 + 2 + 2 + 2) 30 _ ?_ (by omega) (by omega) (by omega)).mono ?_); (first | exact HD.out.src | exact HD.out.drew.src); rintro e w7 ⟨v3, hv3, rfl, hbut2, hsrc⟩; (first | have HD := Lib.hid (HD.out.pick hbut2 hsrc) | have HD := Lib.hid (HD.out.drew.pick hbut2 hsrc)); (first | have HO := Lib.hid (HO.out.but hbut2 (by omega)) | have HO := Lib.hid ((HO.out.drewN 1).but hbut2 (by omega))); have gx7 := (hbut2.cell (c := g2) (o := j) gl (by omega)).trans gx; have gf7 := (hbut2.frozen (c := g2) (o := j) gl (by omega)).trans gf; have gl7 := Nat.lt_of_lt_of_le gl hbut2.size; have hwr : IntKind.i64.wrap (y + v3) = y + v3 := IntWalk.i64_in _ ⟨by omega, by omega⟩; (obtain ⟨hVl7, q07, q17, q27⟩ := HD.out.po); clear hsrc))
      all_goals have HD := Lib.hid (HD.out.setSt (y + v3) HB.out HO.out hj2 h12 hgV hgR)
      all_goals clear hVl q0 q1 q2 hVl7 q07 q17 q27 gx gx7 gf gf7 gl gl7
      all_goals
        generalize hW : w7.setCell ⟨g2, j, none⟩ (.int .i64 (y + v3)) = w9 at *
        clear hW
        go_upto_region 6 with fail
        obtain ⟨hrl, z0, z1, z2, z3, z4, z5, z6, z7, z8⟩ := HD.out.rz
        obtain ⟨hRl, r0, r1, r2, r3, r4, r5, r6, r7, r8⟩ := HD.out.ru
        obtain ⟨hVl, q0, q1, q2⟩ := HD.out.po
        obtain ⟨zl, y0, y1, y2, zf⟩ := HD.out.pz
        have f0 := zf 0
        have f1 := zf 1
        have f2 := zf 2
        have e0 := HD.out.zf 0
        have e1 := HD.out.zf 1
        have e2 := HD.out.zf 2
        have e3 := HD.out.zf 3
        have e4 := HD.out.zf 4
        have e5 := HD.out.zf 5
        have e6 := HD.out.zf 6
        have e7 := HD.out.zf 7
        have e8 := HD.out.zf 8
        clear zf
        have hsb := HD.out.s1
        have hvR := HD.out.vR
        have hvV := HD.out.vV
        have hb1 := HD.out.b1
        have m5 : R ≠ w.heap.size := by omega
        have m6 : R ≠ w.heap.size + 1 := by omega
        have m7 : V ≠ w.heap.size := by omega
        have m8 : V ≠ w.heap.size + 1 := by omega
        go_region
        all_goals go_wp2_with fail
        all_goals refine bodyPost_ret (v := .tuple #[.agg #[.int .i64 p, .int .i64 s, .bool st, .bool sk, .bool re, .bool fe, .bool ag, .int .i64 c, .int .i64 l], .agg #[.slice (some ⟨g1, o1, none⟩) xn1 xc1, .slice (some ⟨g2, 0, none⟩) 2 xc2, .int .i64 xp], .int .i64 pl]) (by simp [results, Try.results18, go_sem, z0, z1, z2, z3, z4, z5, z6, z7, z8, y0, y1, y2]) rfl ?_
        all_goals exact ⟨_, _, _, _, _, _, _, _, _, _, _, _, _, _, _, _, _, _, _, _, rfl, (ax_fin HD.out _ _ _ _ _ _ _ _ _ _ _ _).1, HC.out.1, HC.out.2, by omega, fun hn g o e => by have := HD.out.b2 hn g o e; omega, (ax_fin HD.out _ _ _ _ _ _ _ _ _ _ _ _).2⟩
  · have d1 : ((xn2 : Int) == 2) = false := by simp; omega
    obtain ⟨hVl, q0, q1, q2⟩ := HD.out.po
    go_upto_region 6 with fail
    clear hVl q0 q1 q2
    obtain ⟨hrl, z0, z1, z2, z3, z4, z5, z6, z7, z8⟩ := HD.out.rz
    obtain ⟨hRl, r0, r1, r2, r3, r4, r5, r6, r7, r8⟩ := HD.out.ru
    obtain ⟨hVl, q0, q1, q2⟩ := HD.out.po
    obtain ⟨zl, y0, y1, y2, zf⟩ := HD.out.pz
    have f0 := zf 0
    have f1 := zf 1
    have f2 := zf 2
    have e0 := HD.out.zf 0
    have e1 := HD.out.zf 1
    have e2 := HD.out.zf 2
    have e3 := HD.out.zf 3
    have e4 := HD.out.zf 4
    have e5 := HD.out.zf 5
    have e6 := HD.out.zf 6
    have e7 := HD.out.zf 7
    have e8 := HD.out.zf 8
    clear zf
    have hsb := HD.out.s1
    have hvR := HD.out.vR
    have hvV := HD.out.vV
    have hb1 := HD.out.b1
    have m5 : R ≠ w.heap.size := by omega
    have m6 : R ≠ w.heap.size + 1 := by omega
    have m7 : V ≠ w.heap.size := by omega
    have m8 : V ≠ w.heap.size + 1 := by omega
    go_region
    all_goals go_wp2_with fail
    all_goals refine bodyPost_ret (v := .tuple #[.agg #[.int .i64 p, .int .i64 s, .bool st, .bool sk, .bool re, .bool fe, .bool ag, .int .i64 c, .int .i64 l], .agg #[.slice (some ⟨g1, o1, none⟩) xn1 xc1, .slice x2 xn2 xc2, .int .i64 xp], .int .i64 pl]) (by simp [results, Try.results18, go_sem, z0, z1, z2, z3, z4, z5, z6, z7, z8, y0, y1, y2]) rfl ?_
    all_goals exact ⟨_, _, _, _, _, _, _, _, _, _, _, _, _, _, _, _, _, _, _, _, rfl, (ax_fin HD.out _ _ _ _ _ _ _ _ _ _ _ _).1, HC.out.1, HC.out.2, by omega, fun hn g o e => by have := HD.out.b2 hn g o e; omega, (ax_fin HD.out _ _ _ _ _ _ _ _ _ _ _ _).2⟩
set_option maxHeartbeats 8000000 in
set_option maxRecDepth 100000 in
theorem drawGive_any (a : Option Addr) (len cap : Nat) (w : World) (hB : Bytes w a len) :
    Calls Try.prog 5 #[.slice a len cap] w (Ask9P w) := by
  have HB := Lib.hid hB
  clear hB
  go_enter Try.func5, Try.ntmps5
  go_wp2_with fail
  refine (ask9_any a len cap _ (HB.out.below (((Below.refl w.heap.size w).alloc (Nat.le_refl _) (.cells #[.int .i64 0, .int .i64 0, .bool false, .bool false, .bool false, .bool false, .bool false, .int .i64 0, .int .i64 0] 25)).alloc (by simp) (.cells #[.slice none 0 0, .slice none 0 0, .int .i64 0] 28)))).mono ?_
  rintro e w1 ⟨p, s, c, l, st, sk, re, fe, ag, g1, o1, x2, xn1, xc1, xn2, xc2, xp, pl, xs, ys, rfl, hro, hc1, hc2, hg1, hg2, hb⟩
  have hws : ((w.alloc (.cells #[.int .i64 0, .int .i64 0, .bool false, .bool false, .bool false, .bool false, .bool false, .int .i64 0, .int .i64 0] 25)).alloc (.cells #[.slice none 0 0, .slice none 0 0, .int .i64 0] 28)).heap.size = w.heap.size + 2 := by simp
  have HRz := Lib.hid (((ru_new 0 0 0 0 false false false false false w 25).below (al1 _ (.cells #[.slice none 0 0, .slice none 0 0, .int .i64 0] 28))).below hb)
  have HRf : Hid (∀ o, w1.frozen? ⟨w.heap.size, o, none⟩ = false) := Lib.hid (fun o => (hb.frozen (p := ⟨w.heap.size, o, none⟩) (by show w.heap.size < _; rw [hws]; omega)).trans (by go_simp))
  have hzp := zero_new (w.alloc (.cells #[.int .i64 0, .int .i64 0, .bool false, .bool false, .bool false, .bool false, .bool false, .int .i64 0, .int .i64 0] 25)) 28
  rw [show (w.alloc (.cells #[.int .i64 0, .int .i64 0, .bool false, .bool false, .bool false, .bool false, .bool false, .int .i64 0, .int .i64 0] 25)).heap.size = w.heap.size + 1 by simp] at hzp
  have HZ := Lib.hid (hzp.below hb)
  have HOn : Hid (OnW w w1) := Lib.hid ((((Below.refl w.heap.size w).alloc (Nat.le_refl _) (.cells #[.int .i64 0, .int .i64 0, .bool false, .bool false, .bool false, .bool false, .bool false, .int .i64 0, .int .i64 0] 25)).alloc (by simp) (.cells #[.slice none 0 0, .slice none 0 0, .int .i64 0] 28)).trans (hb.mono (by rw [hws]; omega)))
  simp only [hws] at hg1 hg2
  have HC := Lib.hid (And.intro hc1 hc2)
  have HRO := Lib.hid hro
  have HG := Lib.hid hg2
  clear hzp hb hws hro hg2
  obtain ⟨hrl, z0, z1, z2, z3, z4, z5, z6, z7, z8⟩ := HRz.out
  obtain ⟨zl, y0, y1, y2, zf⟩ := HZ.out
  have f0 := zf 0
  have f1 := zf 1
  have f2 := zf 2
  have e0 := HRf.out 0
  have e1 := HRf.out 1
  have e2 := HRf.out 2
  have e3 := HRf.out 3
  have e4 := HRf.out 4
  have e5 := HRf.out 5
  have e6 := HRf.out 6
  have e7 := HRf.out 7
  have e8 := HRf.out 8
  clear zf
  go_wp2_with fail
  have k9 := fun v0 v1 v2 v3 v4 v5 v6 v7 v8 => but9 w.heap.size w1 v0 v1 v2 v3 v4 v5 v6 v7 v8
  refine bodyPost_ret (v := .tuple #[.agg #[.int .i64 p, .int .i64 s, .bool st, .bool sk, .bool re, .bool fe, .bool ag, .int .i64 c, .int .i64 l], .agg #[.slice (some ⟨g1, o1, none⟩) xn1 xc1, .slice x2 xn2 xc2, .int .i64 xp], .int .i64 pl]) (by simp [results, Try.results5, go_sem, z0, z1, z2, z3, z4, z5, z6, z7, z8, y0, y1, y2]) rfl ?_
  refine ⟨_, _, _, _, _, _, _, _, _, _, _, _, _, _, _, _, _, _, _, _, rfl, ⟨?_, ?_, HRO.out.l1, HRO.out.l2⟩, HC.out.1, HC.out.2, by omega, fun hn g o e => by have := HG.out hn g o e; omega, (HOn.out.but (but9 w.heap.size _ _ _ _ _ _ _ _ _ _) (Nat.le_refl _)).but (but3 (w.heap.size + 1) _ _ _ _) (by omega)⟩
  · exact row_butb (row_butb HRO.out.r1 (but9 w.heap.size _ _ _ _ _ _ _ _ _ _) (fun _ g o e => by cases e; omega)) (but3 (w.heap.size + 1) _ _ _ _) (fun _ g o e => by cases e; omega)
  · exact row_butb (row_butb HRO.out.r2 (but9 w.heap.size _ _ _ _ _ _ _ _ _ _) (fun hn g o e => by have := HG.out hn g o e; omega)) (but3 (w.heap.size + 1) _ _ _ _) (fun hn g o e => by have := HG.out hn g o e; omega)
end Go.Proofs.Ytgogjjkecbgbiaa
