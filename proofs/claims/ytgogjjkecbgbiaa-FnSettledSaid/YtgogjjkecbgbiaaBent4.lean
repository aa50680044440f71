/- Rules and a position that the laws draw, right or wrong. No conditions. -/
import Derived.Test.YtgogjjkecbgbiaaA2Pos
import Derived.Test.YtgogjjkecbgbiaaBent2
import Derived.ArgAppend
import Derived.Deep.RegionHeld3
namespace Go.Proofs.Ytgogjjkecbgbiaa
open Go.Joins Go.ChangeShapes Go.WideShapes Go.ChangeAt Go.RowKit Go.Deep
set_option linter.unusedVariables false

theorem OutN.set {u : World} {B g i : Nat} {xs : List Int} (h : OutN u B (some ⟨g, 0, none⟩) g xs) (hi : i < xs.length) (v : Int) : OutN (u.setCell ⟨g, i, none⟩ (.int .i64 v)) B (some ⟨g, 0, none⟩) g (xs.set i v) := by
  have hne : xs ≠ [] := by intro e; rw [e] at hi; simp at hi
  obtain ⟨hlt, hf⟩ := h.free hne
  obtain ⟨hl, h1 | ⟨g', o, ha, hg, hx⟩⟩ := h.row
  · exact absurd h1 hne
  · cases ha
    have fi := hf i
    have ei : xs[i]? = some xs[i] := List.getElem?_eq_getElem hi
    have ci := hx i _ ei
    rw [Nat.zero_add] at ci
    refine ⟨⟨by simpa using hl, .inr ⟨g, 0, rfl, by simpa using hg, fun j z hz => ?_⟩⟩, fun _ _ e => by cases e; rfl, h.new, fun _ => ⟨by simpa using hlt, fun o => ?_⟩⟩
    · rw [Nat.zero_add]
      by_cases e : j = i
      · subst e
        rw [List.getElem?_set_self hi] at hz
        cases hz
        go_simp
      · rw [List.getElem?_set_ne (by omega)] at hz
        have cj := hx j z hz
        rw [Nat.zero_add] at cj
        go_simp
    · have := hf o
      go_simp
theorem row_tail {u : World} {g o : Nat} {x : Int} {xs : List Int} (h : RowN u (some ⟨g, o, none⟩) (x :: xs)) : RowN u (some ⟨g, o + 1, none⟩) xs := by
  obtain ⟨hl, h1 | ⟨g', o', ha, hg, hx⟩⟩ := h
  · cases h1
  · cases ha
    exact ⟨by simp at hl; omega, .inr ⟨g, o + 1, rfl, hg, fun i z hz => by
      have := hx (i + 1) z (by simpa using hz)
      rwa [show o + (i + 1) = o + 1 + i by omega] at this⟩⟩
def hi2 (a b : Int) : Int := if b < a then a else b
theorem max0_any (a b : Int) (w : World) : Calls Try.prog 27 #[.int .i64 a, .int .i64 b] w fun e w' => e = .returned (.int .i64 (hi2 a b)) ∧ w = w' := by
  by_cases h : b < a
  · rw [show hi2 a b = a from if_pos h]
    go_enter Try.func27, Try.ntmps27
    go_wp2
    go_ret
    exact ⟨rfl, rfl⟩
  · rw [show hi2 a b = b from if_neg h]
    go_enter Try.func27, Try.ntmps27
    go_wp2
    go_ret
    exact ⟨rfl, rfl⟩
/-- Rules and a position that are being bent. -/
structure Bq (w : World) (sb : Nat) (a : Option Addr) (len cap R : Nat) (p s c l : Int) (st sk re fe ag : Bool) (V g1 g2 n c1 : Nat) (pl : Int) (xs ys : List Int) (K : Nat) (u : World) : Prop where
  on : But sb w u
  src : Src u sb a len cap K
  ru : RuAt u R p s c l st sk re fe ag
  rf : ∀ o, u.frozen? ⟨R, o, none⟩ = false
  po : PoAt u V (some ⟨g1, 0, none⟩) (some ⟨g2, 0, none⟩) n c1 2 2 pl
  pf : ∀ o, u.frozen? ⟨V, o, none⟩ = false
  o1 : OutN u (w.heap.size + 2) (some ⟨g1, 0, none⟩) g1 xs
  o2 : OutN u (w.heap.size + 2) (some ⟨g2, 0, none⟩) g2 ys
  rz : RuAt u w.heap.size 0 0 0 0 false false false false false
  zf : ∀ o, u.frozen? ⟨w.heap.size, o, none⟩ = false
  pz : ZeroP u (w.heap.size + 1)
  r0 : RowAt w sb a len
  s1 : sb < w.heap.size
  vR : w.heap.size + 1 < R
  vV : w.heap.size + 1 < V
  n1 : R ≠ V
  n2 : R ≠ g1
  n3 : R ≠ g2
  n4 : V ≠ g1
  n5 : V ≠ g2
  n6 : g1 ≠ g2
  l1 : xs.length = n
  l2 : ys.length = 2
section
variable {w u u' : World} {sb : Nat} {a : Option Addr} {len cap R : Nat} {p s c l : Int} {st sk re fe ag : Bool} {V g1 g2 n c1 : Nat} {pl : Int} {xs ys : List Int} {K : Nat}
theorem Bq.pick {K' : Nat} (h : Bq w sb a len cap R p s c l st sk re fe ag V g1 g2 n c1 pl xs ys K u) (kb : But sb u u') (hs : Src u' sb a len cap K') : Bq w sb a len cap R p s c l st sk re fe ag V g1 g2 n c1 pl xs ys K' u' := by
  have h1 := h.s1
  have h2 := h.vR
  have h3 := h.vV
  have h4 := h.o1.new
  have h5 := h.o2.new
  exact ⟨h.on.trans kb, hs, h.ru.but kb (by omega), fun o => (kb.frozen h.ru.1 (by omega)).trans (h.rf o), h.po.but kb (by omega), fun o => (kb.frozen h.po.1 (by omega)).trans (h.pf o), h.o1.but kb (by omega), h.o2.but kb (by omega), h.rz.but kb (by omega), fun o => (kb.frozen h.rz.1 (by omega)).trans (h.zf o), h.pz.but kb (by omega), h.r0, h.s1, h.vR, h.vV, h.n1, h.n2, h.n3, h.n4, h.n5, h.n6, h.l1, h.l2⟩
theorem Bq.new (h : Bq w sb a len cap R p s c l st sk re fe ag V g1 g2 n c1 pl xs ys K u) (kb : Below u.heap.size u u') : Bq w sb a len cap R p s c l st sk re fe ag V g1 g2 n c1 pl xs ys K u' := h.pick (.of_below kb) (h.src.below kb)
theorem Bq.drew (h : Bq w sb a len cap R p s c l st sk re fe ag V g1 g2 n c1 pl xs ys K u) : Bq w sb a len cap R p s c l st sk re fe ag V g1 g2 n c1 pl xs ys K u.drew := h.new (Below.refl _ _).drew
theorem Bq.setPit {i : Nat} (v : Int) (h : Bq w sb a len cap R p s c l st sk re fe ag V g1 g2 n c1 pl xs ys K u) (hi : i < n) : Bq w sb a len cap R p s c l st sk re fe ag V g1 g2 n c1 pl (xs.set i v) ys K (u.setCell ⟨g1, i, none⟩ (.int .i64 v)) := by
  have h1 := h.s1
  have h2 := h.o1.new
  have h3 := h.n2
  have h4 := h.n4
  have h5 := h.n6
  have kb : But g1 u (u.setCell ⟨g1, i, none⟩ (.int .i64 v)) := (But.refl g1 u).setCell (p := ⟨g1, i, none⟩) rfl _
  have ho : But sb w (u.setCell ⟨g1, i, none⟩ (.int .i64 v)) := h.on.setNew (by omega) _
  exact ⟨ho, Src.at h.r0 ho h.src ((SameAt.refl sb u).setCell (by omega) _), h.ru.but kb (by omega), fun o => (kb.frozen h.ru.1 (by omega)).trans (h.rf o), h.po.but kb (by omega), fun o => (kb.frozen h.po.1 (by omega)).trans (h.pf o), h.o1.set (by rw [h.l1]; exact hi) v, h.o2.but kb (by omega), h.rz.but kb (by omega), fun o => (kb.frozen h.rz.1 (by omega)).trans (h.zf o), h.pz.but kb (by omega), h.r0, h.s1, h.vR, h.vV, h.n1, h.n2, h.n3, h.n4, h.n5, h.n6, by rw [List.length_set]; exact h.l1, h.l2⟩
theorem Bq.setSt (v : Int) (h : Bq w sb a len cap R p s c l st sk re fe ag V g1 g2 n c1 pl xs ys K u) : Bq w sb a len cap R p s c l st sk re fe ag V g1 g2 n c1 pl xs (ys.set 0 v) K (u.setCell ⟨g2, 0, none⟩ (.int .i64 v)) := by
  have h1 := h.s1
  have h2 := h.o2.new
  have h3 := h.n3
  have h4 := h.n5
  have h5 := h.n6
  have kb : But g2 u (u.setCell ⟨g2, 0, none⟩ (.int .i64 v)) := (But.refl g2 u).setCell (p := ⟨g2, 0, none⟩) rfl _
  have ho : But sb w (u.setCell ⟨g2, 0, none⟩ (.int .i64 v)) := h.on.setNew (by omega) _
  exact ⟨ho, Src.at h.r0 ho h.src ((SameAt.refl sb u).setCell (by omega) _), h.ru.but kb (by omega), fun o => (kb.frozen h.ru.1 (by omega)).trans (h.rf o), h.po.but kb (by omega), fun o => (kb.frozen h.po.1 (by omega)).trans (h.pf o), h.o1.but kb (by omega), h.o2.set (by rw [h.l2]; omega) v, h.rz.but kb (by omega), fun o => (kb.frozen h.rz.1 (by omega)).trans (h.zf o), h.pz.but kb (by omega), h.r0, h.s1, h.vR, h.vV, h.n1, h.n2, h.n3, h.n4, h.n5, h.n6, h.l1, by rw [List.length_set]; exact h.l2⟩
end
/-- What lies there when the switch is over. -/
structure Tl (w : World) (sb : Nat) (a : Option Addr) (len cap R : Nat) (p s c l : Int) (st sk re fe ag : Bool) (V g1 o1 : Nat) (x2 : Option Addr) (xn1 xc1 xn2 xc2 : Nat) (xp : Int) (xs ys : List Int) (K : Nat) (u : World) : Prop where
  on : But sb w u
  src : Src u sb a len cap K
  ru : RuAt u R p s c l st sk re fe ag
  po : PoAt u V (some ⟨g1, o1, none⟩) x2 xn1 xc1 xn2 xc2 xp
  ro : PosR u (some ⟨g1, o1, none⟩) x2 xn1 xn2 xs ys
  b1 : w.heap.size + 2 ≤ g1
  b2 : ys ≠ [] → ∀ g o, x2 = some ⟨g, o, none⟩ → w.heap.size + 2 ≤ g
  rz : RuAt u w.heap.size 0 0 0 0 false false false false false
  zf : ∀ o, u.frozen? ⟨w.heap.size, o, none⟩ = false
  pz : ZeroP u (w.heap.size + 1)
  r0 : RowAt w sb a len
  s1 : sb < w.heap.size
  vR : w.heap.size + 1 < R
  vV : w.heap.size + 1 < V
theorem Bq.tl {w u : World} {sb : Nat} {a : Option Addr} {len cap R : Nat} {p s c l : Int} {st sk re fe ag : Bool} {V g1 g2 n c1 : Nat} {pl : Int} {xs ys : List Int} {K : Nat} (h : Bq w sb a len cap R p s c l st sk re fe ag V g1 g2 n c1 pl xs ys K u) : Tl w sb a len cap R p s c l st sk re fe ag V g1 0 (some ⟨g2, 0, none⟩) n c1 2 2 pl xs ys K u :=
  ⟨h.on, h.src, h.ru, h.po, ⟨h.o1.row, h.o2.row, h.l1, h.l2⟩, h.o1.new, fun _ g o e => by cases e; exact h.o2.new, h.rz, h.zf, h.pz, h.r0, h.s1, h.vR, h.vV⟩
theorem row_butb {w w' : World} {a : Option Addr} {L : List Int} {b : Nat} (h : RowN w a L) (k : But b w w') (hb : L ≠ [] → ∀ g o, a = some ⟨g, o, none⟩ → g ≠ b) : RowN w' a L := by
  by_cases hne : L = []
  · subst hne; exact rowN_nil _ _
  · exact h.but k (hb hne)
theorem Tl.fin {w u : World} {sb : Nat} {a : Option Addr} {len cap R : Nat} {p s c l : Int} {st sk re fe ag : Bool} {V g1 o1 : Nat} {x2 : Option Addr} {xn1 xc1 xn2 xc2 : Nat} {xp : Int} {xs ys : List Int} {K : Nat} (h : Tl w sb a len cap R p s c l st sk re fe ag V g1 o1 x2 xn1 xc1 xn2 xc2 xp xs ys K u) (v0 v1 v2 v3 v4 v5 v6 v7 v8 t0 t1 t2 : Value) :
    PosR (((((((((((((u.setCell ⟨w.heap.size, 0, none⟩ v0).setCell ⟨w.heap.size, 1, none⟩ v1).setCell ⟨w.heap.size, 2, none⟩ v2).setCell ⟨w.heap.size, 3, none⟩ v3).setCell ⟨w.heap.size, 4, none⟩ v4).setCell ⟨w.heap.size, 5, none⟩ v5).setCell ⟨w.heap.size, 6, none⟩ v6).setCell ⟨w.heap.size, 7, none⟩ v7).setCell ⟨w.heap.size, 8, none⟩ v8).setCell ⟨w.heap.size + 1, 0, none⟩ t0).setCell ⟨w.heap.size + 1, 1, none⟩ t1).setCell ⟨w.heap.size + 1, 2, none⟩ t2).drew) (some ⟨g1, o1, none⟩) x2 xn1 xn2 xs ys ∧
    But sb w (((((((((((((u.setCell ⟨w.heap.size, 0, none⟩ v0).setCell ⟨w.heap.size, 1, none⟩ v1).setCell ⟨w.heap.size, 2, none⟩ v2).setCell ⟨w.heap.size, 3, none⟩ v3).setCell ⟨w.heap.size, 4, none⟩ v4).setCell ⟨w.heap.size, 5, none⟩ v5).setCell ⟨w.heap.size, 6, none⟩ v6).setCell ⟨w.heap.size, 7, none⟩ v7).setCell ⟨w.heap.size, 8, none⟩ v8).setCell ⟨w.heap.size + 1, 0, none⟩ t0).setCell ⟨w.heap.size + 1, 1, none⟩ t1).setCell ⟨w.heap.size + 1, 2, none⟩ t2).drew) ∧
    Src (((((((((((((u.setCell ⟨w.heap.size, 0, none⟩ v0).setCell ⟨w.heap.size, 1, none⟩ v1).setCell ⟨w.heap.size, 2, none⟩ v2).setCell ⟨w.heap.size, 3, none⟩ v3).setCell ⟨w.heap.size, 4, none⟩ v4).setCell ⟨w.heap.size, 5, none⟩ v5).setCell ⟨w.heap.size, 6, none⟩ v6).setCell ⟨w.heap.size, 7, none⟩ v7).setCell ⟨w.heap.size, 8, none⟩ v8).setCell ⟨w.heap.size + 1, 0, none⟩ t0).setCell ⟨w.heap.size + 1, 1, none⟩ t1).setCell ⟨w.heap.size + 1, 2, none⟩ t2).drew) sb a len cap K := by
  have h1 := h.s1
  have h2 := h.b1
  have k9 := but9 w.heap.size u v0 v1 v2 v3 v4 v5 v6 v7 v8
  have ho := (((((((((((h.on.setNew (o := 0) (Nat.le_refl _) v0).setNew (o := 1) (Nat.le_refl _) v1).setNew (o := 2) (Nat.le_refl _) v2).setNew (o := 3) (Nat.le_refl _) v3).setNew (o := 4) (Nat.le_refl _) v4).setNew (o := 5) (Nat.le_refl _) v5).setNew (o := 6) (Nat.le_refl _) v6).setNew (o := 7) (Nat.le_refl _) v7).setNew (o := 8) (Nat.le_refl _) v8).setNew (n := w.heap.size + 1) (o := 0) (by omega) t0).setNew (n := w.heap.size + 1) (o := 1) (by omega) t1).setNew (n := w.heap.size + 1) (o := 2) (by omega) t2
  have hne : w.heap.size ≠ sb := by omega
  have hne1 : w.heap.size + 1 ≠ sb := by omega
  refine ⟨⟨?_, ?_, h.ro.l1, h.ro.l2⟩, ho.drew, (Src.at h.r0 ho h.src (((((((((((((SameAt.refl sb u).setCell hne _).setCell hne _).setCell hne _).setCell hne _).setCell hne _).setCell hne _).setCell hne _).setCell hne _).setCell hne _).setCell hne1 _).setCell hne1 _).setCell hne1 _)).below (Below.refl _ _).drew⟩
  · exact (row_butb (row_butb h.ro.r1 k9 (fun _ g o e => by cases e; omega)) (but3 (w.heap.size + 1) _ t0 t1 t2) (fun _ g o e => by cases e; omega)).drewN 1
  · exact (row_butb (row_butb h.ro.r2 k9 (fun hn g o e => by have := h.b2 hn g o e; omega)) (but3 (w.heap.size + 1) _ t0 t1 t2) (fun hn g o e => by have := h.b2 hn g o e; omega)).drewN 1
theorem Bq.setPl {w u : World} {sb : Nat} {a : Option Addr} {len cap R : Nat} {p s c l : Int} {st sk re fe ag : Bool} {V g1 g2 n c1 : Nat} {pl : Int} {xs ys : List Int} {K : Nat} (v : Int) (h : Bq w sb a len cap R p s c l st sk re fe ag V g1 g2 n c1 pl xs ys K u) : Bq w sb a len cap R p s c l st sk re fe ag V g1 g2 n c1 v xs ys K (u.setCell ⟨V, 2, none⟩ (.int .i64 v)) := by
  have h1 := h.s1
  have h2 := h.vV
  have h3 := h.n1
  have h4 := h.n4
  have h5 := h.n5
  have kb : But V u (u.setCell ⟨V, 2, none⟩ (.int .i64 v)) := (But.refl V u).setCell (p := ⟨V, 2, none⟩) rfl _
  have ho : But sb w (u.setCell ⟨V, 2, none⟩ (.int .i64 v)) := h.on.setNew (by omega) _
  obtain ⟨hd, k0, k1, k2⟩ := h.po
  have f2 := h.pf 2
  refine ⟨ho, Src.at h.r0 ho h.src ((SameAt.refl sb u).setCell (by omega) _), h.ru.but kb (by omega), fun o => (kb.frozen h.ru.1 (by omega)).trans (h.rf o), ⟨by simpa using hd, by go_simp, by go_simp, by go_simp⟩, fun o => ?_, h.o1.but kb (by omega), h.o2.but kb (by omega), h.rz.but kb (by omega), fun o => (kb.frozen h.rz.1 (by omega)).trans (h.zf o), h.pz.but kb (by omega), h.r0, h.s1, h.vR, h.vV, h.n1, h.n2, h.n3, h.n4, h.n5, h.n6, h.l1, h.l2⟩
  have := h.pf o
  go_simp
theorem Bq.cut {w u : World} {sb : Nat} {a : Option Addr} {len cap R : Nat} {p s c l : Int} {st sk re fe ag : Bool} {V g1 g2 n c1 : Nat} {pl : Int} {xs ys : List Int} {K : Nat} (h : Bq w sb a len cap R p s c l st sk re fe ag V g1 g2 n c1 pl xs ys K u) (hn : 1 ≤ n) :
    Tl w sb a len cap R p s c l st sk re fe ag V g1 1 (some ⟨g2, 0, none⟩) (n - 1) (c1 - 1) 2 2 pl xs.tail ys K (u.setCell ⟨V, 0, none⟩ (.slice (some ⟨g1, 1, none⟩) (n - 1) (c1 - 1))) ∧ OutN (u.setCell ⟨V, 0, none⟩ (.slice (some ⟨g1, 1, none⟩) (n - 1) (c1 - 1))) (w.heap.size + 2) (some ⟨g2, 0, none⟩) g2 ys := by
  have h1 := h.s1
  have h2 := h.vV
  have h3 := h.n1
  have h4 := h.n4
  have h5 := h.n5
  have kb : But V u (u.setCell ⟨V, 0, none⟩ (.slice (some ⟨g1, 1, none⟩) (n - 1) (c1 - 1))) := (But.refl V u).setCell (p := ⟨V, 0, none⟩) rfl _
  have ho : But sb w (u.setCell ⟨V, 0, none⟩ (.slice (some ⟨g1, 1, none⟩) (n - 1) (c1 - 1))) := h.on.setNew (by omega) _
  obtain ⟨hd, k0, k1, k2⟩ := h.po
  have f2 := h.pf 0
  have hr := (h.o1.but kb (by omega)).row
  have hl := h.l1
  refine ⟨⟨ho, Src.at h.r0 ho h.src ((SameAt.refl sb u).setCell (by omega) _), h.ru.but kb (by omega), ⟨by simpa using hd, by go_simp, by go_simp, by go_simp⟩, ⟨?_, (h.o2.but kb (by omega)).row, by rw [List.length_tail]; omega, h.l2⟩, h.o1.new, fun _ g o e => by cases e; exact h.o2.new, h.rz.but kb (by omega), fun o => (kb.frozen h.rz.1 (by omega)).trans (h.zf o), h.pz.but kb (by omega), h.r0, h.s1, h.vR, h.vV⟩, h.o2.but kb (by omega)⟩
  cases xs with
  | nil => simp at hl; omega
  | cons x xs => exact row_tail hr
theorem Bq.app {w u : World} {sb : Nat} {a : Option Addr} {len cap R : Nat} {p s c l : Int} {st sk re fe ag : Bool} {V g1 g2 n c1 : Nat} {pl : Int} {xs ys : List Int} {K : Nat} {g k cc : Nat} {zs : List Int} (h : Bq w sb a len cap R p s c l st sk re fe ag V g1 g2 n c1 pl xs ys K u) (hz : OutN u (w.heap.size + 2) (some ⟨g, 0, none⟩) g zs) (hk : zs.length = k) (hg : g ≠ V) :
    Tl w sb a len cap R p s c l st sk re fe ag V g1 0 (some ⟨g, 0, none⟩) n c1 k cc pl xs zs K (u.setCell ⟨V, 1, none⟩ (.slice (some ⟨g, 0, none⟩) k cc)) := by
  have h1 := h.s1
  have h2 := h.vV
  have h3 := h.n1
  have h4 := h.n4
  have h5 := h.n5
  have kb : But V u (u.setCell ⟨V, 1, none⟩ (.slice (some ⟨g, 0, none⟩) k cc)) := (But.refl V u).setCell (p := ⟨V, 1, none⟩) rfl _
  have ho : But sb w (u.setCell ⟨V, 1, none⟩ (.slice (some ⟨g, 0, none⟩) k cc)) := h.on.setNew (by omega) _
  obtain ⟨hd, k0, k1, k2⟩ := h.po
  have f2 := h.pf 1
  exact ⟨ho, Src.at h.r0 ho h.src ((SameAt.refl sb u).setCell (by omega) _), h.ru.but kb (by omega), ⟨by simpa using hd, by go_simp, by go_simp, by go_simp⟩, ⟨(h.o1.but kb (by omega)).row, (hz.but kb (by omega)).row, h.l1, hk⟩, h.o1.new, fun _ g' o e => by cases e; exact hz.new, h.rz.but kb (by omega), fun o => (kb.frozen h.rz.1 (by omega)).trans (h.zf o), h.pz.but kb (by omega), h.r0, h.s1, h.vR, h.vV⟩
theorem Bq.setRu {w u : World} {sb : Nat} {a : Option Addr} {len cap R : Nat} {p s c l : Int} {st sk re fe ag : Bool} {V g1 g2 n c1 : Nat} {pl : Int} {xs ys : List Int} {K : Nat} (p' s' c' l' : Int) (st' sk' re' fe' ag' : Bool) (h : Bq w sb a len cap R p s c l st sk re fe ag V g1 g2 n c1 pl xs ys K u) :
    Bq w sb a len cap R p' s' c' l' st' sk' re' fe' ag' V g1 g2 n c1 pl xs ys K (((((((((u.setCell ⟨R, 0, none⟩ (.int .i64 p')).setCell ⟨R, 1, none⟩ (.int .i64 s')).setCell ⟨R, 2, none⟩ (.bool st')).setCell ⟨R, 3, none⟩ (.bool sk')).setCell ⟨R, 4, none⟩ (.bool re')).setCell ⟨R, 5, none⟩ (.bool fe')).setCell ⟨R, 6, none⟩ (.bool ag')).setCell ⟨R, 7, none⟩ (.int .i64 c')).setCell ⟨R, 8, none⟩ (.int .i64 l')) := by
  have h1 := h.s1
  have h2 := h.vR
  have h3 := h.n1
  have h4 := h.n2
  have h5 := h.n3
  have kb := but9 R u (.int .i64 p') (.int .i64 s') (.bool st') (.bool sk') (.bool re') (.bool fe') (.bool ag') (.int .i64 c') (.int .i64 l')
  have ho := ((((((((h.on.setNew (n := R) (o := 0) (by omega) (.int .i64 p')).setNew (n := R) (o := 1) (by omega) (.int .i64 s')).setNew (n := R) (o := 2) (by omega) (.bool st')).setNew (n := R) (o := 3) (by omega) (.bool sk')).setNew (n := R) (o := 4) (by omega) (.bool re')).setNew (n := R) (o := 5) (by omega) (.bool fe')).setNew (n := R) (o := 6) (by omega) (.bool ag')).setNew (n := R) (o := 7) (by omega) (.int .i64 c')).setNew (n := R) (o := 8) (by omega) (.int .i64 l')
  obtain ⟨hd, k0, k1, k2, k3, k4, k5, k6, k7, k8⟩ := h.ru
  have hne : R ≠ sb := by omega
  have e0 := h.rf 0
  have e1 := h.rf 1
  have e2 := h.rf 2
  have e3 := h.rf 3
  have e4 := h.rf 4
  have e5 := h.rf 5
  have e6 := h.rf 6
  have e7 := h.rf 7
  have e8 := h.rf 8
  refine ⟨ho, Src.at h.r0 ho h.src ((((((((((SameAt.refl sb u).setCell hne _).setCell hne _).setCell hne _).setCell hne _).setCell hne _).setCell hne _).setCell hne _).setCell hne _).setCell hne _), ⟨by simpa using hd, by go_simp, by go_simp, by go_simp, by go_simp, by go_simp, by go_simp, by go_simp, by go_simp, by go_simp⟩, fun o => ?_, h.po.but kb (by omega), fun o => (kb.frozen h.po.1 (by omega)).trans (h.pf o), h.o1.but kb (by omega), h.o2.but kb (by omega), h.rz.but kb (by omega), fun o => (kb.frozen h.rz.1 (by omega)).trans (h.zf o), h.pz.but kb (by omega), h.r0, h.s1, h.vR, h.vV, h.n1, h.n2, h.n3, h.n4, h.n5, h.n6, h.l1, h.l2⟩
  have := h.rf o
  go_simp
theorem Bq.pitAt {w u : World} {sb : Nat} {a : Option Addr} {len cap R : Nat} {p s c l : Int} {st sk re fe ag : Bool} {V g1 g2 n c1 : Nat} {pl : Int} {xs ys : List Int} {K i : Nat} (h : Bq w sb a len cap R p s c l st sk re fe ag V g1 g2 n c1 pl xs ys K u) (hi : i < n) : g1 < u.heap.size ∧ (∀ o, u.frozen? ⟨g1, o, none⟩ = false) ∧ ∃ y, u.cell? ⟨g1, i, none⟩ = some (.int .i64 y) := by
  have hl := h.l1
  have hne : xs ≠ [] := by
    intro e
    rw [e, List.length_nil] at hl
    omega
  obtain ⟨gl, gf⟩ := h.o1.free hne
  refine ⟨gl, gf, ?_⟩
  obtain ⟨_, h1 | ⟨g', o, ha, _, hx⟩⟩ := h.o1.row
  · exact absurd h1 hne
  · cases ha
    have := hx i _ (List.getElem?_eq_getElem (by omega))
    rw [Nat.zero_add] at this
    exact ⟨_, this⟩
theorem Bq.stAt {w u : World} {sb : Nat} {a : Option Addr} {len cap R : Nat} {p s c l : Int} {st sk re fe ag : Bool} {V g1 g2 n c1 : Nat} {pl : Int} {xs : List Int} {y0 y1 : Int} {K : Nat} (h : Bq w sb a len cap R p s c l st sk re fe ag V g1 g2 n c1 pl xs [y0, y1] K u) : g2 < u.heap.size ∧ (∀ o, u.frozen? ⟨g2, o, none⟩ = false) ∧ u.cell? ⟨g2, 0, none⟩ = some (.int .i64 y0) := by
  obtain ⟨gl, gf⟩ := h.o2.free (by simp)
  refine ⟨gl, gf, ?_⟩
  obtain ⟨_, h1 | ⟨g', o, ha, _, hx⟩⟩ := h.o2.row
  · cases h1
  · cases ha
    have := hx 0 y0 rfl
    rwa [Nat.zero_add] at this
/-- Rules and a position, whatever they are. -/
def Bent4P (sb : Nat) (a : Option Addr) (len cap K : Nat) (w : World) (e : Ending) (w' : World) : Prop :=
  ∃ (p s c l : Int) (st sk re fe ag : Bool) (g1 o1 : Nat) (x2 : Option Addr) (xn1 xc1 xn2 xc2 : Nat) (xp : Int) (xs ys : List Int), e = .returned (.tuple #[.agg #[.int .i64 p, .int .i64 s, .bool st, .bool sk, .bool re, .bool fe, .bool ag, .int .i64 c, .int .i64 l], .agg #[.slice (some ⟨g1, o1, none⟩) xn1 xc1, .slice x2 xn2 xc2, .int .i64 xp]]) ∧
    PosR w' (some ⟨g1, o1, none⟩) x2 xn1 xn2 xs ys ∧ xn1 ≤ xc1 ∧ xn2 ≤ xc2 ∧ (xn2 = 2 → ∃ g2, x2 = some ⟨g2, 0, none⟩ ∧ OutN w' (w.heap.size + 2) (some ⟨g2, 0, none⟩) g2 ys ∧ g1 ≠ g2 ∧ w.heap.size + 2 ≤ g1 ∧ ∀ y ∈ ys, -200 ≤ y ∧ y ≤ 200) ∧ w.heap.size + 2 ≤ g1 ∧ (ys ≠ [] → ∀ g o, x2 = some ⟨g, o, none⟩ → w.heap.size + 2 ≤ g) ∧ But sb w w' ∧ Src w' sb a len cap (K + 300)
set_option maxHeartbeats 16000000 in
set_option maxRecDepth 100000 in
theorem bent4_any (sb : Nat) (a : Option Addr) (len cap K : Nat) (w : World) (hs : Src w sb a len cap K) (hK : K < 700000) :
    Calls Try.prog 34 #[.pointer (some ⟨sb, 0, none⟩)] w (Bent4P sb a len cap K w) := by
  obtain ⟨i0, hi, hz0, hz1, hz2⟩ := info_parts infoN
  have hsl := hs.lt
  have HSrc := Lib.hid hs
  clear hs
  go_enter Try.func34, Try.ntmps34
  go_wp2_with fail
  refine (draw_any sb a len cap K _ ((HSrc.out.below (al1 _ (.cells #[.int .i64 0, .int .i64 0, .bool false, .bool false, .bool false, .bool false, .bool false, .int .i64 0, .int .i64 0] 25))).below (al1 _ (.cells #[.slice none 0 0, .slice none 0 0, .int .i64 0] 28))) (by omega)).mono ?_
  rintro e w1 ⟨p, s, c, l, st, sk, re, fe, ag, hok, rfl, hb1, hs1⟩
  obtain ⟨hp1, hp2, hs0, hs6, -⟩ := okR_bd hok
  obtain ⟨P, rfl⟩ : ∃ P : Nat, p = (P : Int) := ⟨p.toNat, by omega⟩
  have hz1s := hb1.size
  simp at hz1s
  have HB1 := Lib.hid (((But.of_below (b := sb) (al1 w (.cells #[.int .i64 0, .int .i64 0, .bool false, .bool false, .bool false, .bool false, .bool false, .int .i64 0, .int .i64 0] 25))).trans (.of_below (al1 (w.alloc (.cells #[.int .i64 0, .int .i64 0, .bool false, .bool false, .bool false, .bool false, .bool false, .int .i64 0, .int .i64 0] 25)) (.cells #[.slice none 0 0, .slice none 0 0, .int .i64 0] 28)))).trans hb1)
  have HRz := Lib.hid (((ru_new 0 0 0 0 false false false false false w 25).below (al1 _ (.cells #[.slice none 0 0, .slice none 0 0, .int .i64 0] 28))).but hb1 (by omega))
  have HRf : Hid (∀ o, w1.frozen? ⟨w.heap.size, o, none⟩ = false) := Lib.hid (fun o => (hb1.frozen (c := w.heap.size) (o := o) (by simp; omega) (by omega)).trans (by go_simp))
  have hzp := zero_new (w.alloc (.cells #[.int .i64 0, .int .i64 0, .bool false, .bool false, .bool false, .bool false, .bool false, .int .i64 0, .int .i64 0] 25)) 28
  rw [show (w.alloc (.cells #[.int .i64 0, .int .i64 0, .bool false, .bool false, .bool false, .bool false, .bool false, .int .i64 0, .int .i64 0] 25)).heap.size = w.heap.size + 1 by simp] at hzp
  have HZ := Lib.hid (hzp.but hb1 (by omega))
  have HSrc1 := Lib.hid hs1
  clear hb1 hs1 hzp hok
  go_wp2_with fail
  have HRu := Lib.hid (ru_new (P : Int) s c l st sk re fe ag w1 25)
  refine (l04Draw2_any P s c l st sk re fe ag sb a len cap (K + 30) w1.heap.size _ (HSrc1.out.below (al1 _ _)) HRu.out (by omega) (by omega) (by omega) (by omega) (by omega) (by omega)).mono ?_
  rintro e u ⟨g1, c1, g2, pl, xs, y0, y1, rfl, ho, lt1, lt2, hpl, hxs, h0, h1, hc1, hbut, hsrc⟩
  have HD : Hid (Bq w sb a len cap w1.heap.size (P : Int) s c l st sk re fe ag u.heap.size g1 g2 (2 * P) c1 pl xs [y0, y1] (K + 230) (u.alloc (.cells #[.slice (some ⟨g1, 0, none⟩) (2 * P) c1, .slice (some ⟨g2, 0, none⟩) 2 2, .int .i64 pl] 28))) := by
    have n1 := ho.o1.new
    have n2 := ho.o2.new
    simp at n1 n2
    have hus := hbut.size
    simp at hus
    have hk := al1 u (.cells #[.slice (some ⟨g1, 0, none⟩) (2 * P) c1, .slice (some ⟨g2, 0, none⟩) 2 2, .int .i64 pl] 28)
    have kb : But sb w1 u := (But.of_below (al1 w1 (.cells #[.int .i64 P, .int .i64 s, .bool st, .bool sk, .bool re, .bool fe, .bool ag, .int .i64 c, .int .i64 l] 25))).trans hbut
    exact Lib.hid ⟨(HB1.out.trans kb).trans (.of_below hk), (hsrc.below hk).mono (by omega), (HRu.out.but hbut (by omega)).below hk, fun o => ((hk.frozen (p := ⟨w1.heap.size, o, none⟩) (by show w1.heap.size < u.heap.size; omega)).trans ((hbut.frozen (c := w1.heap.size) (o := o) (by simp) (by omega)).trans (by go_simp))), po_new _ _ _ _ _ _ _ u _, fun o => by go_simp, (ho.o1.below hk).lower (by simp; omega), (ho.o2.below hk).lower (by simp; omega), (HRz.out.but kb (by omega)).below hk, fun o => ((hk.frozen (p := ⟨w.heap.size, o, none⟩) (by show w.heap.size < u.heap.size; omega)).trans ((kb.frozen (c := w.heap.size) (o := o) HRz.out.1 (by omega)).trans (HRf.out o))), (HZ.out.but kb (by omega)).below hk, HSrc.out.1, hsl, by omega, by omega, by omega, by omega, by omega, by omega, by omega, ho.ne, ho.l1, rfl⟩
  clear ho lt1 lt2 hbut hsrc HRu
  go_upto_region 3 with fail
  generalize hV : u.heap.size = V at *
  generalize hW : u.alloc (.cells #[.slice (some ⟨g1, 0, none⟩) (2 * P) c1, .slice (some ⟨g2, 0, none⟩) 2 2, .int .i64 pl] 28) = w2 at *
  generalize hR : w1.heap.size = R at *
  clear hW hV hR HRz HRf HZ HSrc1 HB1
  obtain ⟨hVl, q0, q1, q2⟩ := HD.out.po
  go_wp2_with fail
  clear hVl q0 q1 q2
  refine (pick_any sb a len cap _ _ _ HD.out.src (by omega) (by omega) (by omega)).mono ?_
  rintro e w3 ⟨at_, hat, rfl, hbut, hsrc⟩
  have HD := Lib.hid (HD.out.pick hbut hsrc)
  clear hbut hsrc
  obtain ⟨i, rfl⟩ : ∃ i : Nat, at_ = (i : Int) := ⟨at_.toNat, by omega⟩
  have hin : i < 2 * P := by omega
  go_wp2_with fail
  refine (pick_any sb a len cap _ 24 _ HD.out.src (by omega) (by omega) (by omega)).mono ?_
  rintro e w4 ⟨v, hv, rfl, hbut, hsrc⟩
  have HD := Lib.hid (HD.out.pick hbut hsrc)
  clear hbut hsrc
  have hy0 : ∀ y ∈ [y0, y1], -200 ≤ y ∧ y ≤ 200 := by
    intro y hy
    simp at hy
    omega
  have HY := Lib.hid hy0
  have hg12 := HD.out.n6
  have hg1 := HD.out.o1.new
  clear hy0 hxs
  have HT0 : Hid (∀ (pl : Int) (xs ys : List Int) (K' : Nat) (u : World), Bq w sb a len cap R (P : Int) s c l st sk re fe ag V g1 g2 (2 * P) c1 pl xs ys K' u → V < u.heap.size ∧ u.cell? ⟨V, 0, none⟩ = some (.slice (some ⟨g1, 0, none⟩) (2 * P) c1) ∧ But sb w u) := Lib.hid (fun pl xs ys K' u h => ⟨h.po.1, h.po.2.1, h.on⟩)
  by_cases c0 : v = 0
  · subst c0
    have p1 : (i : Int) < ((2 * P : Nat) : Int) := by omega
    have p2 : ¬ (i : Int) < 0 := by omega
    have p3 : (0 : Int) ≤ (i : Int) := by omega
    have p4 : (i : Int) < 2 * (P : Int) := by omega
    go_upto_region 6 with fail
    go_region_held3 (fun u => V < u.heap.size ∧ u.cell? ⟨V, 0, none⟩ = some (.slice (some ⟨g1, 0, none⟩) (2 * P) c1) ∧ But sb w u) (first | exact HT0.out _ _ _ _ _ HD.out | exact HT0.out _ _ _ _ _ HD.out.drew | exact HT0.out _ _ _ _ _ (HD.out.new (al1 _ _)) | exact HT0.out _ _ _ _ _ (HD.out.drew.new (al1 _ _)) | exact HT0.out _ _ _ _ _ (HD.out.new (al1 _ _)).drew | exact HT0.out _ _ _ _ _ (HD.out.setPit x hin))
      ((go_at_call 49; (with_reducible refine (among_any sb a len cap (K + 230 + 2 + 2) _ 4 4 [-1, 96, 40, 9223372036854775807] _ ?_ (by omega) rfl (by omega) (by omega) ?_ ?_).mono ?_); (first | exact (HD.out.new (al1 _ _)).src | exact (HD.out.drew.new (al1 _ _)).src | exact (HD.out.new (al1 _ _)).drew.src); (focus (have hsl := HD.out.src.lt; first | omega | (simp; omega))); (focus (first | exact row_laid _ [-1, 96, 40, 9223372036854775807] _ (Nat.le_of_ble_eq_true rfl) | exact (row_laid _ [-1, 96, 40, 9223372036854775807] _ (Nat.le_of_ble_eq_true rfl)).drewN 1)); rintro e w5 ⟨x, -, rfl, hbut, hsrc⟩; (first | have HD := Lib.hid ((HD.out.new (al1 _ _)).pick hbut hsrc) | have HD := Lib.hid ((HD.out.drew.new (al1 _ _)).pick hbut hsrc) | have HD := Lib.hid ((HD.out.new (al1 _ _)).drew.pick hbut hsrc)); (obtain ⟨gl, gf, y9, gx⟩ := HD.out.pitAt hin); have gf := gf i; clear hbut hsrc))
    have HD := Lib.hid (HD.out.setPit x hin)
    generalize hW : w5.setCell ⟨g1, i, none⟩ (.int .i64 x) = w6 at *
    clear hW gl gf gx
    go_upto_region 17 with fail
    have HT := Lib.hid HD.out.tl
    have HO2 := Lib.hid HD.out.o2
    obtain ⟨hrl, x0, x1, x2, x3, x4, x5, x6, x7, x8⟩ := HT.out.rz
    obtain ⟨hRl, r0, r1, r2, r3, r4, r5, r6, r7, r8⟩ := HT.out.ru
    obtain ⟨hVl, q0, q1, q2⟩ := HT.out.po
    obtain ⟨zl, z0, z1, z2, zf⟩ := HT.out.pz
    have f0 := zf 0
    have f1 := zf 1
    have f2 := zf 2
    have e0 := HT.out.zf 0
    have e1 := HT.out.zf 1
    have e2 := HT.out.zf 2
    have e3 := HT.out.zf 3
    have e4 := HT.out.zf 4
    have e5 := HT.out.zf 5
    have e6 := HT.out.zf 6
    have e7 := HT.out.zf 7
    have e8 := HT.out.zf 8
    clear zf
    have hsb := HT.out.s1
    have hvR := HT.out.vR
    have hvV := HT.out.vV
    have m5 : R ≠ w.heap.size := by omega
    have m6 : R ≠ w.heap.size + 1 := by omega
    have m7 : V ≠ w.heap.size := by omega
    have m8 : V ≠ w.heap.size + 1 := by omega
    go_region
    all_goals go_wp2_with fail
    all_goals refine bodyPost_ret (v := .tuple #[.agg #[.int .i64 P, .int .i64 s, .bool st, .bool sk, .bool re, .bool fe, .bool ag, .int .i64 c, .int .i64 l], .agg #[.slice (some ⟨g1, 0, none⟩) (2 * P) c1, .slice (some ⟨g2, 0, none⟩) 2 2, .int .i64 pl]]) (by simp [results, Try.results34, go_sem, x0, x1, x2, x3, x4, x5, x6, x7, x8, z0, z1, z2]) rfl ?_
    all_goals refine ⟨_, _, _, _, _, _, _, _, _, _, _, _, _, _, _, _, _, _, _, rfl, (HT.out.fin _ _ _ _ _ _ _ _ _ _ _ _).1, by omega, by omega, ?_, HT.out.b1, HT.out.b2, (HT.out.fin _ _ _ _ _ _ _ _ _ _ _ _).2.1, (HT.out.fin _ _ _ _ _ _ _ _ _ _ _ _).2.2.mono (by omega)⟩
    all_goals exact fun _ => ⟨g2, rfl, ((HO2.out.but (but9 w.heap.size _ _ _ _ _ _ _ _ _ _) (by have := HO2.out.new; omega)).but (but3 (w.heap.size + 1) _ _ _ _) (by have := HO2.out.new; omega)).drewN 1, hg12, hg1, HY.out⟩
  have d0 : (v == 0) = false := by simpa using c0
  by_cases c1' : v = 1
  · subst c1'
    go_wp2_with fail
    refine (among_any sb a len cap _ _ 2 2 [-1, 2] _ (HD.out.new (al1 _ _)).src (by omega) rfl (by omega) (by omega) (by have := HD.out.src.lt; omega) (row_laid _ [-1, 2] _ (by decide))).mono ?_
    rintro e w5 ⟨x, -, rfl, hbut, hsrc⟩
    have HD := Lib.hid ((HD.out.new (al1 _ _)).pick hbut hsrc)
    clear hbut hsrc
    obtain ⟨hVl, q0, q1, q2⟩ := HD.out.po
    have q3 := HD.out.pf 2
    go_upto_region 17 with fail
    clear hVl q0 q1 q2 q3
    have HD := Lib.hid (HD.out.setPl x)
    generalize hW : w5.setCell ⟨V, 2, none⟩ (.int .i64 x) = w6 at *
    clear hW
    have HT := Lib.hid HD.out.tl
    have HO2 := Lib.hid HD.out.o2
    obtain ⟨hrl, x0, x1, x2, x3, x4, x5, x6, x7, x8⟩ := HT.out.rz
    obtain ⟨hRl, r0, r1, r2, r3, r4, r5, r6, r7, r8⟩ := HT.out.ru
    obtain ⟨hVl, q0, q1, q2⟩ := HT.out.po
    obtain ⟨zl, z0, z1, z2, zf⟩ := HT.out.pz
    have f0 := zf 0
    have f1 := zf 1
    have f2 := zf 2
    have e0 := HT.out.zf 0
    have e1 := HT.out.zf 1
    have e2 := HT.out.zf 2
    have e3 := HT.out.zf 3
    have e4 := HT.out.zf 4
    have e5 := HT.out.zf 5
    have e6 := HT.out.zf 6
    have e7 := HT.out.zf 7
    have e8 := HT.out.zf 8
    clear zf
    have hsb := HT.out.s1
    have hvR := HT.out.vR
    have hvV := HT.out.vV
    have m5 : R ≠ w.heap.size := by omega
    have m6 : R ≠ w.heap.size + 1 := by omega
    have m7 : V ≠ w.heap.size := by omega
    have m8 : V ≠ w.heap.size + 1 := by omega
    go_region
    all_goals go_wp2_with fail
    all_goals refine bodyPost_ret (v := .tuple #[.agg #[.int .i64 P, .int .i64 s, .bool st, .bool sk, .bool re, .bool fe, .bool ag, .int .i64 c, .int .i64 l], .agg #[.slice (some ⟨g1, 0, none⟩) (2 * P) c1, .slice (some ⟨g2, 0, none⟩) 2 2, .int .i64 x]]) (by simp [results, Try.results34, go_sem, x0, x1, x2, x3, x4, x5, x6, x7, x8, z0, z1, z2]) rfl ?_
    all_goals refine ⟨_, _, _, _, _, _, _, _, _, _, _, _, _, _, _, _, _, _, _, rfl, (HT.out.fin _ _ _ _ _ _ _ _ _ _ _ _).1, by omega, by omega, ?_, HT.out.b1, HT.out.b2, (HT.out.fin _ _ _ _ _ _ _ _ _ _ _ _).2.1, (HT.out.fin _ _ _ _ _ _ _ _ _ _ _ _).2.2.mono (by omega)⟩
    all_goals exact fun _ => ⟨g2, rfl, ((HO2.out.but (but9 w.heap.size _ _ _ _ _ _ _ _ _ _) (by have := HO2.out.new; omega)).but (but3 (w.heap.size + 1) _ _ _ _) (by have := HO2.out.new; omega)).drewN 1, hg12, hg1, HY.out⟩
  have d1 : (v == 1) = false := by simpa using c1'
  by_cases c2' : v = 2
  · subst c2'
    obtain ⟨hVl, q0, q1, q2⟩ := HD.out.po
    have q3 := HD.out.pf 0
    have u1 : (1 : Int) ≤ ((2 * P : Nat) : Int) := by omega
    have u2 : ((2 * P : Nat) : Int) ≤ (c1 : Int) := by omega
    have u3 : (1 : Int) ≤ (c1 : Int) := by omega
    go_upto_region 17 with fail
    clear hVl q0 q1 q2 q3
    have HTO := HD.out.cut (by omega)
    have HT := Lib.hid HTO.1
    have HO2 := Lib.hid HTO.2
    clear HTO
    generalize hW : w4.setCell ⟨V, 0, none⟩ (.slice (some ⟨g1, 1, none⟩) (2 * P - 1) (c1 - 1)) = w6 at *
    clear hW
    obtain ⟨hrl, x0, x1, x2, x3, x4, x5, x6, x7, x8⟩ := HT.out.rz
    obtain ⟨hRl, r0, r1, r2, r3, r4, r5, r6, r7, r8⟩ := HT.out.ru
    obtain ⟨hVl, q0, q1, q2⟩ := HT.out.po
    obtain ⟨zl, z0, z1, z2, zf⟩ := HT.out.pz
    have f0 := zf 0
    have f1 := zf 1
    have f2 := zf 2
    have e0 := HT.out.zf 0
    have e1 := HT.out.zf 1
    have e2 := HT.out.zf 2
    have e3 := HT.out.zf 3
    have e4 := HT.out.zf 4
    have e5 := HT.out.zf 5
    have e6 := HT.out.zf 6
    have e7 := HT.out.zf 7
    have e8 := HT.out.zf 8
    clear zf
    have hsb := HT.out.s1
    have hvR := HT.out.vR
    have hvV := HT.out.vV
    have m5 : R ≠ w.heap.size := by omega
    have m6 : R ≠ w.heap.size + 1 := by omega
    have m7 : V ≠ w.heap.size := by omega
    have m8 : V ≠ w.heap.size + 1 := by omega
    go_region
    all_goals go_wp2_with fail
    all_goals refine bodyPost_ret (v := .tuple #[.agg #[.int .i64 P, .int .i64 s, .bool st, .bool sk, .bool re, .bool fe, .bool ag, .int .i64 c, .int .i64 l], .agg #[.slice (some ⟨g1, 1, none⟩) (2 * P - 1) (c1 - 1), .slice (some ⟨g2, 0, none⟩) 2 2, .int .i64 pl]]) (by simp [results, Try.results34, go_sem, x0, x1, x2, x3, x4, x5, x6, x7, x8, z0, z1, z2]) rfl ?_
    all_goals refine ⟨_, _, _, _, _, _, _, _, _, _, _, _, _, _, _, _, _, _, _, rfl, (HT.out.fin _ _ _ _ _ _ _ _ _ _ _ _).1, by omega, by omega, ?_, HT.out.b1, HT.out.b2, (HT.out.fin _ _ _ _ _ _ _ _ _ _ _ _).2.1, (HT.out.fin _ _ _ _ _ _ _ _ _ _ _ _).2.2.mono (by omega)⟩
    all_goals exact fun _ => ⟨g2, rfl, ((HO2.out.but (but9 w.heap.size _ _ _ _ _ _ _ _ _ _) (by have := HO2.out.new; omega)).but (but3 (w.heap.size + 1) _ _ _ _) (by have := HO2.out.new; omega)).drewN 1, hg12, hg1, HY.out⟩
  have d2 : (v == 2) = false := by simpa using c2'
  by_cases c3' : v = 3
  · subst c3'
    obtain ⟨hVl, q0, q1, q2⟩ := HD.out.po
    have q3 := HD.out.pf 1
    go_wp2_with (at_builtin; refine wpList_append_grows _ rfl _ _ 26 rfl 2 i0 (.int .i64 0) 1 8 Try.underlying26 hi hz0 hz1 hz2 rfl (by decide) (some ⟨g2, 0, none⟩) 2 2 (nvs [y0, y1]) rfl (by intro e; cases e) rfl ?_ ⟨_, 0, none⟩ 1 1 (nvs [0]) rfl (by simp [nvs]) (row_news (row_laid _ [0] _ (by decide))) (nvs_cell _) (by omega) (by unfold maxLen; omega) (by omega) ?_)
    · rintro b hb
      cases hb
      exact row_news (HD.out.new (al1 _ _)).o2.row
    · rintro v1 w6 hown hgrow
      rw [← nvs_app] at hown
      obtain ⟨cc, g, rfl, hog, hlg, hcc⟩ := outN_own hown (by simp) (by omega) (by simp)
      have HD := Lib.hid ((HD.out.new (al1 w4 (.cells #[.int .i64 0] 2))).new ((Below.refl _ _).grown hgrow (Nat.le_refl _) (fun k hk => by cases hk)))
      have hvl := HD.out.po.1
      have hgn := hog.new
      have hV4 := hVl
      have hw4 := HD.out.rz.1
      have hon := HD.out.vV
      have HOG := Lib.hid (hog.lower (C := w.heap.size + 2) (by omega))
      have hgV : g ≠ V := by omega
      clear hVl q0 q1 q2 q3 hog hown hgrow
      obtain ⟨hVl, q0, q1, q2⟩ := HD.out.po
      have q3 := HD.out.pf 1
      go_upto_region 17 with fail
      clear hVl q0 q1 q2 q3
      have HT := Lib.hid (HD.out.app (cc := cc) HOG.out (by simp : ([y0, y1] ++ [0] : List Int).length = 3) hgV)
      generalize hW : w6.setCell ⟨V, 1, none⟩ (.slice (some ⟨g, 0, none⟩) 3 cc) = w7 at *
      clear hW
      obtain ⟨hrl, x0, x1, x2, x3, x4, x5, x6, x7, x8⟩ := HT.out.rz
      obtain ⟨hRl, r0, r1, r2, r3, r4, r5, r6, r7, r8⟩ := HT.out.ru
      obtain ⟨hVl, q0, q1, q2⟩ := HT.out.po
      obtain ⟨zl, z0, z1, z2, zf⟩ := HT.out.pz
      have f0 := zf 0
      have f1 := zf 1
      have f2 := zf 2
      have e0 := HT.out.zf 0
      have e1 := HT.out.zf 1
      have e2 := HT.out.zf 2
      have e3 := HT.out.zf 3
      have e4 := HT.out.zf 4
      have e5 := HT.out.zf 5
      have e6 := HT.out.zf 6
      have e7 := HT.out.zf 7
      have e8 := HT.out.zf 8
      clear zf
      have hsb := HT.out.s1
      have hvR := HT.out.vR
      have hvV := HT.out.vV
      have m5 : R ≠ w.heap.size := by omega
      have m6 : R ≠ w.heap.size + 1 := by omega
      have m7 : V ≠ w.heap.size := by omega
      have m8 : V ≠ w.heap.size + 1 := by omega
      go_region
      all_goals go_wp2_with fail
      all_goals refine bodyPost_ret (v := .tuple #[.agg #[.int .i64 P, .int .i64 s, .bool st, .bool sk, .bool re, .bool fe, .bool ag, .int .i64 c, .int .i64 l], .agg #[.slice (some ⟨g1, 0, none⟩) (2 * P) c1, .slice (some ⟨g, 0, none⟩) 3 cc, .int .i64 pl]]) (by simp [results, Try.results34, go_sem, x0, x1, x2, x3, x4, x5, x6, x7, x8, z0, z1, z2]) rfl ?_
      all_goals refine ⟨_, _, _, _, _, _, _, _, _, _, _, _, _, _, _, _, _, _, _, rfl, (HT.out.fin _ _ _ _ _ _ _ _ _ _ _ _).1, by omega, by omega, ?_, HT.out.b1, HT.out.b2, (HT.out.fin _ _ _ _ _ _ _ _ _ _ _ _).2.1, (HT.out.fin _ _ _ _ _ _ _ _ _ _ _ _).2.2.mono (by omega)⟩
      all_goals exact fun h => absurd h (by decide)
  have d3 : (v == 3) = false := by simpa using c3'
  by_cases c4' : v = 4
  · subst c4'
    have hsm := sumC_bd xs
    obtain ⟨M, hM⟩ : ∃ M, M = hi2 0 (sumC xs) := ⟨_, rfl⟩
    have hM1 : 0 ≤ M ∧ M ≤ 96 := by rw [hM]; unfold hi2; split <;> omega
    have HM := Lib.hid hM.symm
    clear hM hsm
    have hw1 : IntKind.i64.wrap (96 - M) = 96 - M := IntWalk.i64_in _ ⟨by omega, by omega⟩
    have hw2 : IntKind.i64.wrap (96 - M - y1) = 96 - M - y1 := IntWalk.i64_in _ ⟨by omega, by omega⟩
    have HT4 : Hid (∀ (z : Int) (xs : List Int) (K' : Nat) (u : World), Bq w sb a len cap R (P : Int) s c l st sk re fe ag V g1 g2 (2 * P) c1 pl xs [z, y1] K' u → V < u.heap.size ∧ u.cell? ⟨V, 0, none⟩ = some (.slice (some ⟨g1, 0, none⟩) (2 * P) c1) ∧ u.cell? ⟨V, 1, none⟩ = some (.slice (some ⟨g2, 0, none⟩) 2 2) ∧ u.cell? ⟨g2, 1, none⟩ = some (.int .i64 y1) ∧ But sb w u) := Lib.hid (fun z xs K' u h => ⟨h.po.1, h.po.2.1, h.po.2.2.1, (by obtain ⟨_, h1 | ⟨g', o, ha, _, hx⟩⟩ := h.o2.row; (cases h1); (cases ha; have := hx 1 y1 rfl; rwa [Nat.zero_add] at this)), h.on⟩)
    go_upto_region 14 with fail
    go_region_held3 (fun u => V < u.heap.size ∧ u.cell? ⟨V, 0, none⟩ = some (.slice (some ⟨g1, 0, none⟩) (2 * P) c1) ∧ u.cell? ⟨V, 1, none⟩ = some (.slice (some ⟨g2, 0, none⟩) 2 2) ∧ u.cell? ⟨g2, 1, none⟩ = some (.int .i64 y1) ∧ But sb w u) (first | exact HT4.out _ _ _ _ HD.out | exact HT4.out _ _ _ _ HD.out.drew | exact HT4.out _ _ _ _ (HD.out.new (al1 _ _)) | exact HT4.out _ _ _ _ (HD.out.drew.new (al1 _ _)) | exact HT4.out _ _ _ _ (HD.out.new (al1 _ _)).drew | exact HT4.out x _ _ _ (HD.out.setSt x))
      (first
      | (go_at_call 43; (with_reducible refine (l04Sum_any (some ⟨g1, 0, none⟩) c1 (2 * P) xs _ HD.out.l1 ?_).mono ?_); (first | exact HD.out.o1.row | exact HD.out.o1.row.drewN 1); rintro e w5 ⟨rfl, rfl⟩)
      | (go_at_call 27; (with_reducible refine (max0_any _ _ _).mono ?_); rintro e w5 ⟨rfl, rfl⟩; rw [HM.out])
      | (go_at_call 49; (with_reducible refine (among_any sb a len cap (K + 230 + 2 + 2) _ 3 3 [-1, 96 - M - y1, 96] _ ?_ (by omega) rfl (by omega) (by omega) ?_ ?_).mono ?_); (first | exact (HD.out.new (al1 _ _)).src | exact (HD.out.drew.new (al1 _ _)).src | exact (HD.out.new (al1 _ _)).drew.src); (focus (have hsl := HD.out.src.lt; first | omega | (simp; omega))); (focus (first | exact row_laid _ [-1, 96 - M - y1, 96] _ (Nat.le_of_ble_eq_true rfl) | exact (row_laid _ [-1, 96 - M - y1, 96] _ (Nat.le_of_ble_eq_true rfl)).drewN 1)); rintro e w5 ⟨x, hx4, rfl, hbut, hsrc⟩; (first | have HD := Lib.hid ((HD.out.new (al1 _ _)).pick hbut hsrc) | have HD := Lib.hid ((HD.out.drew.new (al1 _ _)).pick hbut hsrc) | have HD := Lib.hid ((HD.out.new (al1 _ _)).drew.pick hbut hsrc)); (obtain ⟨gl, gf, gx⟩ := HD.out.stAt); have gf := gf 0; clear hbut hsrc))
    have HY : Hid (∀ y ∈ ([y0, y1].set 0 x), -200 ≤ y ∧ y ≤ 200) := Lib.hid (by
      intro y hy
      have hx5 : x = -1 ∨ x = 96 - M - y1 ∨ x = 96 := by simpa using hx4
      have hy5 : y = x ∨ y = y1 := by simpa using hy
      omega)
    have HD := Lib.hid (HD.out.setSt x)
    generalize hW : w5.setCell ⟨g2, 0, none⟩ (.int .i64 x) = w6 at *
    clear hW gl gf gx hx4 hw1 hw2
    go_upto_region 17 with fail
    have HT := Lib.hid HD.out.tl
    have HO2 := Lib.hid HD.out.o2
    obtain ⟨hrl, x0, x1, x2, x3, x4, x5, x6, x7, x8⟩ := HT.out.rz
    obtain ⟨hRl, r0, r1, r2, r3, r4, r5, r6, r7, r8⟩ := HT.out.ru
    obtain ⟨hVl, q0, q1, q2⟩ := HT.out.po
    obtain ⟨zl, z0, z1, z2, zf⟩ := HT.out.pz
    have f0 := zf 0
    have f1 := zf 1
    have f2 := zf 2
    have e0 := HT.out.zf 0
    have e1 := HT.out.zf 1
    have e2 := HT.out.zf 2
    have e3 := HT.out.zf 3
    have e4 := HT.out.zf 4
    have e5 := HT.out.zf 5
    have e6 := HT.out.zf 6
    have e7 := HT.out.zf 7
    have e8 := HT.out.zf 8
    clear zf
    have hsb := HT.out.s1
    have hvR := HT.out.vR
    have hvV := HT.out.vV
    have m5 : R ≠ w.heap.size := by omega
    have m6 : R ≠ w.heap.size + 1 := by omega
    have m7 : V ≠ w.heap.size := by omega
    have m8 : V ≠ w.heap.size + 1 := by omega
    go_region
    all_goals go_wp2_with fail
    all_goals refine bodyPost_ret (v := .tuple #[.agg #[.int .i64 P, .int .i64 s, .bool st, .bool sk, .bool re, .bool fe, .bool ag, .int .i64 c, .int .i64 l], .agg #[.slice (some ⟨g1, 0, none⟩) (2 * P) c1, .slice (some ⟨g2, 0, none⟩) 2 2, .int .i64 pl]]) (by simp [results, Try.results34, go_sem, x0, x1, x2, x3, x4, x5, x6, x7, x8, z0, z1, z2]) rfl ?_
    all_goals refine ⟨_, _, _, _, _, _, _, _, _, _, _, _, _, _, _, _, _, _, _, rfl, (HT.out.fin _ _ _ _ _ _ _ _ _ _ _ _).1, by omega, by omega, ?_, HT.out.b1, HT.out.b2, (HT.out.fin _ _ _ _ _ _ _ _ _ _ _ _).2.1, (HT.out.fin _ _ _ _ _ _ _ _ _ _ _ _).2.2.mono (by omega)⟩
    all_goals exact fun _ => ⟨g2, rfl, ((HO2.out.but (but9 w.heap.size _ _ _ _ _ _ _ _ _ _) (by have := HO2.out.new; omega)).but (but3 (w.heap.size + 1) _ _ _ _) (by have := HO2.out.new; omega)).drewN 1, hg12, hg1, HY.out⟩
  have d4 : (v == 4) = false := by simpa using c4'
  by_cases c5' : v = 5
  · subst c5'
    go_wp2_with fail
    refine (bent2_any sb a len cap _ _ HD.out.src (by omega)).mono ?_
    rintro e w5 ⟨p2, s2, c2, l2, st2, sk2, re2, fe2, ag2, rfl, hbut, hsrc⟩
    have HD := Lib.hid (HD.out.pick hbut hsrc)
    clear hbut hsrc
    obtain ⟨hRl, r0, r1, r2, r3, r4, r5, r6, r7, r8⟩ := HD.out.ru
    have k0 := HD.out.rf 0
    have k1 := HD.out.rf 1
    have k2 := HD.out.rf 2
    have k3 := HD.out.rf 3
    have k4 := HD.out.rf 4
    have k5 := HD.out.rf 5
    have k6 := HD.out.rf 6
    have k7 := HD.out.rf 7
    have k8 := HD.out.rf 8
    go_upto_region 17 with fail
    clear hRl r0 r1 r2 r3 r4 r5 r6 r7 r8 k0 k1 k2 k3 k4 k5 k6 k7 k8
    have HD := Lib.hid (HD.out.setRu p2 s2 c2 l2 st2 sk2 re2 fe2 ag2)
    generalize hW : ((((((((w5.setCell ⟨R, 0, none⟩ (.int .i64 p2)).setCell ⟨R, 1, none⟩ (.int .i64 s2)).setCell ⟨R, 2, none⟩ (.bool st2)).setCell ⟨R, 3, none⟩ (.bool sk2)).setCell ⟨R, 4, none⟩ (.bool re2)).setCell ⟨R, 5, none⟩ (.bool fe2)).setCell ⟨R, 6, none⟩ (.bool ag2)).setCell ⟨R, 7, none⟩ (.int .i64 c2)).setCell ⟨R, 8, none⟩ (.int .i64 l2) = w6 at *
    clear hW
    have HT := Lib.hid HD.out.tl
    have HO2 := Lib.hid HD.out.o2
    obtain ⟨hrl, x0, x1, x2, x3, x4, x5, x6, x7, x8⟩ := HT.out.rz
    obtain ⟨hRl, r0, r1, r2, r3, r4, r5, r6, r7, r8⟩ := HT.out.ru
    obtain ⟨hVl, q0, q1, q2⟩ := HT.out.po
    obtain ⟨zl, z0, z1, z2, zf⟩ := HT.out.pz
    have f0 := zf 0
    have f1 := zf 1
    have f2 := zf 2
    have e0 := HT.out.zf 0
    have e1 := HT.out.zf 1
    have e2 := HT.out.zf 2
    have e3 := HT.out.zf 3
    have e4 := HT.out.zf 4
    have e5 := HT.out.zf 5
    have e6 := HT.out.zf 6
    have e7 := HT.out.zf 7
    have e8 := HT.out.zf 8
    clear zf
    have hsb := HT.out.s1
    have hvR := HT.out.vR
    have hvV := HT.out.vV
    have m5 : R ≠ w.heap.size := by omega
    have m6 : R ≠ w.heap.size + 1 := by omega
    have m7 : V ≠ w.heap.size := by omega
    have m8 : V ≠ w.heap.size + 1 := by omega
    go_region
    all_goals go_wp2_with fail
    all_goals refine bodyPost_ret (v := .tuple #[.agg #[.int .i64 p2, .int .i64 s2, .bool st2, .bool sk2, .bool re2, .bool fe2, .bool ag2, .int .i64 c2, .int .i64 l2], .agg #[.slice (some ⟨g1, 0, none⟩) (2 * P) c1, .slice (some ⟨g2, 0, none⟩) 2 2, .int .i64 pl]]) (by simp [results, Try.results34, go_sem, x0, x1, x2, x3, x4, x5, x6, x7, x8, z0, z1, z2]) rfl ?_
    all_goals refine ⟨_, _, _, _, _, _, _, _, _, _, _, _, _, _, _, _, _, _, _, rfl, (HT.out.fin _ _ _ _ _ _ _ _ _ _ _ _).1, by omega, by omega, ?_, HT.out.b1, HT.out.b2, (HT.out.fin _ _ _ _ _ _ _ _ _ _ _ _).2.1, (HT.out.fin _ _ _ _ _ _ _ _ _ _ _ _).2.2.mono (by omega)⟩
    all_goals exact fun _ => ⟨g2, rfl, ((HO2.out.but (but9 w.heap.size _ _ _ _ _ _ _ _ _ _) (by have := HO2.out.new; omega)).but (but3 (w.heap.size + 1) _ _ _ _) (by have := HO2.out.new; omega)).drewN 1, hg12, hg1, HY.out⟩
  have d5 : (v == 5) = false := by simpa using c5'
  clear c0 c1' c2' c3' c4' c5'
  go_upto_region 17 with fail
  have HT := Lib.hid HD.out.tl
  have HO2 := Lib.hid HD.out.o2
  obtain ⟨hrl, x0, x1, x2, x3, x4, x5, x6, x7, x8⟩ := HT.out.rz
  obtain ⟨hRl, r0, r1, r2, r3, r4, r5, r6, r7, r8⟩ := HT.out.ru
  obtain ⟨hVl, q0, q1, q2⟩ := HT.out.po
  obtain ⟨zl, z0, z1, z2, zf⟩ := HT.out.pz
  have f0 := zf 0
  have f1 := zf 1
  have f2 := zf 2
  have e0 := HT.out.zf 0
  have e1 := HT.out.zf 1
  have e2 := HT.out.zf 2
  have e3 := HT.out.zf 3
  have e4 := HT.out.zf 4
  have e5 := HT.out.zf 5
  have e6 := HT.out.zf 6
  have e7 := HT.out.zf 7
  have e8 := HT.out.zf 8
  clear zf
  have hsb := HT.out.s1
  have hvR := HT.out.vR
  have hvV := HT.out.vV
  have m5 : R ≠ w.heap.size := by omega
  have m6 : R ≠ w.heap.size + 1 := by omega
  have m7 : V ≠ w.heap.size := by omega
  have m8 : V ≠ w.heap.size + 1 := by omega
  go_region
  all_goals go_wp2_with fail
  all_goals refine bodyPost_ret (v := .tuple #[.agg #[.int .i64 P, .int .i64 s, .bool st, .bool sk, .bool re, .bool fe, .bool ag, .int .i64 c, .int .i64 l], .agg #[.slice (some ⟨g1, 0, none⟩) (2 * P) c1, .slice (some ⟨g2, 0, none⟩) 2 2, .int .i64 pl]]) (by simp [results, Try.results34, go_sem, x0, x1, x2, x3, x4, x5, x6, x7, x8, z0, z1, z2]) rfl ?_
  all_goals refine ⟨_, _, _, _, _, _, _, _, _, _, _, _, _, _, _, _, _, _, _, rfl, (HT.out.fin _ _ _ _ _ _ _ _ _ _ _ _).1, by omega, by omega, ?_, HT.out.b1, HT.out.b2, (HT.out.fin _ _ _ _ _ _ _ _ _ _ _ _).2.1, (HT.out.fin _ _ _ _ _ _ _ _ _ _ _ _).2.2.mono (by omega)⟩
  all_goals exact fun _ => ⟨g2, rfl, ((HO2.out.but (but9 w.heap.size _ _ _ _ _ _ _ _ _ _) (by have := HO2.out.new; omega)).but (but3 (w.heap.size + 1) _ _ _ _) (by have := HO2.out.new; omega)).drewN 1, hg12, hg1, HY.out⟩
end Go.Proofs.Ytgogjjkecbgbiaa
