/- Seeds while they are sown: a struct in memory with two rows of its own. No conditions. -/
import Derived.Test.YtgogjjkecbgbiaaBoxS
import Derived.Test.YtgogjjkecbgbiaaBox4
import Derived.Test.YtgogjjkecbgbiaaOwn4
import Derived.Test.YtgogjjkecbgbiaaSow2
namespace Go.Proofs.Ytgogjjkecbgbiaa
open Go.Joins Go.ChangeShapes Go.WideShapes Go.ChangeAt Go.RowKit Go.Deep
set_option linter.unusedVariables false

section
variable {W Z : World} {B g b i : Nat} {xs : List Int} {v : Int}
/-- The cells of a row that begins at its block's first cell. -/
theorem OutN.at0 (h : OutN W B (some ⟨g, 0, none⟩) b xs) (hi : i < xs.length) : W.cell? ⟨g, i, none⟩ = some (.int .i64 (xs.getD i 0)) := by
  have hne : xs ≠ [] := by intro e; subst e; simp at hi
  obtain ⟨g', o', ha, _, hx⟩ := h.row.2.resolve_left hne
  cases ha
  have := hx i _ (getD_at hi)
  rwa [Nat.zero_add] at this
/-- A number of a row is written. -/
theorem OutN.set (h : OutN W B (some ⟨g, 0, none⟩) g xs) (hi : i < xs.length) (v : Int) : OutN (W.setCell ⟨g, i, none⟩ (.int .i64 v)) B (some ⟨g, 0, none⟩) g (xs.set i v) := by
  have hne : xs ≠ [] := by intro e; subst e; simp at hi
  obtain ⟨hlt, hfr⟩ := h.free hne
  refine ⟨⟨by rw [List.length_set]; exact h.row.1, .inr ⟨g, 0, rfl, by simpa using hlt, fun j x hj => ?_⟩⟩, h.at_b, h.new, fun _ => ⟨by simpa using hlt, fun o => by have := hfr o; go_simp⟩⟩
  rw [Nat.zero_add]
  have hjl : j < xs.length := by
    have := (List.getElem?_eq_some_iff.1 hj).1
    rwa [List.length_set] at this
  by_cases e : j = i
  · subst e
    rw [World.cell?_setCell_same' _ _ _ (by rw [h.at0 hi]; rfl)]
    simp [hi] at hj
    rw [hj]
  · rw [World.cell?_setCell_other (w := W) (a := ⟨g, i, none⟩) (b := ⟨g, j, none⟩) (h := by intro e'; first | (simp at e'; done) | (simp at e'; omega)), h.at0 hjl]
    rw [List.getElem?_set_ne (fun e' => e e'.symm), getD_at hjl] at hj
    cases hj
    rfl
end

/-- Sown seeds at block s: pits xs in block g1, stores ys in block g2, the last place la, lp laps. -/
structure SoS (W : World) (B s g1 c1 g2 c2 n1 : Nat) (la lp : Int) (xs ys : List Int) : Prop where
  so : SoAt W s (some ⟨g1, 0, none⟩) (some ⟨g2, 0, none⟩) n1 c1 2 c2 la lp
  fr : ∀ o, W.frozen? ⟨s, o, none⟩ = false
  o1 : OutN W B (some ⟨g1, 0, none⟩) g1 xs
  o2 : OutN W B (some ⟨g2, 0, none⟩) g2 ys
  l1 : xs.length = n1
  l2 : ys.length = 2
  d1 : s ≠ g1
  d2 : s ≠ g2
  d3 : g1 ≠ g2
section
variable {W Z : World} {B s g1 c1 g2 c2 n1 b i : Nat} {la lp : Int} {xs ys : List Int}
theorem SoS.but (h : SoS W B s g1 c1 g2 c2 n1 la lp xs ys) (k : But b W Z) (e0 : s ≠ b) (e1 : g1 ≠ b) (e2 : g2 ≠ b) : SoS Z B s g1 c1 g2 c2 n1 la lp xs ys :=
  ⟨h.so.but k e0, fun o => (k.frozen h.so.1 e0).trans (h.fr o), h.o1.but k e1, h.o2.but k e2, h.l1, h.l2, h.d1, h.d2, h.d3⟩
theorem SoS.below (h : SoS W B s g1 c1 g2 c2 n1 la lp xs ys) (k : Below W.heap.size W Z) : SoS Z B s g1 c1 g2 c2 n1 la lp xs ys :=
  ⟨h.so.below k, fun o => (k.frozen (p := ⟨s, o, none⟩) h.so.1).trans (h.fr o), h.o1.below k, h.o2.below k, h.l1, h.l2, h.d1, h.d2, h.d3⟩
theorem SoS.grown {row : Option Nat} (h : SoS W B s g1 c1 g2 c2 n1 la lp xs ys) (hg : W.grownBy Z row) (e : ∀ k, row = some k → k ≠ s ∧ k ≠ g1 ∧ k ≠ g2) : SoS Z B s g1 c1 g2 c2 n1 la lp xs ys := by
  have hb := hg.block s h.so.1 (fun e' => (e s e'.symm).1 rfl)
  have ec : ∀ o, Z.cell? ⟨s, o, none⟩ = W.cell? ⟨s, o, none⟩ := fun o => World.cell?_of_block (a := ⟨s, o, none⟩) hb
  obtain ⟨hlt, k0, k1, k2, k3⟩ := h.so
  exact ⟨⟨Nat.lt_of_lt_of_le hlt hg.size, (ec 0).trans k0, (ec 1).trans k1, (ec 2).trans k2, (ec 3).trans k3⟩, fun o => (World.frozen?_of_block (a := ⟨s, o, none⟩) hb).trans (h.fr o), h.o1.grown hg (fun k hk => (e k hk).2.1), h.o2.grown hg (fun k hk => (e k hk).2.2), h.l1, h.l2, h.d1, h.d2, h.d3⟩
theorem SoS.setX (h : SoS W B s g1 c1 g2 c2 n1 la lp xs ys) (hi : i < n1) (v : Int) : SoS (W.setCell ⟨g1, i, none⟩ (.int .i64 v)) B s g1 c1 g2 c2 n1 la lp (xs.set i v) ys :=
  have k : But g1 W (W.setCell ⟨g1, i, none⟩ (.int .i64 v)) := (But.refl g1 W).setCell rfl _
  ⟨h.so.but k h.d1, fun o => (k.frozen h.so.1 h.d1).trans (h.fr o), h.o1.set (by rw [h.l1]; exact hi) v, h.o2.but k (fun e => h.d3 e.symm), by rw [List.length_set]; exact h.l1, h.l2, h.d1, h.d2, h.d3⟩
theorem SoS.setY (h : SoS W B s g1 c1 g2 c2 n1 la lp xs ys) (hi : i < 2) (v : Int) : SoS (W.setCell ⟨g2, i, none⟩ (.int .i64 v)) B s g1 c1 g2 c2 n1 la lp xs (ys.set i v) :=
  have k : But g2 W (W.setCell ⟨g2, i, none⟩ (.int .i64 v)) := (But.refl g2 W).setCell rfl _
  ⟨h.so.but k h.d2, fun o => (k.frozen h.so.1 h.d2).trans (h.fr o), h.o1.but k h.d3, h.o2.set (by rw [h.l2]; exact hi) v, h.l1, by rw [List.length_set]; exact h.l2, h.d1, h.d2, h.d3⟩
theorem SoS.setLast (h : SoS W B s g1 c1 g2 c2 n1 la lp xs ys) (v : Int) : SoS (W.setCell ⟨s, 2, none⟩ (.int .i64 v)) B s g1 c1 g2 c2 n1 v lp xs ys := by
  have k : But s W (W.setCell ⟨s, 2, none⟩ (.int .i64 v)) := (But.refl s W).setCell rfl _
  obtain ⟨hlt, k0, k1, k2, k3⟩ := h.so
  have hf := h.fr
  exact ⟨⟨by simpa using hlt, by go_simp, by go_simp, by go_simp, by go_simp⟩, fun o => by have := hf o; go_simp, h.o1.but k (fun e => h.d1 e.symm), h.o2.but k (fun e => h.d2 e.symm), h.l1, h.l2, h.d1, h.d2, h.d3⟩
theorem SoS.setLaps (h : SoS W B s g1 c1 g2 c2 n1 la lp xs ys) (v : Int) : SoS (W.setCell ⟨s, 3, none⟩ (.int .i64 v)) B s g1 c1 g2 c2 n1 la v xs ys := by
  have k : But s W (W.setCell ⟨s, 3, none⟩ (.int .i64 v)) := (But.refl s W).setCell rfl _
  obtain ⟨hlt, k0, k1, k2, k3⟩ := h.so
  have hf := h.fr
  exact ⟨⟨by simpa using hlt, by go_simp, by go_simp, by go_simp, by go_simp⟩, fun o => by have := hf o; go_simp, h.o1.but k (fun e => h.d1 e.symm), h.o2.but k (fun e => h.d2 e.symm), h.l1, h.l2, h.d1, h.d2, h.d3⟩
theorem SoS.x (h : SoS W B s g1 c1 g2 c2 n1 la lp xs ys) (hi : i < n1) : W.cell? ⟨g1, i, none⟩ = some (.int .i64 (xs.getD i 0)) ∧ W.frozen? ⟨g1, i, none⟩ = false ∧ g1 < W.heap.size := by
  have hne : xs ≠ [] := by intro e; have := h.l1; subst e; simp at this; omega
  exact ⟨h.o1.at0 (by rw [h.l1]; exact hi), (h.o1.free hne).2 _, (h.o1.free hne).1⟩
theorem SoS.y (h : SoS W B s g1 c1 g2 c2 n1 la lp xs ys) (hi : i < 2) : W.cell? ⟨g2, i, none⟩ = some (.int .i64 (ys.getD i 0)) ∧ W.frozen? ⟨g2, i, none⟩ = false ∧ g2 < W.heap.size := by
  have hne : ys ≠ [] := by intro e; have := h.l2; subst e; simp at this
  exact ⟨h.o2.at0 (by rw [h.l2]; exact hi), (h.o2.free hne).2 _, (h.o2.free hne).1⟩
theorem RuAt.grown {p s' c l : Int} {st sk re fe ag : Bool} {row : Option Nat} (h : RuAt W b p s' c l st sk re fe ag) (hg : W.grownBy Z row) (e : ∀ k, row = some k → k ≠ b) : RuAt Z b p s' c l st sk re fe ag := by
  obtain ⟨hb, h⟩ := h
  have hbl := hg.block b hb (fun e' => e b e'.symm rfl)
  have ec : ∀ o, Z.cell? ⟨b, o, none⟩ = W.cell? ⟨b, o, none⟩ := fun o => World.cell?_of_block (a := ⟨b, o, none⟩) hbl
  exact ⟨Nat.lt_of_lt_of_le hb hg.size, by rw [ec, ec, ec, ec, ec, ec, ec, ec, ec]; exact h⟩
end
theorem own_but {u v : World} {B e n b : Nat} {x : Value} {xs : List Value} (h : u.ownsRow B e 1 x n xs) (k : But b u v) (hb : b < B) : v.ownsRow B e 1 x n xs := by
  obtain ⟨h1, h2 | ⟨g, cap, cur, hv, hg0, hg, hr⟩⟩ := h
  · exact ⟨h1, .inl h2⟩
  · exact ⟨h1, .inr ⟨g, cap, cur, hv, hg0, by rw [k.block g (Array.getElem?_eq_some_iff.1 hg).1 (by omega)]; exact hg, hr⟩⟩
end Go.Proofs.Ytgogjjkecbgbiaa
