/- Rules and a position that lie in memory. No conditions. -/
import Derived.Test.YtgogjjkecbgbiaaTot
import Derived.Test.YtgogjjkecbgbiaaPos
namespace Go.Proofs.Ytgogjjkecbgbiaa
open Go.Joins Go.ChangeShapes Go.WideShapes Go.ChangeAt Go.RowKit Go.Deep
set_option linter.unusedVariables false

def RuAt (u : World) (b : Nat) (p s c l : Int) (st sk re fe ag : Bool) : Prop := (b < u.heap.size ∧ u.cell? ⟨b, 0, none⟩ = some (.int .i64 p) ∧ u.cell? ⟨b, 1, none⟩ = some (.int .i64 s) ∧ u.cell? ⟨b, 2, none⟩ = some (.bool st) ∧ u.cell? ⟨b, 3, none⟩ = some (.bool sk) ∧ u.cell? ⟨b, 4, none⟩ = some (.bool re) ∧ u.cell? ⟨b, 5, none⟩ = some (.bool fe) ∧ u.cell? ⟨b, 6, none⟩ = some (.bool ag) ∧ u.cell? ⟨b, 7, none⟩ = some (.int .i64 c) ∧ u.cell? ⟨b, 8, none⟩ = some (.int .i64 l))
def PoAt (u : World) (d : Nat) (p1 p2 : Option Addr) (pn1 pc1 pn2 pc2 : Nat) (pp : Int) : Prop := (d < u.heap.size ∧ u.cell? ⟨d, 0, none⟩ = some (.slice p1 pn1 pc1) ∧ u.cell? ⟨d, 1, none⟩ = some (.slice p2 pn2 pc2) ∧ u.cell? ⟨d, 2, none⟩ = some (.int .i64 pp))
section
variable {u v : World} {b d : Nat} {p s c l : Int} {st sk re fe ag : Bool} {p1 p2 : Option Addr} {pn1 pc1 pn2 pc2 : Nat} {pp : Int}
theorem RuAt.below (h : RuAt u b p s c l st sk re fe ag) (k : Below u.heap.size u v) : RuAt v b p s c l st sk re fe ag := by
  obtain ⟨hb, h⟩ := h
  have e := fun o => k.cell (p := ⟨b, o, none⟩) hb
  exact ⟨Nat.lt_of_lt_of_le hb k.size, by rw [e, e, e, e, e, e, e, e, e]; exact h⟩
theorem PoAt.below (h : PoAt u d p1 p2 pn1 pc1 pn2 pc2 pp) (k : Below u.heap.size u v) : PoAt v d p1 p2 pn1 pc1 pn2 pc2 pp := by
  obtain ⟨hb, h⟩ := h
  have e := fun o => k.cell (p := ⟨d, o, none⟩) hb
  exact ⟨Nat.lt_of_lt_of_le hb k.size, by rw [e, e, e]; exact h⟩
theorem RuAt.but {g : Nat} (h : RuAt u b p s c l st sk re fe ag) (k : But g u v) (hg : b ≠ g) : RuAt v b p s c l st sk re fe ag := by
  obtain ⟨hb, h⟩ := h
  have e := fun o => k.cell (o := o) hb hg
  exact ⟨Nat.lt_of_lt_of_le hb k.size, by rw [e, e, e, e, e, e, e, e, e]; exact h⟩
theorem PoAt.but {g : Nat} (h : PoAt u d p1 p2 pn1 pc1 pn2 pc2 pp) (k : But g u v) (hg : d ≠ g) : PoAt v d p1 p2 pn1 pc1 pn2 pc2 pp := by
  obtain ⟨hb, h⟩ := h
  have e := fun o => k.cell (o := o) hb hg
  exact ⟨Nat.lt_of_lt_of_le hb k.size, by rw [e, e, e]; exact h⟩
end
theorem ru_new (p s c l : Int) (st sk re fe ag : Bool) (w : World) (T : TypeId) : RuAt (w.alloc (.cells #[.int .i64 p, .int .i64 s, .bool st, .bool sk, .bool re, .bool fe, .bool ag, .int .i64 c, .int .i64 l] T)) w.heap.size p s c l st sk re fe ag :=
  ⟨by simp, by go_simp, by go_simp, by go_simp, by go_simp, by go_simp, by go_simp, by go_simp, by go_simp, by go_simp⟩
theorem po_new (p1 p2 : Option Addr) (pn1 pc1 pn2 pc2 : Nat) (pp : Int) (w : World) (T : TypeId) : PoAt (w.alloc (.cells #[.slice p1 pn1 pc1, .slice p2 pn2 pc2, .int .i64 pp] T)) w.heap.size p1 p2 pn1 pc1 pn2 pc2 pp :=
  ⟨by simp, by go_simp, by go_simp, by go_simp⟩

/-- Rules and a position, boxed one after the other. -/
def RpAt (w : World) (p s c l : Int) (st sk re fe ag : Bool) (p1 p2 : Option Addr) (pn1 pc1 pn2 pc2 : Nat) (pp : Int) (u : World) : Prop := RuAt u w.heap.size p s c l st sk re fe ag ∧ PoAt u (w.heap.size + 1) p1 p2 pn1 pc1 pn2 pc2 pp ∧ Below w.heap.size w u
section
variable {w u v : World} {p s c l : Int} {st sk re fe ag : Bool} {p1 p2 : Option Addr} {pn1 pc1 pn2 pc2 : Nat} {pp : Int}
theorem RpAt.below (h : RpAt w p s c l st sk re fe ag p1 p2 pn1 pc1 pn2 pc2 pp u) (k : Below u.heap.size u v) : RpAt w p s c l st sk re fe ag p1 p2 pn1 pc1 pn2 pc2 pp v := ⟨h.1.below k, h.2.1.below k, h.2.2.trans (k.mono h.2.2.size)⟩
theorem RpAt.drew (h : RpAt w p s c l st sk re fe ag p1 p2 pn1 pc1 pn2 pc2 pp u) : RpAt w p s c l st sk re fe ag p1 p2 pn1 pc1 pn2 pc2 pp u.drew := ⟨h.1, h.2.1, h.2.2.drew⟩
theorem RpAt.drewN (h : RpAt w p s c l st sk re fe ag p1 p2 pn1 pc1 pn2 pc2 pp u) (m : Nat) : RpAt w p s c l st sk re fe ag p1 p2 pn1 pc1 pn2 pc2 pp (u.drewN m) := h.below (below_dn (Below.refl _ _) m)
end
theorem rp_new (p s c l : Int) (st sk re fe ag : Bool) (p1 p2 : Option Addr) (pn1 pc1 pn2 pc2 : Nat) (pp : Int) (w : World) (T U : TypeId) : RpAt w p s c l st sk re fe ag p1 p2 pn1 pc1 pn2 pc2 pp ((w.alloc (.cells #[.int .i64 p, .int .i64 s, .bool st, .bool sk, .bool re, .bool fe, .bool ag, .int .i64 c, .int .i64 l] T)).alloc (.cells #[.slice p1 pn1 pc1, .slice p2 pn2 pc2, .int .i64 pp] U)) :=
  ⟨(ru_new p s c l st sk re fe ag w T).below ((Below.refl _ _).alloc (Nat.le_refl _) _), by have := po_new p1 p2 pn1 pc1 pn2 pc2 pp (w.alloc (.cells #[.int .i64 p, .int .i64 s, .bool st, .bool sk, .bool re, .bool fe, .bool ag, .int .i64 c, .int .i64 l] T)) U; simpa using this, ((Below.refl _ _).alloc (Nat.le_refl _) _).alloc (by simp) _⟩
end Go.Proofs.Ytgogjjkecbgbiaa
