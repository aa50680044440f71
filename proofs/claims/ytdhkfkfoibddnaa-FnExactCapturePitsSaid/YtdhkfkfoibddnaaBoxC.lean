/- Rules and sown seeds that lie in memory. No conditions. -/
import Derived.Test.YtdhkfkfoibddnaaBox4
import Derived.Test.YtdhkfkfoibddnaaBoxS
import Derived.Deep.RegionHeld3
namespace Go.Proofs.Ytdhkfkfoibddnaa
open Go.Joins Go.ChangeShapes Go.WideShapes Go.ChangeAt Go.RowKit Go.Deep
set_option linter.unusedVariables false

/-- Rules and sown seeds, boxed one after the other. -/
def RsAt (w : World) (p s c l : Int) (st sk re fe ag : Bool) (p1 p2 : Option Addr) (pn1 pc1 pn2 pc2 : Nat) (pp pq : Int) (u : World) : Prop := RuAt u w.heap.size p s c l st sk re fe ag ∧ SoAt u (w.heap.size + 1) p1 p2 pn1 pc1 pn2 pc2 pp pq ∧ Below w.heap.size w u
section
variable {w u v : World} {p s c l : Int} {st sk re fe ag : Bool} {p1 p2 : Option Addr} {pn1 pc1 pn2 pc2 : Nat} {pp pq : Int}
theorem RsAt.below (h : RsAt w p s c l st sk re fe ag p1 p2 pn1 pc1 pn2 pc2 pp pq u) (k : Below u.heap.size u v) : RsAt w p s c l st sk re fe ag p1 p2 pn1 pc1 pn2 pc2 pp pq v := ⟨h.1.below k, h.2.1.below k, h.2.2.trans (k.mono h.2.2.size)⟩
theorem RsAt.drew (h : RsAt w p s c l st sk re fe ag p1 p2 pn1 pc1 pn2 pc2 pp pq u) : RsAt w p s c l st sk re fe ag p1 p2 pn1 pc1 pn2 pc2 pp pq u.drew := ⟨h.1, h.2.1, h.2.2.drew⟩
theorem RsAt.drewN (h : RsAt w p s c l st sk re fe ag p1 p2 pn1 pc1 pn2 pc2 pp pq u) (m : Nat) : RsAt w p s c l st sk re fe ag p1 p2 pn1 pc1 pn2 pc2 pp pq (u.drewN m) := h.below (below_dn (Below.refl _ _) m)
end
theorem rs_new (p s c l : Int) (st sk re fe ag : Bool) (p1 p2 : Option Addr) (pn1 pc1 pn2 pc2 : Nat) (pp pq : Int) (w : World) (T U : TypeId) : RsAt w p s c l st sk re fe ag p1 p2 pn1 pc1 pn2 pc2 pp pq ((w.alloc (.cells #[.int .i64 p, .int .i64 s, .bool st, .bool sk, .bool re, .bool fe, .bool ag, .int .i64 c, .int .i64 l] T)).alloc (.cells #[.slice p1 pn1 pc1, .slice p2 pn2 pc2, .int .i64 pp, .int .i64 pq] U)) :=
  ⟨(ru_new p s c l st sk re fe ag w T).below ((Below.refl _ _).alloc (Nat.le_refl _) _), by have := so_new p1 p2 pn1 pc1 pn2 pc2 pp pq (w.alloc (.cells #[.int .i64 p, .int .i64 s, .bool st, .bool sk, .bool re, .bool fe, .bool ag, .int .i64 c, .int .i64 l] T)) U; simpa using this, ((Below.refl _ _).alloc (Nat.le_refl _) _).alloc (by simp) _⟩
/-- Rules, sown seeds and the copy of sown seeds, boxed. -/
def RsxAt (w : World) (p s c l : Int) (st sk re fe ag : Bool) (p1 p2 : Option Addr) (pn1 pc1 pn2 pc2 : Nat) (pp pq : Int) (xs ys : List Int) (d : Nat) (x1 x2 : Option Addr) (xn1 xc1 xn2 xc2 : Nat) (xp xq : Int) (u : World) : Prop := RuAt u w.heap.size p s c l st sk re fe ag ∧ SoAt u (w.heap.size + 1) p1 p2 pn1 pc1 pn2 pc2 pp pq ∧ SoAt u d x1 x2 xn1 xc1 xn2 xc2 xp xq ∧ PosR u x1 x2 xn1 xn2 xs ys ∧ Below w.heap.size w u
section
variable {w u v : World} {p s c l : Int} {st sk re fe ag : Bool} {p1 p2 : Option Addr} {pn1 pc1 pn2 pc2 : Nat} {pp pq : Int} {d : Nat} {x1 x2 : Option Addr} {xn1 xc1 xn2 xc2 : Nat} {xp xq : Int} {xs ys : List Int}
theorem RsxAt.below (h : RsxAt w p s c l st sk re fe ag p1 p2 pn1 pc1 pn2 pc2 pp pq xs ys d x1 x2 xn1 xc1 xn2 xc2 xp xq u) (k : Below u.heap.size u v) : RsxAt w p s c l st sk re fe ag p1 p2 pn1 pc1 pn2 pc2 pp pq xs ys d x1 x2 xn1 xc1 xn2 xc2 xp xq v := ⟨h.1.below k, h.2.1.below k, h.2.2.1.below k, h.2.2.2.1.below k, h.2.2.2.2.trans (k.mono h.2.2.2.2.size)⟩
theorem RsxAt.drew (h : RsxAt w p s c l st sk re fe ag p1 p2 pn1 pc1 pn2 pc2 pp pq xs ys d x1 x2 xn1 xc1 xn2 xc2 xp xq u) : RsxAt w p s c l st sk re fe ag p1 p2 pn1 pc1 pn2 pc2 pp pq xs ys d x1 x2 xn1 xc1 xn2 xc2 xp xq u.drew := ⟨h.1, h.2.1, h.2.2.1, h.2.2.2.1.drewN 1, h.2.2.2.2.drew⟩
end

theorem rsx_new {w u : World} (p s c l : Int) (st sk re fe ag : Bool) (p1 p2 : Option Addr) (pn1 pc1 pn2 pc2 : Nat) (pp pq : Int) (xs ys : List Int) (x1 x2 : Option Addr) (xn1 xc1 xn2 xc2 : Nat) (xp xq : Int) (T : TypeId) (h : RsAt w p s c l st sk re fe ag p1 p2 pn1 pc1 pn2 pc2 pp pq u) (o : PosR u x1 x2 xn1 xn2 xs ys) : RsxAt w p s c l st sk re fe ag p1 p2 pn1 pc1 pn2 pc2 pp pq xs ys u.heap.size x1 x2 xn1 xc1 xn2 xc2 xp xq (u.alloc (.cells #[.slice x1 xn1 xc1, .slice x2 xn2 xc2, .int .i64 xp, .int .i64 xq] T)) :=
  have hb : Below u.heap.size u (u.alloc (.cells #[.slice x1 xn1 xc1, .slice x2 xn2 xc2, .int .i64 xp, .int .i64 xq] T)) := (Below.refl _ _).alloc (Nat.le_refl _) _
  ⟨h.1.below hb, h.2.1.below hb, so_new x1 x2 xn1 xc1 xn2 xc2 xp xq u T, o.alloc _, h.2.2.trans (hb.mono h.2.2.size)⟩
end Go.Proofs.Ytdhkfkfoibddnaa
