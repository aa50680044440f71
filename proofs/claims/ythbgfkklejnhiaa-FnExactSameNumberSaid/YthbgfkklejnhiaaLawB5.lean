/- Two positions and their copies, as the laws box them. No conditions. -/
import Derived.Test.YthbgfkklejnhiaaOpenP
import Derived.Test.YthbgfkklejnhiaaCmp4
import Derived.Deep.RegionHeld3
namespace Go.Proofs.Ythbgfkklejnhiaa
open Go.Joins Go.ChangeShapes Go.WideShapes Go.ChangeAt Go.RowKit Go.Deep
set_option linter.unusedVariables false

def P4At (w : World) (p1 p2 : Option Addr) (pn1 pc1 pn2 pc2 : Nat) (pp : Int) (x1 x2 : Option Addr) (xn1 xc1 xn2 xc2 : Nat) (xp : Int) (d : Nat) (y1 y2 : Option Addr) (yn1 yc1 yn2 yc2 : Nat) (yp : Int) (f : Nat) (z1 z2 : Option Addr) (zn1 zc1 zn2 zc2 : Nat) (zp : Int) (xs ys us vs : List Int) (u : World) : Prop := PpAt w p1 p2 pn1 pc1 pn2 pc2 pp x1 x2 xn1 xc1 xn2 xc2 xp u ∧ PoAt u d y1 y2 yn1 yc1 yn2 yc2 yp ∧ PoAt u f z1 z2 zn1 zc1 zn2 zc2 zp ∧ PosR u y1 y2 yn1 yn2 xs ys ∧ PosR u z1 z2 zn1 zn2 us vs
section
variable {w u v : World} {p1 p2 x1 x2 y1 y2 z1 z2 : Option Addr} {pn1 pc1 pn2 pc2 xn1 xc1 xn2 xc2 yn1 yc1 yn2 yc2 zn1 zc1 zn2 zc2 d f : Nat} {pp xp yp zp : Int} {xs ys us vs : List Int}
theorem P4At.below (h : P4At w p1 p2 pn1 pc1 pn2 pc2 pp x1 x2 xn1 xc1 xn2 xc2 xp d y1 y2 yn1 yc1 yn2 yc2 yp f z1 z2 zn1 zc1 zn2 zc2 zp xs ys us vs u) (k : Below u.heap.size u v) : P4At w p1 p2 pn1 pc1 pn2 pc2 pp x1 x2 xn1 xc1 xn2 xc2 xp d y1 y2 yn1 yc1 yn2 yc2 yp f z1 z2 zn1 zc1 zn2 zc2 zp xs ys us vs v := ⟨h.1.below k, h.2.1.below k, h.2.2.1.below k, h.2.2.2.1.below k, h.2.2.2.2.below k⟩
theorem P4At.drew (h : P4At w p1 p2 pn1 pc1 pn2 pc2 pp x1 x2 xn1 xc1 xn2 xc2 xp d y1 y2 yn1 yc1 yn2 yc2 yp f z1 z2 zn1 zc1 zn2 zc2 zp xs ys us vs u) : P4At w p1 p2 pn1 pc1 pn2 pc2 pp x1 x2 xn1 xc1 xn2 xc2 xp d y1 y2 yn1 yc1 yn2 yc2 yp f z1 z2 zn1 zc1 zn2 zc2 zp xs ys us vs u.drew := ⟨h.1.drew, h.2.1, h.2.2.1, h.2.2.2.1.drewN 1, h.2.2.2.2.drewN 1⟩
end
end Go.Proofs.Ythbgfkklejnhiaa
