/- ValidPosition of the reference. No conditions. -/
import Derived.Test.YtgogjjkecbgbiaaBox4
import Derived.Test.YtgogjjkecbgbiaaOk4
namespace Go.Proofs.Ytgogjjkecbgbiaa
open Go.Joins Go.ChangeShapes Go.WideShapes Go.ChangeAt Go.RowKit Go.Deep
set_option linter.unusedVariables false

theorem l04Ok_at (p s c l : Int) (st sk re fe ag : Bool) (p1 p2 : Option Addr) (pn1 pc1 pn2 pc2 : Nat) (pp : Int) (xs ys : List Int) (b d : Nat) (w : World) (hr : RuAt w b p s c l st sk re fe ag) (hp : PoAt w d p1 p2 pn1 pc1 pn2 pc2 pp) (h : PosR w p1 p2 pn1 pn2 xs ys) (k : Bool) (hk : okP (okR p s c l st ag) p pn1 pn2 pp xs ys = k) :
    Calls Try.prog 22 #[.pointer (some ⟨b, 0, none⟩), .pointer (some ⟨d, 0, none⟩)] w (Still (.bool k) w) := by
  obtain ⟨_, r0, r1, r2, r3, r4, r5, r6, r7, r8⟩ := hr
  obtain ⟨_, g0, g1, g2⟩ := hp
  rw [← hk]
  exact l04Ok_any p s c l st sk re fe ag p1 p2 pn1 pc1 pn2 pc2 pp xs ys b d w r0 r1 r2 r3 r4 r5 r6 r7 r8 g0 g1 g2 h
end Go.Proofs.Ytgogjjkecbgbiaa
