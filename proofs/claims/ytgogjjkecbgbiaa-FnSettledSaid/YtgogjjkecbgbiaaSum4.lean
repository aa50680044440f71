/- Sums over the pits: the program's and the reference's. No conditions. -/
import Derived.Test.YtgogjjkecbgbiaaSpec4
import Derived.Test.YtgogjjkecbgbiaaValid4
import Derived.Test.YtgogjjkecbgbiaaSumO
namespace Go.Proofs.Ytgogjjkecbgbiaa
open Go.Joins Go.ChangeShapes Go.WideShapes Go.ChangeAt Go.RowKit Go.Deep
set_option linter.unusedVariables false


/-- The seeds in all pits. -/
def onV (k : Bool) (t : Int) : Int := if k then t else 0
def onC (k : Bool) : Int := if k then 0 else 1
theorem implOn_any (p s c l : Int) (st sk re fe ag : Bool) (p1 p2 : Option Addr) (pn1 pc1 pn2 pc2 : Nat) (pp : Int) (xs ys : List Int) (w : World) (h : PosR w p1 p2 pn1 pn2 xs ys) (k : Bool) (hk : okP (okR p s c l st ag) p pn1 pn2 pp xs ys = k) :
    Calls Try.prog 17 #[.agg #[.int .i64 p, .int .i64 s, .bool st, .bool sk, .bool re, .bool fe, .bool ag, .int .i64 c, .int .i64 l], .agg #[.slice p1 pn1 pc1, .slice p2 pn2 pc2, .int .i64 pp]] w fun e w' => e = .returned (.tuple #[.int .i64 (onV k (tot xs)), .int .i64 (onC k)]) ∧ Below w.heap.size w w' := by
  have H := Lib.hid h
  have HS := Lib.hid (rp_new p s c l st sk re fe ag p1 p2 pn1 pc1 pn2 pc2 pp w 25 28)
  have Hk := Lib.hid hk
  clear h hk
  cases k
  · go_enter Try.func17, Try.ntmps17
    go_wp2_with fail
    refine (implValid_any p s c l st sk re fe ag p1 p2 pn1 pc1 pn2 pc2 pp xs ys _ (H.out.below HS.out.2.2)).mono ?_
    rintro e u ⟨rfl, hb⟩
    rw [Hk.out]
    have HB := Lib.hid (HS.out.below hb).2.2
    clear hb
    go_wp2_with fail
    go_ret2
    exact ⟨rfl, HB.out⟩
  · obtain ⟨-, -, -, -, hs⟩ := okP_parts Hk.out
    obtain ⟨h1, h2, h3⟩ := seedB_parts hs
    have h4 := posB_tot h2
    have H1 := Lib.hid h1
    have H3 : Hid (tot xs ≤ 96) := Lib.hid (by omega)
    clear hs h1 h2 h3 h4
    go_enter Try.func17, Try.ntmps17
    go_wp2_with fail
    refine (implValid_any p s c l st sk re fe ag p1 p2 pn1 pc1 pn2 pc2 pp xs ys _ (H.out.below HS.out.2.2)).mono ?_
    rintro e u ⟨rfl, hb⟩
    rw [Hk.out]
    have HSu := Lib.hid (HS.out.below hb)
    clear hb
    obtain ⟨_, ⟨_, g0, g1, g2⟩, hb⟩ := HSu.out
    have HB := Lib.hid hb
    have HR := Lib.hid (H.out.below hb)
    clear hb
    go_wp2_with fail
    refine (sumOf_any p1 pc1 pn1 xs _ HR.out.l1 HR.out.r1 H1.out H3.out).mono ?_
    rintro e u ⟨rfl, rfl⟩
    go_wp2_with fail
    go_ret2
    exact ⟨rfl, HB.out⟩
end Go.Proofs.Ytgogjjkecbgbiaa
