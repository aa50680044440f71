/- Sums over the pits: the program's and the reference's. No conditions. -/
import Derived.Test.YthbgfkklejnhiaaSpec4
import Derived.Test.YthbgfkklejnhiaaValid4
import Derived.Test.YthbgfkklejnhiaaSumO
namespace Go.Proofs.Ythbgfkklejnhiaa
open Go.Joins Go.ChangeShapes Go.WideShapes Go.ChangeAt Go.RowKit Go.Deep
set_option linter.unusedVariables false


/-- The seeds in all pits. -/
def onV (k : Bool) (t : Int) : Int := if k then t else 0
def onC (k : Bool) : Int := if k then 0 else 1
theorem specOn_any (p s c l : Int) (st sk re fe ag : Bool) (p1 p2 : Option Addr) (pn1 pc1 pn2 pc2 : Nat) (pp : Int) (xs ys : List Int) (w : World) (h : PosR w p1 p2 pn1 pn2 xs ys) (k : Bool) (hk : okP (okR p s c l st ag) p pn1 pn2 pp xs ys = k) :
    Calls Try.prog 14 #[.agg #[.int .i64 p, .int .i64 s, .bool st, .bool sk, .bool re, .bool fe, .bool ag, .int .i64 c, .int .i64 l], .agg #[.slice p1 pn1 pc1, .slice p2 pn2 pc2, .int .i64 pp]] w fun e w' => e = .returned (.tuple #[.int .i64 (onV k (tot xs)), .int .i64 (onC k)]) ∧ Below w.heap.size w w' := by
  have H := Lib.hid h
  have HS := Lib.hid (rp_new p s c l st sk re fe ag p1 p2 pn1 pc1 pn2 pc2 pp w 25 28)
  have Hk := Lib.hid hk
  clear h hk
  cases k
  · go_enter Try.func14, Try.ntmps14
    go_wp2_with fail
    refine (l04Ok_at p s c l st sk re fe ag p1 p2 pn1 pc1 pn2 pc2 pp xs ys _ _ _ HS.out.1 HS.out.2.1 (H.out.below HS.out.2.2) _ Hk.out).mono ?_
    rintro e u ⟨rfl, m, rfl⟩
    have HB := Lib.hid (HS.out.drewN m).2.2
    go_wp2_with fail
    go_ret2
    exact ⟨rfl, HB.out⟩
  · obtain ⟨-, -, -, -, hs⟩ := okP_parts Hk.out
    obtain ⟨h1, h2, h3⟩ := seedB_parts hs
    have h4 := posB_tot h2
    have hsum : sumC xs = tot xs := sumC_yes (inB_of_pos h1 (by omega)) (by omega)
    have Hsum := Lib.hid hsum
    clear hs h1 h2 h3 h4 hsum
    go_enter Try.func14, Try.ntmps14
    go_wp2_with fail
    refine (l04Ok_at p s c l st sk re fe ag p1 p2 pn1 pc1 pn2 pc2 pp xs ys _ _ _ HS.out.1 HS.out.2.1 (H.out.below HS.out.2.2) _ Hk.out).mono ?_
    rintro e u ⟨rfl, m, rfl⟩
    have HB := Lib.hid (HS.out.drewN m).2.2
    have HR := Lib.hid (H.out.below HB.out)
    go_wp2_with fail
    refine (l04Sum_any p1 pc1 pn1 xs _ HR.out.l1 HR.out.r1).mono ?_
    rintro e u ⟨rfl, rfl⟩
    rw [Hsum.out]
    go_wp2_with fail
    go_ret2
    exact ⟨rfl, HB.out⟩
end Go.Proofs.Ythbgfkklejnhiaa
