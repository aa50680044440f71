/- ValidPosition of the reference. No conditions. -/
import Derived.Test.YtkpmocjghpeppaaBox4
import Derived.Test.YtkpmocjghpeppaaOk4
namespace Go.Proofs.Ytkpmocjghpeppaa
open Go.Joins Go.ChangeShapes Go.WideShapes Go.ChangeAt Go.RowKit Go.Deep
set_option linter.unusedVariables false

theorem l04Ok_at (p s c l : Int) (st sk re fe ag : Bool) (p1 p2 : Option Addr) (pn1 pc1 pn2 pc2 : Nat) (pp : Int) (xs ys : List Int) (b d : Nat) (w : World) (hr : RuAt w b p s c l st sk re fe ag) (hp : PoAt w d p1 p2 pn1 pc1 pn2 pc2 pp) (h : PosR w p1 p2 pn1 pn2 xs ys) (k : Bool) (hk : okP (okR p s c l st ag) p pn1 pn2 pp xs ys = k) :
    Calls Try.prog 61 #[.pointer (some ⟨b, 0, none⟩), .pointer (some ⟨d, 0, none⟩)] w (Still (.bool k) w) := by
  obtain ⟨_, r0, r1, r2, r3, r4, r5, r6, r7, r8⟩ := hr
  obtain ⟨_, g0, g1, g2⟩ := hp
  rw [← hk]
  exact l04Ok_any p s c l st sk re fe ag p1 p2 pn1 pc1 pn2 pc2 pp xs ys b d w r0 r1 r2 r3 r4 r5 r6 r7 r8 g0 g1 g2 h
theorem specValid_any (p s c l : Int) (st sk re fe ag : Bool) (p1 p2 : Option Addr) (pn1 pc1 pn2 pc2 : Nat) (pp : Int) (xs ys : List Int) (w : World) (h : PosR w p1 p2 pn1 pn2 xs ys) :
    Calls Try.prog 36 #[.agg #[.int .i64 p, .int .i64 s, .bool st, .bool sk, .bool re, .bool fe, .bool ag, .int .i64 c, .int .i64 l], .agg #[.slice p1 pn1 pc1, .slice p2 pn2 pc2, .int .i64 pp]] w fun e w' => e = .returned (.bool (okP (okR p s c l st ag) p pn1 pn2 pp xs ys)) ∧ Below w.heap.size w w' := by
  have H := Lib.hid h
  have HS := Lib.hid (rp_new p s c l st sk re fe ag p1 p2 pn1 pc1 pn2 pc2 pp w 25 39)
  clear h
  generalize hk : okP (okR p s c l st ag) p pn1 pn2 pp xs ys = k
  have Hk := Lib.hid hk
  clear hk
  go_enter Try.func36, Try.ntmps36
  go_wp2_with fail
  refine (l04Ok_at p s c l st sk re fe ag p1 p2 pn1 pc1 pn2 pc2 pp xs ys _ _ _ HS.out.1 HS.out.2.1 (H.out.below HS.out.2.2) k Hk.out).mono ?_
  rintro e u ⟨rfl, m, rfl⟩
  have HB := Lib.hid (HS.out.drewN m).2.2
  go_wp2_with fail
  go_ret
  exact ⟨rfl, HB.out⟩
theorem specValid_b (p s c l : Int) (st sk re fe ag : Bool) (p1 p2 : Option Addr) (pn1 pc1 pn2 pc2 : Nat) (pp : Int) (xs ys : List Int) (w : World) (h : PosR w p1 p2 pn1 pn2 xs ys) (k : Bool) (hk : okP (okR p s c l st ag) p pn1 pn2 pp xs ys = k) :
    Calls Try.prog 36 #[.agg #[.int .i64 p, .int .i64 s, .bool st, .bool sk, .bool re, .bool fe, .bool ag, .int .i64 c, .int .i64 l], .agg #[.slice p1 pn1 pc1, .slice p2 pn2 pc2, .int .i64 pp]] w fun e w' => e = .returned (.bool k) ∧ Below w.heap.size w w' := by
  rw [← hk]
  exact specValid_any p s c l st sk re fe ag p1 p2 pn1 pc1 pn2 pc2 pp xs ys w h
end Go.Proofs.Ytkpmocjghpeppaa
