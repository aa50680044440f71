/- A position of its own, and the view of the player to move: the reference's and the program's. No conditions. -/
import Derived.Test.YtgogjjkecbgbiaaITurn4
namespace Go.Proofs.Ytgogjjkecbgbiaa
open Go.Joins Go.ChangeShapes Go.WideShapes Go.ChangeAt Go.RowKit Go.Deep
set_option linter.unusedVariables false

/-- Nothing of w is turned. -/
def OnW (w u : World) : Prop := Below w.heap.size w u
theorem OnW.below {w u v : World} (h : OnW w u) (k : Below u.heap.size u v) : OnW w v := Below.trans h (k.mono (Below.size h))
theorem OnW.drew {w u : World} (h : OnW w u) : OnW w u.drew := Below.drew h
theorem OnW.set3 {w u : World} {z : Nat} (h : OnW w u) (hz : w.heap.size ≤ z) (x y t : Value) : OnW w (((u.setCell ⟨z, 0, none⟩ x).setCell ⟨z, 1, none⟩ y).setCell ⟨z, 2, none⟩ t) :=
  Below.setCell (Below.setCell (Below.setCell h (p := ⟨z, 0, none⟩) hz _) (p := ⟨z, 1, none⟩) hz _) (p := ⟨z, 2, none⟩) hz _
theorem OutN.drew {w : World} {B b : Nat} {a : Option Addr} {xs : List Int} (h : OutN w B a b xs) : OutN w.drew B a b xs := h.below (Below.refl _ _).drew
theorem PoAt.drew {u : World} {d : Nat} {p1 p2 : Option Addr} {pn1 pc1 pn2 pc2 : Nat} {pp : Int} (h : PoAt u d p1 p2 pn1 pc1 pn2 pc2 pp) : PoAt u.drew d p1 p2 pn1 pc1 pn2 pc2 pp := h
theorem PoAt.set3 {u : World} {d z : Nat} {p1 p2 : Option Addr} {pn1 pc1 pn2 pc2 : Nat} {pp : Int} (h : PoAt u d p1 p2 pn1 pc1 pn2 pc2 pp) (hz : d ≠ z) (x y t : Value) : PoAt (((u.setCell ⟨z, 0, none⟩ x).setCell ⟨z, 1, none⟩ y).setCell ⟨z, 2, none⟩ t) d p1 p2 pn1 pc1 pn2 pc2 pp :=
  h.but ((((But.refl z u).setCell (p := ⟨z, 0, none⟩) rfl x).setCell (p := ⟨z, 1, none⟩) rfl y).setCell (p := ⟨z, 2, none⟩) rfl t) hz

set_option maxHeartbeats 4000000 in
set_option maxRecDepth 100000 in
theorem copy_any (p1 p2 : Option Addr) (pn1 pc1 pn2 pc2 : Nat) (pp : Int) (xs ys : List Int) (w : World) (h : PosR w p1 p2 pn1 pn2 xs ys) (hne1 : xs ≠ []) (hne2 : ys ≠ []) :
    Calls Try.prog 40 #[.agg #[.slice p1 pn1 pc1, .slice p2 pn2 pc2, .int .i64 pp]] w (PosQ pn1 pn2 pp xs ys w) := by
  have H := Lib.hid h
  have HN1 := Lib.hid hne1
  have HN2 := Lib.hid hne2
  have hle1 : pn1 ≤ 1000000000000 := by have := h.r1.1; rwa [h.l1] at this
  have hle2 : pn2 ≤ 1000000000000 := by have := h.r2.1; rwa [h.l2] at this
  have HP := Lib.hid ((po_new p1 p2 pn1 pc1 pn2 pc2 pp w 28).below (al1 _ (.cells #[.slice none 0 0, .slice none 0 0, .int .i64 0] 28)));have HB := Lib.hid (show OnW w _ from al2 w (.cells #[.slice p1 pn1 pc1, .slice p2 pn2 pc2, .int .i64 pp] 28) (.cells #[.slice none 0 0, .slice none 0 0, .int .i64 0] 28));have HZ := Lib.hid (by have h := zero_new (w.alloc (.cells #[.slice p1 pn1 pc1, .slice p2 pn2 pc2, .int .i64 pp] 28)) 28; rwa [show (w.alloc (.cells #[.slice p1 pn1 pc1, .slice p2 pn2 pc2, .int .i64 pp] 28)).heap.size = w.heap.size + 1 by simp] at h : ZeroP _ (w.heap.size + 1));have hdz : w.heap.size ≠ w.heap.size + 1 := (by omega)
  have HT : Hid (∀ u : World, PoAt u (w.heap.size) p1 p2 pn1 pc1 pn2 pc2 pp → OnW w u → (w.heap.size < u.heap.size ∧ u.cell? ⟨w.heap.size, 0, none⟩ = some (.slice p1 pn1 pc1) ∧ u.cell? ⟨w.heap.size, 1, none⟩ = some (.slice p2 pn2 pc2) ∧ u.cell? ⟨w.heap.size, 2, none⟩ = some (.int .i64 pp)) ∧ Below w.heap.size w u) := Lib.hid (fun u h k => ⟨h, k⟩)
  clear h hne1 hne2
  go_enter Try.func40, Try.ntmps40
  go_wp2_with fail
  go_region_held3 (fun u => (w.heap.size < u.heap.size ∧ u.cell? ⟨w.heap.size, 0, none⟩ = some (.slice p1 pn1 pc1) ∧ u.cell? ⟨w.heap.size, 1, none⟩ = some (.slice p2 pn2 pc2) ∧ u.cell? ⟨w.heap.size, 2, none⟩ = some (.int .i64 pp)) ∧ Below w.heap.size w u) (first | exact HT.out _ HP.out HB.out | exact HT.out _ HP.out.drew HB.out.drew | exact HT.out _ (HP.out.set3 hdz _ _ _) (HB.out.set3 (by omega) _ _ _))
    (first
    | (go_at_call 53; (with_reducible refine (clone_any p1 pc1 pn1 xs _ H.out.l1 ?_ HN1.out).mono ?_); (first | exact H.out.r1.below HB.out | exact H.out.r1.below HB.out.drew); rintro e w5 ⟨v1, rfl, hown, hb5⟩; (obtain ⟨c5, b5, rfl, o5, hlt5, hc5⟩ := outN_own hown H.out.l1 hle1 HN1.out); have O1 := Lib.hid o5; have nb1 := o5.new; have nz1 := HZ.out.lt; (first | have HP := Lib.hid (HP.out.below hb5) | have HP := Lib.hid (HP.out.drew.below hb5) | have HP := Lib.hid ((HP.out.below (al1 _ _)).below hb5) | have HP := Lib.hid ((HP.out.below (al1 _ _)).drew.below hb5)); (first | have HB := Lib.hid (HB.out.below hb5) | have HB := Lib.hid (HB.out.drew.below hb5) | have HB := Lib.hid ((HB.out.below (al1 _ _)).below hb5) | have HB := Lib.hid ((HB.out.below (al1 _ _)).drew.below hb5)); (first | have HZ := Lib.hid (HZ.out.below hb5) | have HZ := Lib.hid (HZ.out.drew.below hb5) | have HZ := Lib.hid ((HZ.out.below (al1 _ _)).below hb5) | have HZ := Lib.hid ((HZ.out.below (al1 _ _)).drew.below hb5)); clear hown hb5 o5)
    | (go_at_call 53; (with_reducible refine (clone_any p2 pc2 pn2 ys _ H.out.l2 ?_ HN2.out).mono ?_); (first | exact H.out.r2.below HB.out | exact H.out.r2.below HB.out.drew); rintro e w6 ⟨v2, rfl, hown, hb6⟩; (obtain ⟨c6, b6, rfl, o6, hlt6, hc6⟩ := outN_own hown H.out.l2 hle2 HN2.out); have O2 := Lib.hid o6; have nb2 := o6.new; have nz2 := HZ.out.lt; (first | have HP := Lib.hid (HP.out.below hb6) | have HP := Lib.hid (HP.out.drew.below hb6) | have HP := Lib.hid ((HP.out.below (al1 _ _)).below hb6) | have HP := Lib.hid ((HP.out.below (al1 _ _)).drew.below hb6)); (first | have HB := Lib.hid (HB.out.below hb6) | have HB := Lib.hid (HB.out.drew.below hb6) | have HB := Lib.hid ((HB.out.below (al1 _ _)).below hb6) | have HB := Lib.hid ((HB.out.below (al1 _ _)).drew.below hb6)); (first | have HZ := Lib.hid (HZ.out.below hb6) | have HZ := Lib.hid (HZ.out.drew.below hb6) | have HZ := Lib.hid ((HZ.out.below (al1 _ _)).below hb6) | have HZ := Lib.hid ((HZ.out.below (al1 _ _)).drew.below hb6)); (first | have O1 := Lib.hid (O1.out.below hb6) | have O1 := Lib.hid (O1.out.drew.below hb6) | have O1 := Lib.hid ((O1.out.below (al1 _ _)).below hb6) | have O1 := Lib.hid ((O1.out.below (al1 _ _)).drew.below hb6)); (obtain ⟨zl, z0, z1, z2, zf⟩ := HZ.out); have f0 := zf 0; have f1 := zf 1; have f2 := zf 2; clear hown hb6 o6 zf))
  have nb3 : (w.heap.size + 1) + 1 ≤ b5 := by
    have hh := nb1
    simp at hh
    omega
  have m5 : b5 ≠ w.heap.size + 1 := by omega
  have m6 : b6 ≠ w.heap.size + 1 := by omega
  have hs5 := HB.out.size
  go_wp2_with fail
  refine bodyPost_ret (v := .agg #[.slice (some ⟨b5, 0, none⟩) pn1 c5, .slice (some ⟨b6, 0, none⟩) pn2 c6, .int .i64 pp]) (by simp [results, Try.results40, go_sem, z0, z1, z2]) rfl ⟨b5, c5, b6, c6, rfl, ⟨(((O1.out.setCell m5 _).setCell m5 _).setCell m5 _).lower (by first | (simp; done) | (simp; omega)), (((O2.out.setCell m6 _).setCell m6 _).setCell m6 _).lower (by first | omega | (simp; omega)), by omega, H.out.l1, H.out.l2⟩, by simp; omega, by simp; omega, hc5, hc6, HB.out.set3 (by omega) _ _ _⟩
end Go.Proofs.Ytgogjjkecbgbiaa
