/- IsWhole of the reference and of the program. No conditions. -/
import Derived.Test.YtkpmocjghpeppaaSpec4
import Derived.Test.YtkpmocjghpeppaaValid4
import Derived.Test.YtkpmocjghpeppaaTotal
import Derived.IntWalk
namespace Go.Proofs.Ytkpmocjghpeppaa
open Go.Joins Go.ChangeShapes Go.WideShapes Go.ChangeAt Go.RowKit Go.Deep
set_option linter.unusedVariables false

/-- A position has all seeds. -/
def wholeB (k : Bool) (a b : Int) : Bool := k && (a == b)
set_option maxHeartbeats 2000000 in
theorem specWhole_any (p s c l : Int) (st sk re fe ag : Bool) (p1 p2 : Option Addr) (pn1 pc1 pn2 pc2 : Nat) (pp : Int) (xs ys : List Int) (w : World) (h : PosR w p1 p2 pn1 pn2 xs ys) (k : Bool) (hk : okP (okR p s c l st ag) p pn1 pn2 pp xs ys = k) :
    Calls Try.prog 29 #[.agg #[.int .i64 p, .int .i64 s, .bool st, .bool sk, .bool re, .bool fe, .bool ag, .int .i64 c, .int .i64 l], .agg #[.slice p1 pn1 pc1, .slice p2 pn2 pc2, .int .i64 pp]] w fun e w' => e = .returned (.bool (wholeB k (tot xs + tot ys) (2 * p * s))) ∧ Below w.heap.size w w' := by
  have H := Lib.hid h
  have HS := Lib.hid (rp_new p s c l st sk re fe ag p1 p2 pn1 pc1 pn2 pc2 pp w 25 39)
  have Hk := Lib.hid hk
  clear h hk
  cases k
  · go_enter Try.func29, Try.ntmps29
    go_wp2_with fail
    apply region_class (RpAt w p s c l st sk re fe ag p1 p2 pn1 pc1 pn2 pc2 pp) (by kernel_rfl) (by kernel_rfl) (HS.out.drew)
    repeat (first
      | (apply step_skip (by rfl)
         simp only [Act.put, List.setIfInBounds_toArray, List.set_cons_zero, List.set_cons_succ])
      | (apply step_val (by rfl)
         · intro u hu
           obtain ⟨⟨_, r0, r1, r2, r3, r4, r5, r6, r7, r8⟩, ⟨_, g0, g1, g2⟩, _⟩ := hu
           go_simp
           try with_reducible rfl
         simp only [Act.put, List.setIfInBounds_toArray, List.set_cons_zero, List.set_cons_succ])
      | (apply step_call (by rfl)
         · intro u
           go_simp
           exact ⟨rfl, rfl⟩
         · intro u hu
           have ⟨hu1, hu2, hu3⟩ := hu; have hu4 := H.out.below hu3; (with_reducible refine (l04Ok_at p s c l st sk re fe ag p1 p2 pn1 pc1 pn2 pc2 pp xs ys _ _ _ hu1 hu2 hu4 _ Hk.out).mono ?_); (rintro e u' ⟨rfl, m, rfl⟩; exact ⟨rfl, hu.drewN m⟩)
         simp only [Act.put, List.setIfInBounds_toArray, List.set_cons_zero, List.set_cons_succ]))
    apply step_nil
    intro w5 hs5
    have HS5 := Lib.hid hs5
    clear hs5
    go_wp2_with fail
    go_ret
    exact ⟨rfl, HS5.out.2.2⟩
  · obtain ⟨hok, -, -, -, hs⟩ := okP_parts Hk.out
    obtain ⟨h1, h2, h3⟩ := seedB_parts hs
    have h4 := posB_tot h1
    have h5 := posB_tot h2
    have hbd := okR_bd hok
    have Hxs := Lib.hid (sumC_yes (inB_of_pos h1 (by omega)) (by omega))
    have Hys := Lib.hid (sumC_yes (inB_of_pos h2 (by omega)) (by omega))
    have hm1 : 0 ≤ p * s := Int.mul_nonneg (by omega) (by omega)
    have hm2 : p * s ≤ 8 * 6 := Int.mul_le_mul hbd.2.1 hbd.2.2.2.1 (by omega) (by omega)
    have w1 : IntKind.i64.wrap (2 * p * s) = 2 * p * s := by
      rw [Int.mul_assoc]
      exact IntWalk.i64_in _ ⟨by omega, by omega⟩
    have w2 : IntKind.i64.wrap (2 * p) = 2 * p := IntWalk.i64_in _ ⟨by omega, by omega⟩
    generalize hA : tot xs = A at *
    generalize hB : tot ys = B at *
    have w3 : IntKind.i64.wrap (A + B) = A + B := IntWalk.i64_in _ ⟨by omega, by omega⟩
    clear hok hs h1 h2 h3 h4 h5 hbd hm1 hm2 hA hB
    go_enter Try.func29, Try.ntmps29
    go_wp2_with fail
    apply region_class (RpAt w p s c l st sk re fe ag p1 p2 pn1 pc1 pn2 pc2 pp) (by kernel_rfl) (by kernel_rfl) (HS.out.drew)
    repeat (first
      | (apply step_skip (by rfl)
         simp only [Act.put, List.setIfInBounds_toArray, List.set_cons_zero, List.set_cons_succ])
      | (apply step_val (by rfl)
         · intro u hu
           obtain ⟨⟨_, r0, r1, r2, r3, r4, r5, r6, r7, r8⟩, ⟨_, g0, g1, g2⟩, _⟩ := hu
           go_simp
           try with_reducible rfl
         simp only [Act.put, List.setIfInBounds_toArray, List.set_cons_zero, List.set_cons_succ])
      | (apply step_call (by rfl)
         · intro u
           go_simp
           exact ⟨rfl, rfl⟩
         · intro u hu
           have ⟨hu1, hu2, hu3⟩ := hu; have hu4 := H.out.below hu3; (with_reducible refine (l04Ok_at p s c l st sk re fe ag p1 p2 pn1 pc1 pn2 pc2 pp xs ys _ _ _ hu1 hu2 hu4 _ Hk.out).mono ?_); (rintro e u' ⟨rfl, m, rfl⟩; exact ⟨rfl, hu.drewN m⟩)
         simp only [Act.put, List.setIfInBounds_toArray, List.set_cons_zero, List.set_cons_succ])
      | (apply step_call (by rfl)
         · intro u
           go_simp
           exact ⟨rfl, rfl⟩
         · intro u hu
           have ⟨hu1, hu2, hu3⟩ := hu; have hu4 := (H.out.below hu3).r1; have hu5 := H.out.l1; (with_reducible refine (l04Sum_any p1 pc1 pn1 xs _ hu5 hu4).mono ?_); (rintro e u' ⟨rfl, rfl⟩; rw [Hxs.out]; exact ⟨rfl, hu⟩)
         simp only [Act.put, List.setIfInBounds_toArray, List.set_cons_zero, List.set_cons_succ])
      | (apply step_call (by rfl)
         · intro u
           go_simp
           exact ⟨rfl, rfl⟩
         · intro u hu
           have ⟨hu1, hu2, hu3⟩ := hu; have hu4 := (H.out.below hu3).r2; have hu5 := H.out.l2; (with_reducible refine (l04Sum_any p2 pc2 pn2 ys _ hu5 hu4).mono ?_); (rintro e u' ⟨rfl, rfl⟩; rw [Hys.out]; exact ⟨rfl, hu⟩)
         simp only [Act.put, List.setIfInBounds_toArray, List.set_cons_zero, List.set_cons_succ]))
    apply step_nil
    intro w5 hs5
    have HS5 := Lib.hid hs5
    clear hs5
    go_wp2_with fail
    go_ret
    exact ⟨rfl, HS5.out.2.2⟩
end Go.Proofs.Ytkpmocjghpeppaa
