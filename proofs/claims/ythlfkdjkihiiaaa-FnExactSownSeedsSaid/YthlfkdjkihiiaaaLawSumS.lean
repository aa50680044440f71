/- The law on SownSeeds. No conditions. -/
import Derived.Test.YthlfkdjkihiiaaaSumS
namespace Go.Proofs.Ythlfkdjkihiiaaa
open Go.Joins Go.ChangeShapes Go.WideShapes Go.ChangeAt Go.RowKit Go.Deep
set_option linter.unusedVariables false

/-- Sown seeds, boxed. -/
def S1At (w : World) (p1 p2 : Option Addr) (pn1 pc1 pn2 pc2 : Nat) (pp pq : Int) (u : World) : Prop := SoAt u w.heap.size p1 p2 pn1 pc1 pn2 pc2 pp pq ∧ Below w.heap.size w u
/-- Sown seeds and a copy, boxed. -/
def S2At (w : World) (p1 p2 : Option Addr) (pn1 pc1 pn2 pc2 : Nat) (pp pq : Int) (D : Nat) (y1 y2 : Option Addr) (yn1 yc1 yn2 yc2 : Nat) (yp yq : Int) (xs ys : List Int) (u : World) : Prop := S1At w p1 p2 pn1 pc1 pn2 pc2 pp pq u ∧ SoAt u D y1 y2 yn1 yc1 yn2 yc2 yp yq ∧ PosR u y1 y2 yn1 yn2 xs ys
section
variable {w u v : World} {p1 p2 y1 y2 : Option Addr} {pn1 pc1 pn2 pc2 yn1 yc1 yn2 yc2 D : Nat} {pp pq yp yq : Int} {xs ys : List Int}
theorem S1At.below (h : S1At w p1 p2 pn1 pc1 pn2 pc2 pp pq u) (k : Below u.heap.size u v) : S1At w p1 p2 pn1 pc1 pn2 pc2 pp pq v := ⟨h.1.below k, h.2.trans (k.mono h.2.size)⟩
theorem S1At.drew (h : S1At w p1 p2 pn1 pc1 pn2 pc2 pp pq u) : S1At w p1 p2 pn1 pc1 pn2 pc2 pp pq u.drew := ⟨h.1, h.2.drew⟩
theorem S2At.below (h : S2At w p1 p2 pn1 pc1 pn2 pc2 pp pq D y1 y2 yn1 yc1 yn2 yc2 yp yq xs ys u) (k : Below u.heap.size u v) : S2At w p1 p2 pn1 pc1 pn2 pc2 pp pq D y1 y2 yn1 yc1 yn2 yc2 yp yq xs ys v := ⟨h.1.below k, h.2.1.below k, h.2.2.below k⟩
theorem S2At.drew (h : S2At w p1 p2 pn1 pc1 pn2 pc2 pp pq D y1 y2 yn1 yc1 yn2 yc2 yp yq xs ys u) : S2At w p1 p2 pn1 pc1 pn2 pc2 pp pq D y1 y2 yn1 yc1 yn2 yc2 yp yq xs ys u.drew := ⟨h.1.drew, h.2.1, h.2.2.drewN 1⟩
end
theorem s1_new (p1 p2 : Option Addr) (pn1 pc1 pn2 pc2 : Nat) (pp pq : Int) (w : World) (T : TypeId) : S1At w p1 p2 pn1 pc1 pn2 pc2 pp pq (w.alloc (.cells #[.slice p1 pn1 pc1, .slice p2 pn2 pc2, .int .i64 pp, .int .i64 pq] T)) := ⟨so_new p1 p2 pn1 pc1 pn2 pc2 pp pq w T, (Below.refl _ _).alloc (Nat.le_refl _) _⟩

set_option maxHeartbeats 4000000 in
set_option maxRecDepth 100000 in
theorem walk0_FnExactSownSeeds (p1 p2 : Option Addr) (pn1 pc1 pn2 pc2 : Nat) (pp pq : Int) (xs ys : List Int) (w : World) (h1 : PosW w p1 p2 pn1 pn2 xs ys) :
    Calls Try.prog 10 #[.agg #[.slice p1 pn1 pc1, .slice p2 pn2 pc2, .int .i64 pp, .int .i64 pq]] w fun e w' => e = .returned (.bool true) ∧ Below w.heap.size w w' := by
  have hb1 := h1.m1
  have hb2 := h1.m2
  have HS := Lib.hid (s1_new p1 p2 pn1 pc1 pn2 pc2 pp pq w 47)
  have W1 := Lib.hid h1
  clear h1
  by_cases hsz : (pn1 : Int) + pn2 ≤ 1048576
  · have E1 := Lib.hid (szV_yes hsz)
    have q0 : 0 ≤ 1048576 - (pn1 : Int) - pn2 := by omega
    have H1 := Lib.hid (W1.out.toR hsz)
    generalize hv : wrap64 (tot xs + tot ys) = v
    have Hv := Lib.hid hv
    clear hv
    go_enter Try.func10, Try.ntmps10
    go_wp2_with fail
    refine (szS_any p1 p2 pn1 pc1 pn2 pc2 pp pq 1048576 (by omega) (by omega) hb1 hb2 _).mono ?_
    rintro e w1 ⟨rfl, b1⟩
    rw [E1.out]
    have HS := Lib.hid (HS.out.below b1)
    clear b1
    obtain ⟨⟨s1, g0, g1, g2, g3⟩, -⟩ := HS.out
    go_wp2_with fail
    refine (toSown_any p1 p2 pn1 pc1 pn2 pc2 pp pq xs ys _ (H1.out.below HS.out.2)).mono ?_
    rintro e w5 ⟨x1, x2, rfl, o5, l51, l52, hb5⟩
    have O5 := Lib.hid o5.r
    have HS := Lib.hid (HS.out.below hb5)
    clear o5 hb5 s1 g0 g1 g2 g3
    obtain ⟨⟨s1, g0, g1, g2, g3⟩, -⟩ := HS.out
    go_wp2_with fail
    refine (specSum_any _ _ _ _ _ _ _ _ xs ys _ O5.out).mono ?_
    rintro e w6 ⟨rfl, hb6⟩
    rw [Hv.out]
    have HS := Lib.hid (HS.out.below hb6)
    clear O5 hb6 s1 g0 g1 g2 g3
    obtain ⟨⟨s1, g0, g1, g2, g3⟩, -⟩ := HS.out
    go_wp2_with fail
    refine (toSown_any p1 p2 pn1 pc1 pn2 pc2 pp pq xs ys _ (H1.out.below HS.out.2)).mono ?_
    rintro e w7 ⟨y1, y2, rfl, o7, l71, l72, hb7⟩
    have O7 := Lib.hid (o7.r.alloc (.cells #[.slice (some ⟨y1, 0, none⟩) pn1 pn1, .slice (some ⟨y2, 0, none⟩) pn2 pn2, .int .i64 pp, .int .i64 pq] 33))
    have Q7 := Lib.hid (so_new (some ⟨y1, 0, none⟩) (some ⟨y2, 0, none⟩) pn1 pn1 pn2 pn2 pp pq w7 33)
    have HS := Lib.hid ((HS.out.below hb7).below ((Below.refl _ _).alloc (Nat.le_refl _) (.cells #[.slice (some ⟨y1, 0, none⟩) pn1 pn1, .slice (some ⟨y2, 0, none⟩) pn2 pn2, .int .i64 pp, .int .i64 pq] 33)))
    clear s1 g0 g1 g2 g3 o7 hb7
    go_wp2_with fail
    have HX : Hid (S2At w p1 p2 pn1 pc1 pn2 pc2 pp pq w7.heap.size (some ⟨y1, 0, none⟩) (some ⟨y2, 0, none⟩) pn1 pn1 pn2 pn2 pp pq xs ys (w7.alloc (.cells #[.slice (some ⟨y1, 0, none⟩) pn1 pn1, .slice (some ⟨y2, 0, none⟩) pn2 pn2, .int .i64 pp, .int .i64 pq] 33))) := Lib.hid ⟨HS.out, Q7.out, O7.out⟩
    generalize hW : w7.alloc (.cells #[.slice (some ⟨y1, 0, none⟩) pn1 pn1, .slice (some ⟨y2, 0, none⟩) pn2 pn2, .int .i64 pp, .int .i64 pq] 33) = w8 at *
    generalize hD : w7.heap.size = D at *
    clear hW hD O7 Q7 HS
    refine (implSum_any _ _ _ _ _ _ _ _ xs ys _ HX.out.2.2).mono ?_
    rintro e w9 ⟨rfl, hb9⟩
    rw [Hv.out]
    have HX := Lib.hid (HX.out.below hb9)
    clear hb9
    go_wp2_with fail
    go_region_held3 (fun u => ((w.heap.size < u.heap.size ∧ u.cell? ⟨w.heap.size, 0, none⟩ = some (.slice p1 pn1 pc1) ∧ u.cell? ⟨w.heap.size, 1, none⟩ = some (.slice p2 pn2 pc2) ∧ u.cell? ⟨w.heap.size, 2, none⟩ = some (.int .i64 pp) ∧ u.cell? ⟨w.heap.size, 3, none⟩ = some (.int .i64 pq)) ∧ Below w.heap.size w u) ∧ (D < u.heap.size ∧ u.cell? ⟨D, 0, none⟩ = some (.slice (some ⟨y1, 0, none⟩) pn1 pn1) ∧ u.cell? ⟨D, 1, none⟩ = some (.slice (some ⟨y2, 0, none⟩) pn2 pn2) ∧ u.cell? ⟨D, 2, none⟩ = some (.int .i64 pp) ∧ u.cell? ⟨D, 3, none⟩ = some (.int .i64 pq)) ∧ PosR u (some ⟨y1, 0, none⟩) (some ⟨y2, 0, none⟩) pn1 pn2 xs ys) (first | exact HX.out | exact HX.out.drew)
      (first
      | (go_at_call 28; (with_reducible refine (toSown_any p1 p2 pn1 pc1 pn2 pc2 pp pq xs ys _ ?_).mono ?_); (first | exact H1.out.below HX.out.1.2 | exact H1.out.below HX.out.drew.1.2); (rintro e w5 ⟨g5, g6, rfl, o5, l51, l52, hb5⟩; have O5 := Lib.hid o5.r; have HX := Lib.hid (by first | exact HX.out.below hb5 | exact HX.out.drew.below hb5 : S2At w p1 p2 pn1 pc1 pn2 pc2 pp pq D (some ⟨y1, 0, none⟩) (some ⟨y2, 0, none⟩) pn1 pn1 pn2 pn2 pp pq xs ys w5); clear o5))
      | (go_at_call 30; (with_reducible refine (eqS_same _ _ _ _ _ _ _ _ _ _ _ _ xs ys _ ?_ O5.out).mono ?_); (first | exact HX.out.2.2 | exact HX.out.drew.2.2); (rintro e w5 ⟨rfl, hb5⟩; have HX := Lib.hid (by first | exact HX.out.below hb5 | exact HX.out.drew.below hb5 : S2At w p1 p2 pn1 pc1 pn2 pc2 pp pq D (some ⟨y1, 0, none⟩) (some ⟨y2, 0, none⟩) pn1 pn1 pn2 pn2 pp pq xs ys w5))))
    go_wp2_with fail
    go_ret
    exact ⟨rfl, HX.out.1.2⟩
  · have E1 := Lib.hid (szV_no hsz)
    go_enter Try.func10, Try.ntmps10
    go_wp2_with fail
    refine (szS_any p1 p2 pn1 pc1 pn2 pc2 pp pq 1048576 (by omega) (by omega) hb1 hb2 _).mono ?_
    rintro e w1 ⟨rfl, b1⟩
    rw [E1.out]
    have HS := Lib.hid (HS.out.below b1)
    clear b1
    go_wp2_with fail
    go_ret
    exact ⟨rfl, HS.out.2⟩
theorem walk_FnExactSownSeeds (q : SV) {w : World} (hq : q.In w) : Calls Try.prog 10 #[q.val] w fun e w' => e = .returned (.bool true) ∧ Below w.heap.size w w' :=
  walk0_FnExactSownSeeds _ _ _ _ _ _ _ _ _ _ w hq.2
namespace fnExactSownSeeds
set_option maxHeartbeats 2000000 in
set_option maxRecDepth 100000 in
theorem lifted (os : Os) (started : os.Started) (H : Type) (enc : TypeId × Value → H) :
    ReturnsInHanded {} Try.checked os 10 .any (Rows.fnExactSownSeedsSpec.pre6 enc Try.prog Try.f10 Rows.fnExactSownSeedsRow.domain false) (Rows.fnExactSownSeedsSpec.post enc Try.prog Try.f10 false true false false) := by
  refine returnsInHanded_of_change (C := Try.checked) own started (by kernel_rfl) Try.func10
    (ChangeSpec.witness6 (enc := enc) (C := Try.checked) false ⟨#[], #[.agg #[.slice none 0 0, .slice none 0 0, .int .i64 0, .int .i64 0]], []⟩ 8 (by kernel_rfl) (by kernel_rfl) (by kernel_rfl) (by kernel_rfl)) ?_
  intro W base args ds gs before hval0 hW hcnd _
  have hval : ∀ (j : Nat) t v, Try.f10.params[j]? = some t → args[j]? = some v → Value.okWide Try.prog W .any base t v := hval0
  have hW' := hW
  obtain ⟨p, q, hA0, hV, rfl, hfz, hnd⟩ := hW
  have hA : DataW.TrodAll enc Try.prog W 0 (fun _ => true) true Try.f10.params.toList args.toList ds p := hA0
  rw [Try.params10] at hA hval
  obtain ⟨v0, vs0, d0, ds0, p0, q0, hargs, rfl, rfl, h0, r0⟩ := trodAll_cons hA
  obtain ⟨rfl, rfl, rfl⟩ := trodAll_nil r0
  obtain rfl : args = #[v0] := by cases args; simp_all
  obtain ⟨rfl, rfl⟩ := trodVars_none hV
  have k0 := h0
  have lt0 : ∀ x ∈ p0, x.block < W.heap.size := by obtain ⟨m, hm⟩ := k0; exact DataW.trod_lt m _ _ _ hm
  obtain ⟨x0, rfl, w0⟩ := open_sown Try.underlying47 Try.underlying26 Try.underlying2 (by kernel_rfl) (by kernel_rfl) (by kernel_rfl) (hval 0 47 v0 rfl rfl) h0
  clear hA0 hval0
  refine (walk_FnExactSownSeeds x0 w0 (w := W)).mono fun e W' ⟨he, bel⟩ => ?_
  subst he
  exact ⟨_, rfl, _, _, _, [], _, [], hW', trodAll_mk1 (shut_bool Try.underlying4 _), (trodAll_cons_mk (Below.trod laidOut (by kernel_rfl) (of_decide_eq_true (by kernel_rfl)) k0 bel lt0) trodAll_mk0), rfl, bel.frame _, fun h => by cases h⟩

theorem proved : Rows.FnExactSownSeedsSaid :=
  OpenClaim.holds_of_wide 10 Try.f10 rfl rfl rfl rfl rfl rfl rfl ⟨rfl, rfl, rfl, rfl, rfl⟩ rfl rfl rfl rfl rfl (by kernel_rfl) Try.func10 (by kernel_rfl)
    (of_decide_eq_true (by kernel_rfl)) (by unfold Func.isWrapper; first | (rw [if_pos (by decide +kernel)]; kernel_rfl) | (rw [if_neg (by decide +kernel)]; exact ⟨rfl, rfl⟩))
    (fun os started H enc _ => lifted os started H enc)
end fnExactSownSeeds

end Go.Proofs.Ythlfkdjkihiiaaa
