/- The law on SameNumber. No conditions. -/
import Derived.Test.YthbgfkklejnhiaaLawB5
import Derived.Test.YthbgfkklejnhiaaN19
namespace Go.Proofs.Ythbgfkklejnhiaa
open Go.Joins Go.ChangeShapes Go.WideShapes Go.ChangeAt Go.RowKit Go.Deep
set_option linter.unusedVariables false

/-- What two calls leave. -/
def P6At (w : World) (p s c l : Int) (st sk re fe ag : Bool) (p1 p2 : Option Addr) (pn1 pc1 pn2 pc2 : Nat) (pp : Int) (x1 x2 : Option Addr) (xn1 xc1 xn2 xc2 : Nat) (xp : Int) (d : Nat) (a1 a2 : Option Addr) (an1 ac1 an2 ac2 : Nat) (ap : Int) (e : Nat) (b1 b2 : Option Addr) (bn1 bc1 bn2 bc2 : Nat) (bp : Int) (xs ys us vs : List Int) (u : World) : Prop := PqAt w p s c l st sk re fe ag p1 p2 pn1 pc1 pn2 pc2 pp x1 x2 xn1 xc1 xn2 xc2 xp u ∧ PoAt u d a1 a2 an1 ac1 an2 ac2 ap ∧ PoAt u e b1 b2 bn1 bc1 bn2 bc2 bp ∧ PosR u a1 a2 an1 an2 xs ys ∧ PosR u b1 b2 bn1 bn2 us vs
section
variable {w u v : World} {p s c l : Int} {st sk re fe ag : Bool} {p1 p2 : Option Addr} {pn1 pc1 pn2 pc2 : Nat} {pp : Int} {x1 x2 : Option Addr} {xn1 xc1 xn2 xc2 : Nat} {xp : Int} {d e : Nat} {a1 a2 : Option Addr} {an1 ac1 an2 ac2 : Nat} {ap : Int} {b1 b2 : Option Addr} {bn1 bc1 bn2 bc2 : Nat} {bp : Int} {xs ys us vs : List Int}
theorem P6At.below (h : P6At w p s c l st sk re fe ag p1 p2 pn1 pc1 pn2 pc2 pp x1 x2 xn1 xc1 xn2 xc2 xp d a1 a2 an1 ac1 an2 ac2 ap e b1 b2 bn1 bc1 bn2 bc2 bp xs ys us vs u) (k : Below u.heap.size u v) : P6At w p s c l st sk re fe ag p1 p2 pn1 pc1 pn2 pc2 pp x1 x2 xn1 xc1 xn2 xc2 xp d a1 a2 an1 ac1 an2 ac2 ap e b1 b2 bn1 bc1 bn2 bc2 bp xs ys us vs v := ⟨h.1.below k, h.2.1.below k, h.2.2.1.below k, h.2.2.2.1.below k, h.2.2.2.2.below k⟩
theorem P6At.drew (h : P6At w p s c l st sk re fe ag p1 p2 pn1 pc1 pn2 pc2 pp x1 x2 xn1 xc1 xn2 xc2 xp d a1 a2 an1 ac1 an2 ac2 ap e b1 b2 bn1 bc1 bn2 bc2 bp xs ys us vs u) : P6At w p s c l st sk re fe ag p1 p2 pn1 pc1 pn2 pc2 pp x1 x2 xn1 xc1 xn2 xc2 xp d a1 a2 an1 ac1 an2 ac2 ap e b1 b2 bn1 bc1 bn2 bc2 bp xs ys us vs u.drew := h.below (Below.refl _ _).drew
end
set_option maxHeartbeats 4000000 in
set_option maxRecDepth 100000 in
theorem walk0_FnExactSameNumber (p s c l : Int) (st sk re fe ag : Bool) (p1 p2 : Option Addr) (pn1 pc1 pn2 pc2 : Nat) (pp : Int) (x1 x2 : Option Addr) (xn1 xc1 xn2 xc2 : Nat) (xp : Int) (xs ys us vs : List Int) (w : World) (h1 : PosW w p1 p2 pn1 pn2 xs ys) (h2 : PosW w x1 x2 xn1 xn2 us vs) :
    Calls Try.prog 10 #[.agg #[.int .i64 p, .int .i64 s, .bool st, .bool sk, .bool re, .bool fe, .bool ag, .int .i64 c, .int .i64 l], .agg #[.slice p1 pn1 pc1, .slice p2 pn2 pc2, .int .i64 pp], .agg #[.slice x1 xn1 xc1, .slice x2 xn2 xc2, .int .i64 xp]] w fun e w' => e = .returned (.bool true) ∧ Below w.heap.size w w' := by
  have hb1 := h1.m1
  have hb2 := h1.m2
  have hb3 := h2.m1
  have hb4 := h2.m2
  generalize hk1 : okP (okR p s c l st ag) p pn1 pn2 pp xs ys = k
  generalize hk2 : okP (okR p s c l st ag) p xn1 xn2 xp us vs = j
  have Hk1 := Lib.hid hk1
  have Hk2 := Lib.hid hk2
  clear hk1 hk2
  have HS := Lib.hid (pq_new p s c l st sk re fe ag p1 p2 pn1 pc1 pn2 pc2 pp x1 x2 xn1 xc1 xn2 xc2 xp w 42 45 45)
  have W1 := Lib.hid h1
  have W2 := Lib.hid h2
  clear h1 h2
  by_cases hsz : (pn1 : Int) + pn2 ≤ 1048576
  · have E1 := Lib.hid (szV_yes hsz)
    have q0 : 0 ≤ 1048576 - (pn1 : Int) - pn2 := by omega
    by_cases hsy : (xn1 : Int) + xn2 ≤ 1048576 - (pn1 : Int) - pn2
    · have E2 := Lib.hid (szV_yes hsy)
      have q1 : 0 ≤ 1048576 - (pn1 : Int) - pn2 - xn1 - xn2 := by omega
      have H1 := Lib.hid (W1.out.toR hsz)
      have H2 := Lib.hid (W2.out.toR (by omega))
      go_enter Try.func10, Try.ntmps10
      go_wp2_with fail
      refine (szP_any p1 p2 pn1 pc1 pn2 pc2 pp 1048576 (by omega) (by omega) hb1 hb2 _).mono ?_
      rintro e w1 ⟨rfl, b1⟩
      rw [E1.out]
      have HS := Lib.hid (HS.out.below b1)
      clear b1
      obtain ⟨-, -, ⟨s2, k0, k1, k2⟩, -⟩ := HS.out
      go_wp2_with fail
      refine (szP_any x1 x2 xn1 xc1 xn2 xc2 xp _ q0 (by omega) hb3 hb4 _).mono ?_
      rintro e w2 ⟨rfl, b1⟩
      rw [E2.out]
      have HS := Lib.hid (HS.out.below b1)
      clear b1 s2 k0 k1 k2
      go_wp2_with fail
      go_region_held3 (fun u => (w.heap.size < u.heap.size ∧ u.cell? ⟨w.heap.size, 0, none⟩ = some (.int .i64 p) ∧ u.cell? ⟨w.heap.size, 1, none⟩ = some (.int .i64 s) ∧ u.cell? ⟨w.heap.size, 2, none⟩ = some (.bool st) ∧ u.cell? ⟨w.heap.size, 3, none⟩ = some (.bool sk) ∧ u.cell? ⟨w.heap.size, 4, none⟩ = some (.bool re) ∧ u.cell? ⟨w.heap.size, 5, none⟩ = some (.bool fe) ∧ u.cell? ⟨w.heap.size, 6, none⟩ = some (.bool ag) ∧ u.cell? ⟨w.heap.size, 7, none⟩ = some (.int .i64 c) ∧ u.cell? ⟨w.heap.size, 8, none⟩ = some (.int .i64 l)) ∧ (w.heap.size + 1 < u.heap.size ∧ u.cell? ⟨w.heap.size + 1, 0, none⟩ = some (.slice p1 pn1 pc1) ∧ u.cell? ⟨w.heap.size + 1, 1, none⟩ = some (.slice p2 pn2 pc2) ∧ u.cell? ⟨w.heap.size + 1, 2, none⟩ = some (.int .i64 pp)) ∧ (w.heap.size + 1 + 1 < u.heap.size ∧ u.cell? ⟨w.heap.size + 1 + 1, 0, none⟩ = some (.slice x1 xn1 xc1) ∧ u.cell? ⟨w.heap.size + 1 + 1, 1, none⟩ = some (.slice x2 xn2 xc2) ∧ u.cell? ⟨w.heap.size + 1 + 1, 2, none⟩ = some (.int .i64 xp)) ∧ Below w.heap.size w u) (first | exact HS.out | exact HS.out.drew)
        (first
        | (go_at_call 30; (with_reducible refine (toPos_any p1 p2 pn1 pc1 pn2 pc2 pp xs ys _ ?_).mono ?_); (first | exact H1.out.below HS.out.2.2.2 | exact H1.out.below HS.out.drew.2.2.2); (rintro e w5 ⟨g1, g2, rfl, o5, l51, l52, hb5⟩; have O5 := Lib.hid o5.r; have HS := Lib.hid (by first | exact HS.out.below hb5 | exact HS.out.drew.below hb5 : PqAt w p s c l st sk re fe ag p1 p2 pn1 pc1 pn2 pc2 pp x1 x2 xn1 xc1 xn2 xc2 xp w5); clear o5))
        | (go_at_call 30; (with_reducible refine (toPos_any x1 x2 xn1 xc1 xn2 xc2 xp us vs _ ?_).mono ?_); (first | exact H2.out.below HS.out.2.2.2 | exact H2.out.below HS.out.drew.2.2.2); (rintro e w6 ⟨g3, g4, rfl, o5, l51, l52, hb5⟩; have O5 := Lib.hid (O5.out.below hb5); have O6 := Lib.hid o5.r; have HS := Lib.hid (by first | exact HS.out.below hb5 | exact HS.out.drew.below hb5 : PqAt w p s c l st sk re fe ag p1 p2 pn1 pc1 pn2 pc2 pp x1 x2 xn1 xc1 xn2 xc2 xp w6); clear o5))
        | (go_at_call 27; refine (toRules_any p s c l st sk re fe ag _).mono ?_; rintro e w5 ⟨rfl, hb5⟩; have HS := Lib.hid (by first | exact HS.out.below hb5 | exact HS.out.drew.below hb5 : PqAt w p s c l st sk re fe ag p1 p2 pn1 pc1 pn2 pc2 pp x1 x2 xn1 xc1 xn2 xc2 xp w5))
        | (go_at_call 38; refine (specSn_any p s c l st sk re fe ag _ _ _ _ _ _ _ _ _ _ _ _ _ _ xs ys us vs _ O5.out O6.out (Nat.le_refl _) (Nat.le_refl _) k j Hk1.out Hk2.out).mono ?_; rintro e w5 ⟨rfl, hb5⟩; have HS := Lib.hid (by first | exact HS.out.below hb5 | exact HS.out.drew.below hb5 : PqAt w p s c l st sk re fe ag p1 p2 pn1 pc1 pn2 pc2 pp x1 x2 xn1 xc1 xn2 xc2 xp w5)))
      generalize hv : snV k j p pp xp xs us = v
      have Hv := Lib.hid hv
      clear O5 O6 hv
      obtain ⟨-, ⟨s1, g0, g1, g2⟩, -, -⟩ := HS.out
      go_wp2_with fail
      refine (toPos_any p1 p2 pn1 pc1 pn2 pc2 pp xs ys _ (H1.out.below HS.out.2.2.2)).mono ?_
      rintro e w7 ⟨y1, y2, rfl, o7, l71, l72, hb7⟩
      have O7 := Lib.hid (o7.r.alloc (.cells #[.slice (some ⟨y1, 0, none⟩) pn1 pn1, .slice (some ⟨y2, 0, none⟩) pn2 pn2, .int .i64 pp] 28))
      have Q7 := Lib.hid (po_new (some ⟨y1, 0, none⟩) (some ⟨y2, 0, none⟩) pn1 pn1 pn2 pn2 pp w7 28)
      have HS := Lib.hid ((HS.out.below hb7).below ((Below.refl _ _).alloc (Nat.le_refl _) (.cells #[.slice (some ⟨y1, 0, none⟩) pn1 pn1, .slice (some ⟨y2, 0, none⟩) pn2 pn2, .int .i64 pp] 28)))
      have Hx := (HS.out).2.2.1
      have hx7 : w.heap.size + 1 + 1 ≠ w7.heap.size := by have := hb7.size; omega
      clear s1 g0 g1 g2 o7 hb7
      obtain ⟨s2, k0, k1, k2⟩ := Hx
      go_wp2_with fail
      generalize hW : w7.alloc (.cells #[.slice (some ⟨y1, 0, none⟩) pn1 pn1, .slice (some ⟨y2, 0, none⟩) pn2 pn2, .int .i64 pp] 28) = w8 at *
      generalize hD : w7.heap.size = D at *
      refine (toPos_any x1 x2 xn1 xc1 xn2 xc2 xp us vs _ (H2.out.below HS.out.2.2.2)).mono ?_
      rintro e w9 ⟨z1, z2, rfl, o9, l91, l92, hb9⟩
      have O9 := Lib.hid (o9.r.alloc (.cells #[.slice (some ⟨z1, 0, none⟩) xn1 xn1, .slice (some ⟨z2, 0, none⟩) xn2 xn2, .int .i64 xp] 28))
      have Q9 := Lib.hid (po_new (some ⟨z1, 0, none⟩) (some ⟨z2, 0, none⟩) xn1 xn1 xn2 xn2 xp w9 28)
      have B9 : Below w8.heap.size w8 (w9.alloc (.cells #[.slice (some ⟨z1, 0, none⟩) xn1 xn1, .slice (some ⟨z2, 0, none⟩) xn2 xn2, .int .i64 xp] 28)) := hb9.trans ((Below.refl _ _).alloc hb9.size _)
      have HX : Hid (P6At w p s c l st sk re fe ag p1 p2 pn1 pc1 pn2 pc2 pp x1 x2 xn1 xc1 xn2 xc2 xp D (some ⟨y1, 0, none⟩) (some ⟨y2, 0, none⟩) pn1 pn1 pn2 pn2 pp w9.heap.size (some ⟨z1, 0, none⟩) (some ⟨z2, 0, none⟩) xn1 xn1 xn2 xn2 xp xs ys us vs (w9.alloc (.cells #[.slice (some ⟨z1, 0, none⟩) xn1 xn1, .slice (some ⟨z2, 0, none⟩) xn2 xn2, .int .i64 xp] 28))) :=
        Lib.hid ⟨HS.out.below B9, Q7.out.below B9, Q9.out, O7.out.below B9, O9.out⟩
      obtain ⟨s7, a0, a1, a2⟩ := Q7.out.below hb9
      clear s2 k0 k1 k2 hW hD O7 Q7 O9 Q9 B9 hx7 o9 hb9 HS
      go_wp2_with fail
      generalize hW : w9.alloc (.cells #[.slice (some ⟨z1, 0, none⟩) xn1 xn1, .slice (some ⟨z2, 0, none⟩) xn2 xn2, .int .i64 xp] 28) = w10 at *
      generalize hE : w9.heap.size = E at *
      clear s7 a0 a1 a2 hW hE
      go_region_held3 (fun u => ((w.heap.size < u.heap.size ∧ u.cell? ⟨w.heap.size, 0, none⟩ = some (.int .i64 p) ∧ u.cell? ⟨w.heap.size, 1, none⟩ = some (.int .i64 s) ∧ u.cell? ⟨w.heap.size, 2, none⟩ = some (.bool st) ∧ u.cell? ⟨w.heap.size, 3, none⟩ = some (.bool sk) ∧ u.cell? ⟨w.heap.size, 4, none⟩ = some (.bool re) ∧ u.cell? ⟨w.heap.size, 5, none⟩ = some (.bool fe) ∧ u.cell? ⟨w.heap.size, 6, none⟩ = some (.bool ag) ∧ u.cell? ⟨w.heap.size, 7, none⟩ = some (.int .i64 c) ∧ u.cell? ⟨w.heap.size, 8, none⟩ = some (.int .i64 l)) ∧ (w.heap.size + 1 < u.heap.size ∧ u.cell? ⟨w.heap.size + 1, 0, none⟩ = some (.slice p1 pn1 pc1) ∧ u.cell? ⟨w.heap.size + 1, 1, none⟩ = some (.slice p2 pn2 pc2) ∧ u.cell? ⟨w.heap.size + 1, 2, none⟩ = some (.int .i64 pp)) ∧ (w.heap.size + 1 + 1 < u.heap.size ∧ u.cell? ⟨w.heap.size + 1 + 1, 0, none⟩ = some (.slice x1 xn1 xc1) ∧ u.cell? ⟨w.heap.size + 1 + 1, 1, none⟩ = some (.slice x2 xn2 xc2) ∧ u.cell? ⟨w.heap.size + 1 + 1, 2, none⟩ = some (.int .i64 xp)) ∧ Below w.heap.size w u) ∧ (D < u.heap.size ∧ u.cell? ⟨D, 0, none⟩ = some (.slice (some ⟨y1, 0, none⟩) pn1 pn1) ∧ u.cell? ⟨D, 1, none⟩ = some (.slice (some ⟨y2, 0, none⟩) pn2 pn2) ∧ u.cell? ⟨D, 2, none⟩ = some (.int .i64 pp)) ∧ (E < u.heap.size ∧ u.cell? ⟨E, 0, none⟩ = some (.slice (some ⟨z1, 0, none⟩) xn1 xn1) ∧ u.cell? ⟨E, 1, none⟩ = some (.slice (some ⟨z2, 0, none⟩) xn2 xn2) ∧ u.cell? ⟨E, 2, none⟩ = some (.int .i64 xp)) ∧ PosR u (some ⟨y1, 0, none⟩) (some ⟨y2, 0, none⟩) pn1 pn2 xs ys ∧ PosR u (some ⟨z1, 0, none⟩) (some ⟨z2, 0, none⟩) xn1 xn2 us vs) (first | exact HX.out | exact HX.out.drew)
        (first
        | (go_at_call 27; refine (toRules_any p s c l st sk re fe ag _).mono ?_; rintro e w5 ⟨rfl, hb5⟩; have HX := Lib.hid (by first | exact HX.out.below hb5 | exact HX.out.drew.below hb5 : P6At w p s c l st sk re fe ag p1 p2 pn1 pc1 pn2 pc2 pp x1 x2 xn1 xc1 xn2 xc2 xp D (some ⟨y1, 0, none⟩) (some ⟨y2, 0, none⟩) pn1 pn1 pn2 pn2 pp E (some ⟨z1, 0, none⟩) (some ⟨z2, 0, none⟩) xn1 xn1 xn2 xn2 xp xs ys us vs w5))
        | (go_at_call 25; refine (implSn_any p s c l st sk re fe ag _ _ _ _ _ _ _ _ _ _ _ _ _ _ xs ys us vs _ (by first | exact HX.out.2.2.2.1 | exact HX.out.drew.2.2.2.1) (by first | exact HX.out.2.2.2.2 | exact HX.out.drew.2.2.2.2) (Nat.le_refl _) (Nat.le_refl _) k j Hk1.out Hk2.out).mono ?_; rintro e w5 ⟨rfl, hb5⟩; rw [Hv.out]; have HX := Lib.hid (by first | exact HX.out.below hb5 | exact HX.out.drew.below hb5 : P6At w p s c l st sk re fe ag p1 p2 pn1 pc1 pn2 pc2 pp x1 x2 xn1 xc1 xn2 xc2 xp D (some ⟨y1, 0, none⟩) (some ⟨y2, 0, none⟩) pn1 pn1 pn2 pn2 pp E (some ⟨z1, 0, none⟩) (some ⟨z2, 0, none⟩) xn1 xn1 xn2 xn2 xp xs ys us vs w5)))
      go_wp2_with fail
      go_region_held3 (fun u => ((w.heap.size < u.heap.size ∧ u.cell? ⟨w.heap.size, 0, none⟩ = some (.int .i64 p) ∧ u.cell? ⟨w.heap.size, 1, none⟩ = some (.int .i64 s) ∧ u.cell? ⟨w.heap.size, 2, none⟩ = some (.bool st) ∧ u.cell? ⟨w.heap.size, 3, none⟩ = some (.bool sk) ∧ u.cell? ⟨w.heap.size, 4, none⟩ = some (.bool re) ∧ u.cell? ⟨w.heap.size, 5, none⟩ = some (.bool fe) ∧ u.cell? ⟨w.heap.size, 6, none⟩ = some (.bool ag) ∧ u.cell? ⟨w.heap.size, 7, none⟩ = some (.int .i64 c) ∧ u.cell? ⟨w.heap.size, 8, none⟩ = some (.int .i64 l)) ∧ (w.heap.size + 1 < u.heap.size ∧ u.cell? ⟨w.heap.size + 1, 0, none⟩ = some (.slice p1 pn1 pc1) ∧ u.cell? ⟨w.heap.size + 1, 1, none⟩ = some (.slice p2 pn2 pc2) ∧ u.cell? ⟨w.heap.size + 1, 2, none⟩ = some (.int .i64 pp)) ∧ (w.heap.size + 1 + 1 < u.heap.size ∧ u.cell? ⟨w.heap.size + 1 + 1, 0, none⟩ = some (.slice x1 xn1 xc1) ∧ u.cell? ⟨w.heap.size + 1 + 1, 1, none⟩ = some (.slice x2 xn2 xc2) ∧ u.cell? ⟨w.heap.size + 1 + 1, 2, none⟩ = some (.int .i64 xp)) ∧ Below w.heap.size w u) ∧ (D < u.heap.size ∧ u.cell? ⟨D, 0, none⟩ = some (.slice (some ⟨y1, 0, none⟩) pn1 pn1) ∧ u.cell? ⟨D, 1, none⟩ = some (.slice (some ⟨y2, 0, none⟩) pn2 pn2) ∧ u.cell? ⟨D, 2, none⟩ = some (.int .i64 pp)) ∧ (E < u.heap.size ∧ u.cell? ⟨E, 0, none⟩ = some (.slice (some ⟨z1, 0, none⟩) xn1 xn1) ∧ u.cell? ⟨E, 1, none⟩ = some (.slice (some ⟨z2, 0, none⟩) xn2 xn2) ∧ u.cell? ⟨E, 2, none⟩ = some (.int .i64 xp)) ∧ PosR u (some ⟨y1, 0, none⟩) (some ⟨y2, 0, none⟩) pn1 pn2 xs ys ∧ PosR u (some ⟨z1, 0, none⟩) (some ⟨z2, 0, none⟩) xn1 xn2 us vs) (first | exact HX.out | exact HX.out.drew)
        (first
        | (go_at_call 30; (with_reducible refine (toPos_any p1 p2 pn1 pc1 pn2 pc2 pp xs ys _ ?_).mono ?_); (first | exact H1.out.below HX.out.1.2.2.2 | exact H1.out.below HX.out.drew.1.2.2.2); (rintro e w5 ⟨g5, g6, rfl, o5, l51, l52, hb5⟩; have O5 := Lib.hid o5.r; have HX := Lib.hid (by first | exact HX.out.below hb5 | exact HX.out.drew.below hb5 : P6At w p s c l st sk re fe ag p1 p2 pn1 pc1 pn2 pc2 pp x1 x2 xn1 xc1 xn2 xc2 xp D (some ⟨y1, 0, none⟩) (some ⟨y2, 0, none⟩) pn1 pn1 pn2 pn2 pp E (some ⟨z1, 0, none⟩) (some ⟨z2, 0, none⟩) xn1 xn1 xn2 xn2 xp xs ys us vs w5); clear o5))
        | (go_at_call 31; (with_reducible refine (eqP_same _ _ _ _ _ _ _ _ _ _ _ xs ys _ ?_ O5.out).mono ?_); (first | exact HX.out.2.2.2.1 | exact HX.out.drew.2.2.2.1); (rintro e w5 ⟨rfl, hb5⟩; have HX := Lib.hid (by first | exact HX.out.below hb5 | exact HX.out.drew.below hb5 : P6At w p s c l st sk re fe ag p1 p2 pn1 pc1 pn2 pc2 pp x1 x2 xn1 xc1 xn2 xc2 xp D (some ⟨y1, 0, none⟩) (some ⟨y2, 0, none⟩) pn1 pn1 pn2 pn2 pp E (some ⟨z1, 0, none⟩) (some ⟨z2, 0, none⟩) xn1 xn1 xn2 xn2 xp xs ys us vs w5))))
      go_wp2_with fail
      go_region_held3 (fun u => ((w.heap.size < u.heap.size ∧ u.cell? ⟨w.heap.size, 0, none⟩ = some (.int .i64 p) ∧ u.cell? ⟨w.heap.size, 1, none⟩ = some (.int .i64 s) ∧ u.cell? ⟨w.heap.size, 2, none⟩ = some (.bool st) ∧ u.cell? ⟨w.heap.size, 3, none⟩ = some (.bool sk) ∧ u.cell? ⟨w.heap.size, 4, none⟩ = some (.bool re) ∧ u.cell? ⟨w.heap.size, 5, none⟩ = some (.bool fe) ∧ u.cell? ⟨w.heap.size, 6, none⟩ = some (.bool ag) ∧ u.cell? ⟨w.heap.size, 7, none⟩ = some (.int .i64 c) ∧ u.cell? ⟨w.heap.size, 8, none⟩ = some (.int .i64 l)) ∧ (w.heap.size + 1 < u.heap.size ∧ u.cell? ⟨w.heap.size + 1, 0, none⟩ = some (.slice p1 pn1 pc1) ∧ u.cell? ⟨w.heap.size + 1, 1, none⟩ = some (.slice p2 pn2 pc2) ∧ u.cell? ⟨w.heap.size + 1, 2, none⟩ = some (.int .i64 pp)) ∧ (w.heap.size + 1 + 1 < u.heap.size ∧ u.cell? ⟨w.heap.size + 1 + 1, 0, none⟩ = some (.slice x1 xn1 xc1) ∧ u.cell? ⟨w.heap.size + 1 + 1, 1, none⟩ = some (.slice x2 xn2 xc2) ∧ u.cell? ⟨w.heap.size + 1 + 1, 2, none⟩ = some (.int .i64 xp)) ∧ Below w.heap.size w u) ∧ (D < u.heap.size ∧ u.cell? ⟨D, 0, none⟩ = some (.slice (some ⟨y1, 0, none⟩) pn1 pn1) ∧ u.cell? ⟨D, 1, none⟩ = some (.slice (some ⟨y2, 0, none⟩) pn2 pn2) ∧ u.cell? ⟨D, 2, none⟩ = some (.int .i64 pp)) ∧ (E < u.heap.size ∧ u.cell? ⟨E, 0, none⟩ = some (.slice (some ⟨z1, 0, none⟩) xn1 xn1) ∧ u.cell? ⟨E, 1, none⟩ = some (.slice (some ⟨z2, 0, none⟩) xn2 xn2) ∧ u.cell? ⟨E, 2, none⟩ = some (.int .i64 xp)) ∧ PosR u (some ⟨y1, 0, none⟩) (some ⟨y2, 0, none⟩) pn1 pn2 xs ys ∧ PosR u (some ⟨z1, 0, none⟩) (some ⟨z2, 0, none⟩) xn1 xn2 us vs) (first | exact HX.out | exact HX.out.drew)
        (first
        | (go_at_call 30; (with_reducible refine (toPos_any x1 x2 xn1 xc1 xn2 xc2 xp us vs _ ?_).mono ?_); (first | exact H2.out.below HX.out.1.2.2.2 | exact H2.out.below HX.out.drew.1.2.2.2); (rintro e w5 ⟨g5, g6, rfl, o5, l51, l52, hb5⟩; have O5 := Lib.hid o5.r; have HX := Lib.hid (by first | exact HX.out.below hb5 | exact HX.out.drew.below hb5 : P6At w p s c l st sk re fe ag p1 p2 pn1 pc1 pn2 pc2 pp x1 x2 xn1 xc1 xn2 xc2 xp D (some ⟨y1, 0, none⟩) (some ⟨y2, 0, none⟩) pn1 pn1 pn2 pn2 pp E (some ⟨z1, 0, none⟩) (some ⟨z2, 0, none⟩) xn1 xn1 xn2 xn2 xp xs ys us vs w5); clear o5))
        | (go_at_call 31; (with_reducible refine (eqP_same _ _ _ _ _ _ _ _ _ _ _ us vs _ ?_ O5.out).mono ?_); (first | exact HX.out.2.2.2.2 | exact HX.out.drew.2.2.2.2); (rintro e w5 ⟨rfl, hb5⟩; have HX := Lib.hid (by first | exact HX.out.below hb5 | exact HX.out.drew.below hb5 : P6At w p s c l st sk re fe ag p1 p2 pn1 pc1 pn2 pc2 pp x1 x2 xn1 xc1 xn2 xc2 xp D (some ⟨y1, 0, none⟩) (some ⟨y2, 0, none⟩) pn1 pn1 pn2 pn2 pp E (some ⟨z1, 0, none⟩) (some ⟨z2, 0, none⟩) xn1 xn1 xn2 xn2 xp xs ys us vs w5))))
      go_wp2_with fail
      go_ret
      exact ⟨rfl, HX.out.1.2.2.2⟩
    · have E2 := Lib.hid (szV_no hsy)
      go_enter Try.func10, Try.ntmps10
      go_wp2_with fail
      refine (szP_any p1 p2 pn1 pc1 pn2 pc2 pp 1048576 (by omega) (by omega) hb1 hb2 _).mono ?_
      rintro e w1 ⟨rfl, b1⟩
      rw [E1.out]
      have HS := Lib.hid (HS.out.below b1)
      clear b1
      obtain ⟨-, -, ⟨s2, k0, k1, k2⟩, -⟩ := HS.out
      go_wp2_with fail
      refine (szP_any x1 x2 xn1 xc1 xn2 xc2 xp _ q0 (by omega) hb3 hb4 _).mono ?_
      rintro e w2 ⟨rfl, b1⟩
      rw [E2.out]
      have HS := Lib.hid (HS.out.below b1)
      clear b1 s2 k0 k1 k2
      go_wp2_with fail
      go_ret
      exact ⟨rfl, HS.out.2.2.2⟩
  · have E1 := Lib.hid (szV_no hsz)
    go_enter Try.func10, Try.ntmps10
    go_wp2_with fail
    refine (szP_any p1 p2 pn1 pc1 pn2 pc2 pp 1048576 (by omega) (by omega) hb1 hb2 _).mono ?_
    rintro e w1 ⟨rfl, b1⟩
    rw [E1.out]
    have HS := Lib.hid (HS.out.below b1)
    clear b1
    go_wp2_with fail
    go_ret
    exact ⟨rfl, HS.out.2.2.2⟩
theorem walk_FnExactSameNumber (x : RV) (hx : x.Fit) (q : PV) {w : World} (hq : q.In w) (r : PV) (hr : r.In w) : Calls Try.prog 10 #[x.val, q.val, r.val] w fun e w' => e = .returned (.bool true) ∧ Below w.heap.size w w' :=
  walk0_FnExactSameNumber _ _ _ _ _ _ _ _ _ _ _ _ _ _ _ _ _ _ _ _ _ _ _ _ _ _ _ w hq.2 hr.2
namespace fnExactSameNumber
set_option maxHeartbeats 2000000 in
set_option maxRecDepth 100000 in
theorem lifted (os : Os) (started : os.Started) (H : Type) (enc : TypeId × Value → H) :
    ReturnsInHanded {} Try.checked os 10 .any (Rows.fnExactSameNumberSpec.pre6 enc Try.prog Try.f10 Rows.fnExactSameNumberRow.domain false) (Rows.fnExactSameNumberSpec.post enc Try.prog Try.f10 false true false false) := by
  refine returnsInHanded_of_change (C := Try.checked) own started (by kernel_rfl) Try.func10
    (ChangeSpec.witness6 (enc := enc) (C := Try.checked) false ⟨#[], #[.agg #[.int .i64 0, .int .i64 0, .bool false, .bool false, .bool false, .bool false, .bool false, .int .i64 0, .int .i64 0], .agg #[.slice none 0 0, .slice none 0 0, .int .i64 0], .agg #[.slice none 0 0, .slice none 0 0, .int .i64 0]], []⟩ 8 (by kernel_rfl) (by kernel_rfl) (by kernel_rfl) (by kernel_rfl)) ?_
  intro W base args ds gs before hval0 hW hcnd _
  have hval : ∀ (j : Nat) t v, Try.f10.params[j]? = some t → args[j]? = some v → Value.okWide Try.prog W .any base t v := hval0
  have hW' := hW
  obtain ⟨p, q, hA0, hV, rfl, hfz, hnd⟩ := hW
  have hA : DataW.TrodAll enc Try.prog W 0 (fun _ => true) true Try.f10.params.toList args.toList ds p := hA0
  rw [Try.params10] at hA hval
  obtain ⟨v0, vs0, d0, ds0, p0, q0, hargs, rfl, rfl, h0, r0⟩ := trodAll_cons hA
  obtain ⟨v1, vs1, d1, ds1, p1, q1, rfl, rfl, rfl, h1, r1⟩ := trodAll_cons r0
  obtain ⟨v2, vs2, d2, ds2, p2, q2, rfl, rfl, rfl, h2, r2⟩ := trodAll_cons r1
  obtain ⟨rfl, rfl, rfl⟩ := trodAll_nil r2
  obtain rfl : args = #[v0, v1, v2] := by cases args; simp_all
  obtain ⟨rfl, rfl⟩ := trodVars_none hV
  have k0 := h0
  have lt0 : ∀ x ∈ p0, x.block < W.heap.size := by obtain ⟨m, hm⟩ := k0; exact DataW.trod_lt m _ _ _ hm
  obtain ⟨x0, rfl, w0⟩ := open_rules Try.underlying42 Try.underlying2 Try.underlying4 (by kernel_rfl) (by kernel_rfl) (hval 0 42 v0 rfl rfl) h0
  have k1 := h1
  have lt1 : ∀ x ∈ p1, x.block < W.heap.size := by obtain ⟨m, hm⟩ := k1; exact DataW.trod_lt m _ _ _ hm
  obtain ⟨x1, rfl, w1⟩ := open_pos Try.underlying45 Try.underlying26 Try.underlying2 (by kernel_rfl) (by kernel_rfl) (by kernel_rfl) (hval 1 45 v1 rfl rfl) h1
  have k2 := h2
  have lt2 : ∀ x ∈ p2, x.block < W.heap.size := by obtain ⟨m, hm⟩ := k2; exact DataW.trod_lt m _ _ _ hm
  obtain ⟨x2, rfl, w2⟩ := open_pos Try.underlying45 Try.underlying26 Try.underlying2 (by kernel_rfl) (by kernel_rfl) (by kernel_rfl) (hval 2 45 v2 rfl rfl) h2
  clear hA0 hval0
  refine (walk_FnExactSameNumber x0 w0 x1 w1 x2 w2 (w := W)).mono fun e W' ⟨he, bel⟩ => ?_
  subst he
  exact ⟨_, rfl, _, _, _, [], _, [], hW', trodAll_mk1 (shut_bool Try.underlying4 _), (trodAll_cons_mk (Below.trod laidOut (by kernel_rfl) (of_decide_eq_true (by kernel_rfl)) k0 bel lt0) (trodAll_cons_mk (Below.trod laidOut (by kernel_rfl) (of_decide_eq_true (by kernel_rfl)) k1 bel lt1) (trodAll_cons_mk (Below.trod laidOut (by kernel_rfl) (of_decide_eq_true (by kernel_rfl)) k2 bel lt2) trodAll_mk0))), rfl, bel.frame _, fun h => by cases h⟩

theorem proved : Rows.FnExactSameNumberSaid :=
  OpenClaim.holds_of_wide 10 Try.f10 rfl rfl rfl rfl rfl rfl rfl ⟨rfl, rfl, rfl, rfl, rfl⟩ rfl rfl rfl rfl rfl (by kernel_rfl) Try.func10 (by kernel_rfl)
    (of_decide_eq_true (by kernel_rfl)) (by unfold Func.isWrapper; first | (rw [if_pos (by decide +kernel)]; kernel_rfl) | (rw [if_neg (by decide +kernel)]; exact ⟨rfl, rfl⟩))
    (fun os started H enc _ => lifted os started H enc)
end fnExactSameNumber

end Go.Proofs.Ythbgfkklejnhiaa
