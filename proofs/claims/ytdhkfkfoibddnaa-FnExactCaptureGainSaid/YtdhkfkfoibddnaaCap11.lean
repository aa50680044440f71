/- The functions on captures, as the program answers: from the beginning. No conditions. -/
import Derived.Test.YtdhkfkfoibddnaaCap10
namespace Go.Proofs.Ytdhkfkfoibddnaa
open Go.Joins Go.ChangeShapes Go.WideShapes Go.ChangeAt Go.RowKit Go.Deep
set_option linter.unusedVariables false

/-- What is known of valid sown seeds. -/
structure Good (p s c l : Int) (st sk re fe ag : Bool) (player : Int) (pn1 pn2 : Nat) (pp : Int) (xs ys : List Int) : Prop where
  ok : okR p s c l st ag = true
  p2 : 2 ≤ p ∧ p ≤ 8
  c3 : 0 ≤ c ∧ c ≤ 3
  n1 : (pn1 : Int) = 2 * p
  n2 : pn2 = 2
  pl : player = 0 ∨ player = 1
  q1 : posB xs = true
  q2 : posB ys = true
  q3 : tot xs + tot ys ≤ 96
  l1 : -1 ≤ pp
  l2 : pp < 2 * p
theorem good_of (p s c l : Int) (st sk re fe ag : Bool) {player : Int} {pn1 pn2 : Nat} {pp pq : Int} {xs ys : List Int} (h : okS (okR p s c l st ag) p st pn1 pn2 pp pq player xs ys = true) : Good p s c l st sk re fe ag player pn1 pn2 pp xs ys := by
  obtain ⟨h1, -, h3⟩ := okS_parts h
  obtain ⟨k1, k2, k3, k4, k5⟩ := okP_parts h1
  obtain ⟨m1, m2, -, -, m5, m6, -⟩ := okR_bd k1
  obtain ⟨s1, s2, s3⟩ := seedB_parts k5
  obtain ⟨r1, r2⟩ := last_bd m1 h3
  exact ⟨k1, ⟨m1, m2⟩, ⟨m5, m6⟩, k2, k3, by omega, s1, s2, s3, r1, r2⟩
theorem Good.t1 {p s c l player : Int} {st sk re fe ag : Bool} {pn1 pn2 : Nat} {pp : Int} {xs ys : List Int} (h : Good p s c l st sk re fe ag player pn1 pn2 pp xs ys) : tot xs ≤ 96 := by
  have := posB_tot h.q2
  have := h.q3
  omega
theorem Good.raw {p s c l player : Int} {st sk re fe ag : Bool} {pn1 pn2 : Nat} {pp : Int} {xs ys : List Int} (h : Good p s c l st sk re fe ag player pn1 pn2 pp xs ys) (cp : Int) : ∀ k ∈ rawF cp p player pp xs, 0 ≤ k ∧ k < (pn1 : Int) := fun k hk => by
  have := raw_in h.l2 k hk
  have := h.n1
  omega
theorem own_out {p pl k : Int} (hp : 2 ≤ p) (hpl : pl = 0 ∨ pl = 1) (hk : k < 0) : ownB p pl k = false := by
  unfold ownB
  rcases hpl with rfl | rfl <;> simp <;> omega
theorem rawI_any (p s c l : Int) (st sk re fe ag : Bool) (player : Int) (p1 p2 : Option Addr) (pn1 pc1 pn2 pc2 : Nat) (pp pq : Int) (xs ys : List Int) (w : World) (h : PosR w p1 p2 pn1 pn2 xs ys) (g : Good p s c l st sk re fe ag player pn1 pn2 pp xs ys) :
    Calls Try.prog 79 #[.agg #[.int .i64 p, .int .i64 s, .bool st, .bool sk, .bool re, .bool fe, .bool ag, .int .i64 c, .int .i64 l, .int .i64 player, .slice p1 pn1 pc1, .slice p2 pn2 pc2, .int .i64 pp, .int .i64 pq]] w (OwnP (rawF c p player pp xs) (rawF c p player pp xs).length w) := by
  have hc := g.c3
  have hp2 := g.p2.1
  have hl1 := g.l1
  rcases (show c = 0 ∨ c = 1 ∨ c = 2 ∨ c = 3 by omega) with e | e | e | e
  · refine raw_any0 p s c l st sk re fe ag player _ _ _ _ _ _ _ _ w e _ (fun u hu => ?_)
    have er : rawF c p player pp xs = [] := by
      unfold rawF
      by_cases hlt : pp < 0
      · rw [if_pos hlt]
      · rw [if_neg hlt, if_neg (by omega), if_neg (by omega), if_neg (by omega)]
    rw [er]
    exact none_any p s c l st sk re fe ag player _ _ _ _ _ _ _ _ u
  · refine raw_any1 p s c l st sk re fe ag player _ _ _ _ _ _ _ _ w e _ (fun u hu => ?_)
    have er : rawF c p player pp xs = twF p player xs (pp + 1).toNat := by
      unfold rawF
      by_cases hlt : pp < 0
      · rw [if_pos hlt, show (pp + 1).toNat = 0 by omega]; rfl
      · rw [if_neg hlt, if_pos e, show (pp + 1).toNat = pp.toNat + 1 by omega]
    rw [er]
    exact twoThree_any p s c l st sk re fe ag player _ _ _ _ _ _ _ _ xs ys _ u (h.below hu) g.q1 g.t1 g.p2 g.n1 g.pl (by omega) (by have := g.l2; omega)
  · refine raw_any2 p s c l st sk re fe ag player _ _ _ _ _ _ _ _ w e _ (fun u hu => ?_)
    refine cross_any p s c l st sk re fe ag player _ _ _ _ _ _ _ _ xs ys u (h.below hu) g.q1 g.t1 g.ok g.n1 g.pl g.l1 g.l2 _ ?_
    unfold rawF
    by_cases hlt : pp < 0
    · rw [if_pos hlt, own_out hp2 g.pl hlt]; rfl
    · rw [if_neg hlt, if_neg (show ¬ c = 1 by omega), if_pos e]
  · refine raw_any3 p s c l st sk re fe ag player _ _ _ _ _ _ _ _ w e _ (fun u hu => ?_)
    refine even_any p s c l st sk re fe ag player _ _ _ _ _ _ _ _ xs ys u (h.below hu) g.q1 g.t1 g.p2 g.n1 g.pl g.l1 g.l2 _ ?_
    unfold rawF
    by_cases hlt : pp < 0
    · rw [if_pos hlt, own_out hp2 (by have := g.pl; omega) hlt]; rfl
    · rw [if_neg hlt, if_neg (show ¬ c = 1 by omega), if_neg (show ¬ c = 2 by omega), if_pos e]
set_option maxHeartbeats 4000000 in
set_option maxRecDepth 100000 in
theorem spared_any (p s c l : Int) (st sk re fe ag : Bool) (player : Int) (p1 p2 : Option Addr) (pn1 pc1 pn2 pc2 : Nat) (pp pq : Int) (xs ys : List Int) (w : World) (h : PosR w p1 p2 pn1 pn2 xs ys) (g : Good p s c l st sk re fe ag player pn1 pn2 pp xs ys) (hcap : pn1 ≤ pc1) :
    Calls Try.prog 78 #[.agg #[.int .i64 p, .int .i64 s, .bool st, .bool sk, .bool re, .bool fe, .bool ag, .int .i64 c, .int .i64 l, .int .i64 player, .slice p1 pn1 pc1, .slice p2 pn2 pc2, .int .i64 pp, .int .i64 pq]] w fun e w' => e = .returned (.bool (decide (l = 2) && slamB p player xs (rawF c p player pp xs))) ∧ Below w.heap.size w w' := by
  have HC := Lib.hid (cp_new p s c l st sk re fe ag player p1 p2 pn1 pc1 pn2 pc2 pp pq w 73)
  obtain ⟨⟨_, c0, c1, c2, c3, c4, c5, c6, c7, c8, c9, c10, c11, c12, c13⟩, -⟩ := HC.out
  have H0 := Lib.hid h
  have G := Lib.hid g
  have Hcap := Lib.hid hcap
  have HLn : Hid ((rawF c p player pp xs).length ≤ 1000) := Lib.hid (by have := raw_len (cp := c) (pl := player) (xs := xs) g.p2.2 g.p2.1 g.l2; omega)
  have HRaw : Hid (∀ u, Below w.heap.size w u → Calls Try.prog 79 #[.agg #[.int .i64 p, .int .i64 s, .bool st, .bool sk, .bool re, .bool fe, .bool ag, .int .i64 c, .int .i64 l, .int .i64 player, .slice p1 pn1 pc1, .slice p2 pn2 pc2, .int .i64 pp, .int .i64 pq]] u (OwnP (rawF c p player pp xs) (rawF c p player pp xs).length u)) := Lib.hid (fun u hu => rawI_any p s c l st sk re fe ag player _ _ _ _ _ _ _ _ xs ys u (h.below hu) g)
  have HRin := Lib.hid (g.raw c)
  generalize rawF c p player pp xs = R at *
  clear h g hcap
  by_cases hl : l = 2
  · have t1 : (l == 2) = true := by simpa using hl
    rw [decide_eq_true hl, Bool.true_and]
    clear hl
    go_enter Try.func78, Try.ntmps78
    go_wp2_with fail
    go_region_held3 (fun u => (w.heap.size < u.heap.size ∧ u.cell? ⟨w.heap.size, 0, none⟩ = some (.int .i64 p) ∧ u.cell? ⟨w.heap.size, 1, none⟩ = some (.int .i64 s) ∧ u.cell? ⟨w.heap.size, 2, none⟩ = some (.bool st) ∧ u.cell? ⟨w.heap.size, 3, none⟩ = some (.bool sk) ∧ u.cell? ⟨w.heap.size, 4, none⟩ = some (.bool re) ∧ u.cell? ⟨w.heap.size, 5, none⟩ = some (.bool fe) ∧ u.cell? ⟨w.heap.size, 6, none⟩ = some (.bool ag) ∧ u.cell? ⟨w.heap.size, 7, none⟩ = some (.int .i64 c) ∧ u.cell? ⟨w.heap.size, 8, none⟩ = some (.int .i64 l) ∧ u.cell? ⟨w.heap.size, 9, none⟩ = some (.int .i64 player) ∧ u.cell? ⟨w.heap.size, 10, none⟩ = some (.slice p1 pn1 pc1) ∧ u.cell? ⟨w.heap.size, 11, none⟩ = some (.slice p2 pn2 pc2) ∧ u.cell? ⟨w.heap.size, 12, none⟩ = some (.int .i64 pp) ∧ u.cell? ⟨w.heap.size, 13, none⟩ = some (.int .i64 pq)) ∧ Below w.heap.size w u) (first | exact HC.out | exact HC.out.drew)
      (first
      | (go_at_call 79; refine (HRaw.out _ (by first | exact HC.out.be | exact HC.out.drew.be)).mono ?_; rintro e w5 ⟨v5, rfl, hown, hb5⟩; obtain ⟨a5, cc5, rfl, hr5⟩ := own_slice hown rfl HLn.out; have HR5 := Lib.hid hr5; have HC := Lib.hid (by first | exact HC.out.below hb5 | exact HC.out.drew.below hb5 : CpAt w p s c l st sk re fe ag player p1 p2 pn1 pc1 pn2 pc2 pp pq w5); clear hown hr5 hb5)
      | (go_at_call 90; refine (isSlam_any p s c l st sk re fe ag player p1 p2 pn1 pc1 pn2 pc2 pp pq xs ys _ a5 cc5 _ _ (H0.out.below (by first | exact HC.out.be | exact HC.out.drew.be)) G.out.q1 G.out.t1 G.out.p2 G.out.n1 G.out.pl HRin.out rfl HLn.out (by first | exact HR5.out | exact HR5.out.drewN 1) Hcap.out).mono ?_; rintro e w6 ⟨rfl, hb6⟩; have HC := Lib.hid (by first | exact HC.out.below hb6 | exact HC.out.drew.below hb6 : CpAt w p s c l st sk re fe ag player p1 p2 pn1 pc1 pn2 pc2 pp pq w6); clear hb6))
    go_wp2_with fail
    go_ret
    exact ⟨rfl, HC.out.be⟩
  · have t1 : (l == 2) = false := by simpa using hl
    rw [decide_eq_false hl, Bool.false_and]
    clear hl
    go_enter Try.func78, Try.ntmps78
    go_wp2_with fail
    go_quiet (fail)
    go_wp2_with fail
    go_ret
    exact ⟨rfl, by first | exact HC.out.be | exact (show Below w.heap.size w _ from HC.out.be.trans ((Below.refl _ _).mono HC.out.be.size)) | exact HC.out.drew.be | exact below_dn HC.out.be _⟩
set_option maxHeartbeats 4000000 in
set_option maxRecDepth 100000 in
theorem pits_any (p s c l : Int) (st sk re fe ag : Bool) (player : Int) (p1 p2 : Option Addr) (pn1 pc1 pn2 pc2 : Nat) (pp pq : Int) (xs ys : List Int) (w : World) (h : PosR w p1 p2 pn1 pn2 xs ys) (g : Good p s c l st sk re fe ag player pn1 pn2 pp xs ys) (hcap : pn1 ≤ pc1) :
    Calls Try.prog 59 #[.agg #[.int .i64 p, .int .i64 s, .bool st, .bool sk, .bool re, .bool fe, .bool ag, .int .i64 c, .int .i64 l, .int .i64 player, .slice p1 pn1 pc1, .slice p2 pn2 pc2, .int .i64 pp, .int .i64 pq]] w (OwnP (pitsF c l p player pp xs) (pitsF c l p player pp xs).length w) := by
  have HC := Lib.hid (cp_new p s c l st sk re fe ag player p1 p2 pn1 pc1 pn2 pc2 pp pq w 73)
  obtain ⟨⟨_, c0, c1, c2, c3, c4, c5, c6, c7, c8, c9, c10, c11, c12, c13⟩, -⟩ := HC.out
  have hpf : pitsF c l p player pp xs = if decide (l = 2) && slamB p player xs (rawF c p player pp xs) then [] else rawF c p player pp xs := rfl
  have HRaw : Hid (∀ u, Below w.heap.size w u → Calls Try.prog 79 #[.agg #[.int .i64 p, .int .i64 s, .bool st, .bool sk, .bool re, .bool fe, .bool ag, .int .i64 c, .int .i64 l, .int .i64 player, .slice p1 pn1 pc1, .slice p2 pn2 pc2, .int .i64 pp, .int .i64 pq]] u (OwnP (rawF c p player pp xs) (rawF c p player pp xs).length u)) := Lib.hid (fun u hu => rawI_any p s c l st sk re fe ag player _ _ _ _ _ _ _ _ xs ys u (h.below hu) g)
  have HSp : Hid (∀ u, Below w.heap.size w u → Calls Try.prog 78 #[.agg #[.int .i64 p, .int .i64 s, .bool st, .bool sk, .bool re, .bool fe, .bool ag, .int .i64 c, .int .i64 l, .int .i64 player, .slice p1 pn1 pc1, .slice p2 pn2 pc2, .int .i64 pp, .int .i64 pq]] u fun e w' => e = .returned (.bool (decide (l = 2) && slamB p player xs (rawF c p player pp xs))) ∧ Below u.heap.size u w') := Lib.hid (fun u hu => spared_any p s c l st sk re fe ag player p1 p2 pn1 pc1 pn2 pc2 pp pq xs ys u (h.below hu) g hcap)
  generalize pitsF c l p player pp xs = PF at *
  generalize rawF c p player pp xs = R at *
  generalize (decide (l = 2) && slamB p player xs R) = sb at *
  clear h g hcap
  cases sb
  · have e : PF = R := by rw [hpf]; simp
    subst e
    clear hpf
    go_enter Try.func59, Try.ntmps59
    go_wp2_with (first | (go_at_call 78; refine (HSp.out _ HC.out.be).mono ?_; rintro e w4 ⟨rfl, hb4⟩; have HC := Lib.hid (HC.out.below hb4); clear hb4; obtain ⟨⟨_, c0, c1, c2, c3, c4, c5, c6, c7, c8, c9, c10, c11, c12, c13⟩, -⟩ := HC.out) | (go_at_call 79; refine (HRaw.out _ HC.out.be).mono ?_; rintro e w5 ⟨v5, rfl, hown, hb5⟩; have HO := Lib.hid (own_lower hown (by have h1 := HC.out.be.size; exact h1)); have HC := Lib.hid (HC.out.below hb5); clear hown hb5))
    go_ret
    exact ⟨_, rfl, HO.out, HC.out.be⟩
  · have e : PF = [] := by rw [hpf]; rfl
    subst e
    clear hpf
    go_enter Try.func59, Try.ntmps59
    go_wp2_with (go_at_call 78; refine (HSp.out _ HC.out.be).mono ?_; rintro e w4 ⟨rfl, hb4⟩; have HC := Lib.hid (HC.out.below hb4); clear hb4; obtain ⟨⟨_, c0, c1, c2, c3, c4, c5, c6, c7, c8, c9, c10, c11, c12, c13⟩, -⟩ := HC.out)
    go_ret
    exact ⟨_, rfl, World.ownsRow_nil _ _ _ _, HC.out.be⟩
end Go.Proofs.Ytdhkfkfoibddnaa
