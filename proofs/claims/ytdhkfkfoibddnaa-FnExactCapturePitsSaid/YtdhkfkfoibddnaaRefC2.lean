/- The pits of captures, as the reference finds them. No conditions. -/
import Derived.Test.YtdhkfkfoibddnaaRefC
namespace Go.Proofs.Ytdhkfkfoibddnaa
open Go.Joins Go.ChangeShapes Go.WideShapes Go.ChangeAt Go.RowKit Go.Deep
set_option linter.unusedVariables false

theorem own_dq {w : World} {B e n : Nat} {v : Value} {xs : List Value} (h : w.ownsRow B e 1 v n xs) (q : Nat) : (w.drewN q).ownsRow B e 1 v n xs := own_keep h (below_dn (Below.refl w.heap.size w) q)
theorem own_da {w : World} {B e n : Nat} {v : Value} {xs : List Value} (h : w.ownsRow B e 1 v n xs) (q : Nat) (o : Obj) : ((w.drewN q).alloc o).ownsRow B e 1 v n xs := own_keep (own_dq h q) (al1 _ _)
theorem opp_O (p : Int) (K O : Nat) (b : Nat) (w : World) (c0 : w.cell? ⟨b, 0, none⟩ = some (.int .i64 p)) (h0 : 2 ≤ p) (h1 : p ≤ 8) (h3 : (K : Int) < 2 * p) (hO : 2 * p - 1 - (K : Int) = (O : Int)) :
    Calls Try.prog 94 #[.pointer (some ⟨b, 0, none⟩), .int .i64 K] w fun e w' => e = .returned (.int .i64 (O : Int)) ∧ w = w' := by
  rw [← hO]
  exact opposite_any p K b w c0 h0 h1 (by omega) h3
set_option maxHeartbeats 4000000 in
set_option maxRecDepth 100000 in
theorem l06Raw_2 (p s c l : Int) (st sk re fe ag : Bool) (player : Int) (p1 p2 : Option Addr) (pn1 pc1 pn2 pc2 K : Nat) (pq : Int) (xs ys : List Int) (b d : Nat) (w : World) (hr : RuAt w b p s c l st sk re fe ag) (hs : SoAt w d p1 p2 pn1 pc1 pn2 pc2 (K : Int) pq) (h : PosR w p1 p2 pn1 pn2 xs ys) (g : Good p s c l st sk re fe ag player pn1 pn2 (K : Int) xs ys) (e1 : (c == 1) = false) (e2 : (c == 2) = true)
    (L : List Int) (hL : (if ownB p player K && decide (vAt xs K = 1) && decide (0 < vAt xs (2 * p - 1 - K)) then [(K : Int), 2 * p - 1 - K] else []) = L) :
    Calls Try.prog 77 #[.pointer (some ⟨b, 0, none⟩), .pointer (some ⟨d, 0, none⟩), .int .i64 player] w (OwnP L L.length w) := by
  obtain ⟨i0, hi, hz0, hz1, hz2⟩ := info_parts infoN
  have HX := Lib.hid (show L6N w b d p s c l st sk re fe ag p1 p2 pn1 pc1 pn2 pc2 (K : Int) pq w from ⟨hr, hs, Below.refl _ _⟩)
  have HO := Lib.hid (World.ownsRow_made (e := 2) (size := 1) w #[] 0 (Nat.le_refl _) (by decide) rfl)
  have HX := Lib.hid (HX.out.below (al1 w (.cells #[] 2)))
  have G := Lib.hid g
  obtain ⟨hb, r0, r1, r2, r3, r4, r5, r6, r7, r8⟩ := hr
  obtain ⟨hd, s0, s1, s2, s3⟩ := hs
  have g1 := g.p2.1
  have g2 := g.p2.2
  have g3 := g.l2
  have gn := g.n1
  have k0 : (0 : Int) ≤ (K : Int) := by omega
  have q1 : (K : Int) < (pn1 : Int) := by omega
  obtain ⟨gx, ox, rfl, hg, y⟩ := rowV (k := K) h.r1 (by have := h.l1; omega)
  have oe := own_eq (p := p) (pl := player) g1 k0 g3 g.pl
  obtain ⟨O, hO⟩ : ∃ O : Nat, 2 * p - 1 - (K : Int) = (O : Int) := ⟨(2 * p - 1 - (K : Int)).toNat, by omega⟩
  have q2 : (O : Int) < (pn1 : Int) := by omega
  obtain ⟨g', o', ha, _, y2⟩ := rowV (k := O) h.r1 (by have := h.l1; omega)
  cases ha
  have v20 := (vAt_bd g.q1 g.t1 (O : Int)).1
  rw [hO] at hL
  have HOe := Lib.hid hO
  clear h g gn hO
  generalize vAt xs (K : Int) = v at *
  generalize vAt xs (O : Int) = v2 at *
  rcases hb1 : ownB p player (K : Int) with _ | _
  · have e : L = [] := by rw [← hL, hb1]; rfl
    subst e
    rw [hb1] at oe
    clear hL hb1
    go_enter Try.func77, Try.ntmps77
    go_wp2_with (go_at_call 86; refine (owner_any p _ _ _ (by go_simp) (by omega) (by omega) (by omega) (by omega)).mono ?_; rintro e w' ⟨rfl, rfl⟩)
    go_quiet ((go_at_call 94; exact quiet_w (opp_O p K O _ _ (by go_simp) (by omega) (by omega) (by omega) HOe.out) ⟨_, rfl⟩))
    go_wp2_with (first | (go_at_call 86; refine (owner_any p _ _ _ (by go_simp) (by omega) (by omega) (by omega) (by omega)).mono ?_; rintro e w' ⟨rfl, rfl⟩) | (go_at_call 94; refine (opp_O p K O _ _ (by go_simp) (by omega) (by omega) (by omega) HOe.out).mono ?_; rintro e w' ⟨rfl, rfl⟩))
    go_ret
    exact ⟨_, rfl, own_keep HO.out (below_dn (Below.refl _ _) _), (HX.out.dn _).be⟩
  · rw [hb1] at oe
    by_cases hv : v = 1
    · have t1 : (v == 1) = true := by simp [hv]
      by_cases hv2 : 0 < v2
      · have e : L = [(K : Int), (O : Int)] := by rw [← hL, hb1, decide_eq_true hv, decide_eq_true hv2]; rfl
        subst e
        have t2 : decide (0 < v2) = true := by simpa using hv2
        clear hL hb1 hv
        go_enter Try.func77, Try.ntmps77
        go_wp2_with (go_at_call 86; refine (owner_any p _ _ _ (by go_simp) (by omega) (by omega) (by omega) (by omega)).mono ?_; rintro e w' ⟨rfl, rfl⟩)
        go_quiet ((go_at_call 94; exact quiet_w (opp_O p K O _ _ (by go_simp) (by omega) (by omega) (by omega) HOe.out) ⟨_, rfl⟩))
        go_wp2_with (first | (go_at_call 86; refine (owner_any p _ _ _ (by go_simp) (by omega) (by omega) (by omega) (by omega)).mono ?_; rintro e w' ⟨rfl, rfl⟩) | (go_at_call 94; refine (opp_O p K O _ _ (by go_simp) (by omega) (by omega) (by omega) HOe.out).mono ?_; rintro e w' ⟨rfl, rfl⟩) | (at_builtin; refine wpList_append_own _ rfl _ _ 24 rfl w.heap.size 2 i0 (.int .i64 0) 1 8 Try.underlying24 hi hz0 hz1 hz2 rfl (by decide) _ 0 [] rfl (own_da HO.out _ _) ⟨_, 0, none⟩ 2 2 (nvs [(K : Int), (O : Int)]) rfl (by simp [nvs]) (row_news (by have h := (out_two ((w.alloc (.cells #[] 2)).drewN nq) (K : Int) (O : Int) 2).row; simpa using h)) (nvs_cell _) (by unfold maxLen; omega) (by omega) (by have := HX.out.be.size; simp; omega) ?_; intro v1 w3 hown1 hgrow1 hnil1))
        go_ret
        exact ⟨_, rfl, hown1, (L6N.grown (by first | exact HX.out.below (al1 _ _) | exact HX.out.drew.below (al1 _ _) | exact (HX.out.dn _).below (al1 _ _)) hgrow1 hb hd (fun q hq => (HO.out.lt q hq).1)).be⟩
      · have e : L = [] := by rw [← hL, hb1, decide_eq_false hv2]; simp
        subst e
        have t2 : decide (0 < v2) = false := by simpa using hv2
        clear hL hb1 hv
        go_enter Try.func77, Try.ntmps77
        go_wp2_with (go_at_call 86; refine (owner_any p _ _ _ (by go_simp) (by omega) (by omega) (by omega) (by omega)).mono ?_; rintro e w' ⟨rfl, rfl⟩)
        go_quiet ((go_at_call 94; exact quiet_w (opp_O p K O _ _ (by go_simp) (by omega) (by omega) (by omega) HOe.out) ⟨_, rfl⟩))
        go_wp2_with (first | (go_at_call 86; refine (owner_any p _ _ _ (by go_simp) (by omega) (by omega) (by omega) (by omega)).mono ?_; rintro e w' ⟨rfl, rfl⟩) | (go_at_call 94; refine (opp_O p K O _ _ (by go_simp) (by omega) (by omega) (by omega) HOe.out).mono ?_; rintro e w' ⟨rfl, rfl⟩))
        go_ret
        exact ⟨_, rfl, own_keep HO.out (below_dn (Below.refl _ _) _), (HX.out.dn _).be⟩
    · have t1 : (v == 1) = false := by simp [hv]
      have e : L = [] := by rw [← hL, decide_eq_false hv]; simp
      subst e
      clear hL hb1 hv
      go_enter Try.func77, Try.ntmps77
      go_wp2_with (go_at_call 86; refine (owner_any p _ _ _ (by go_simp) (by omega) (by omega) (by omega) (by omega)).mono ?_; rintro e w' ⟨rfl, rfl⟩)
      go_quiet ((go_at_call 94; exact quiet_w (opp_O p K O _ _ (by go_simp) (by omega) (by omega) (by omega) HOe.out) ⟨_, rfl⟩))
      go_wp2_with (first | (go_at_call 86; refine (owner_any p _ _ _ (by go_simp) (by omega) (by omega) (by omega) (by omega)).mono ?_; rintro e w' ⟨rfl, rfl⟩) | (go_at_call 94; refine (opp_O p K O _ _ (by go_simp) (by omega) (by omega) (by omega) HOe.out).mono ?_; rintro e w' ⟨rfl, rfl⟩))
      go_ret
      exact ⟨_, rfl, own_keep HO.out (below_dn (Below.refl _ _) _), (HX.out.dn _).be⟩
set_option maxHeartbeats 4000000 in
set_option maxRecDepth 100000 in
theorem l06Raw_3 (p s c l : Int) (st sk re fe ag : Bool) (player : Int) (p1 p2 : Option Addr) (pn1 pc1 pn2 pc2 K : Nat) (pq : Int) (xs ys : List Int) (b d : Nat) (w : World) (hr : RuAt w b p s c l st sk re fe ag) (hs : SoAt w d p1 p2 pn1 pc1 pn2 pc2 (K : Int) pq) (h : PosR w p1 p2 pn1 pn2 xs ys) (g : Good p s c l st sk re fe ag player pn1 pn2 (K : Int) xs ys) (e1 : (c == 1) = false) (e2 : (c == 2) = false) (e3 : (c == 3) = true)
    (L : List Int) (hL : (if ownB p (1 - player) K && decide (vAt xs K % 2 = 0) then [(K : Int)] else []) = L) :
    Calls Try.prog 77 #[.pointer (some ⟨b, 0, none⟩), .pointer (some ⟨d, 0, none⟩), .int .i64 player] w (OwnP L L.length w) := by
  obtain ⟨i0, hi, hz0, hz1, hz2⟩ := info_parts infoN
  have HX := Lib.hid (show L6N w b d p s c l st sk re fe ag p1 p2 pn1 pc1 pn2 pc2 (K : Int) pq w from ⟨hr, hs, Below.refl _ _⟩)
  have HO := Lib.hid (World.ownsRow_made (e := 2) (size := 1) w #[] 0 (Nat.le_refl _) (by decide) rfl)
  have HX := Lib.hid (HX.out.below (al1 w (.cells #[] 2)))
  have G := Lib.hid g
  obtain ⟨hb, r0, r1, r2, r3, r4, r5, r6, r7, r8⟩ := hr
  obtain ⟨hd, s0, s1, s2, s3⟩ := hs
  have g1 := g.p2.1
  have g2 := g.p2.2
  have g3 := g.l2
  have gn := g.n1
  have k0 : (0 : Int) ≤ (K : Int) := by omega
  have q1 : (K : Int) < (pn1 : Int) := by omega
  obtain ⟨gx, ox, rfl, hg, y⟩ := rowV (k := K) h.r1 (by have := h.l1; omega)
  have oe := own_eq (p := p) (pl := player) g1 k0 g3 g.pl
  rw [own_other g1 k0 g3 g.pl] at hL
  have v0 := (vAt_bd g.q1 g.t1 (K : Int)).1
  clear h g gn
  generalize vAt xs (K : Int) = v at *
  rcases hb1 : ownB p player (K : Int) with _ | _
  · rw [hb1] at oe hL
    by_cases hv : v % 2 = 0
    · have e : L = [(K : Int)] := by rw [← hL, decide_eq_true hv]; rfl
      subst e
      have t1 : (v % 2 == 0) = true := by simp [hv]
      have t2 : (v.tmod 2 == 0) = true := by rw [Int.tmod_eq_emod_of_nonneg v0]; exact t1
      clear hL hb1 hv
      go_enter Try.func77, Try.ntmps77
      go_wp2_with (first | (go_at_call 86; refine (owner_any p _ _ _ (by go_simp) (by omega) (by omega) (by omega) (by omega)).mono ?_; rintro e w' ⟨rfl, rfl⟩) | (at_builtin; refine wpList_append_own _ rfl _ _ 24 rfl w.heap.size 2 i0 (.int .i64 0) 1 8 Try.underlying24 hi hz0 hz1 hz2 rfl (by decide) _ 0 [] rfl (own_keep HO.out (al1 _ _)) ⟨_, 0, none⟩ 1 1 (nvs [(K : Int)]) rfl (by simp [nvs]) (row_news (by have h := row_1 (w.alloc (.cells #[] 2)) (K : Int) 2; simpa using h)) (nvs_cell _) (by unfold maxLen; omega) (by omega) (by have := HX.out.be.size; simp; omega) ?_; intro v1 w3 hown1 hgrow1 hnil1))
      go_ret
      exact ⟨_, rfl, hown1, (L6N.grown (by first | exact HX.out.below (al1 _ _) | exact HX.out.drew.below (al1 _ _) | exact (HX.out.dn _).below (al1 _ _)) hgrow1 hb hd (fun q hq => (HO.out.lt q hq).1)).be⟩
    · have e : L = [] := by rw [← hL, decide_eq_false hv]; simp
      subst e
      have t1 : (v % 2 == 0) = false := by simp [hv]
      have t2 : (v.tmod 2 == 0) = false := by rw [Int.tmod_eq_emod_of_nonneg v0]; exact t1
      clear hL hb1 hv
      go_enter Try.func77, Try.ntmps77
      go_wp2_with (go_at_call 86; refine (owner_any p _ _ _ (by go_simp) (by omega) (by omega) (by omega) (by omega)).mono ?_; rintro e w' ⟨rfl, rfl⟩)
      go_ret
      exact ⟨_, rfl, HO.out, HX.out.be⟩
  · rw [hb1] at oe hL
    have e : L = [] := by rw [← hL]; rfl
    subst e
    clear hL hb1
    go_enter Try.func77, Try.ntmps77
    go_wp2_with (go_at_call 86; refine (owner_any p _ _ _ (by go_simp) (by omega) (by omega) (by omega) (by omega)).mono ?_; rintro e w' ⟨rfl, rfl⟩)
    go_ret
    exact ⟨_, rfl, HO.out, HX.out.be⟩
theorem l06Raw_any (p s c l : Int) (st sk re fe ag : Bool) (player : Int) (p1 p2 : Option Addr) (pn1 pc1 pn2 pc2 : Nat) (pp pq : Int) (xs ys : List Int) (b d : Nat) (w : World) (hr : RuAt w b p s c l st sk re fe ag) (hs : SoAt w d p1 p2 pn1 pc1 pn2 pc2 pp pq) (h : PosR w p1 p2 pn1 pn2 xs ys) (g : Good p s c l st sk re fe ag player pn1 pn2 pp xs ys) :
    Calls Try.prog 77 #[.pointer (some ⟨b, 0, none⟩), .pointer (some ⟨d, 0, none⟩), .int .i64 player] w (OwnP (rawF c p player pp xs) (rawF c p player pp xs).length w) := by
  by_cases hz : pp < 0 ∨ c = 0
  · have er : rawF c p player pp xs = [] := by
      unfold rawF
      by_cases hlt : pp < 0
      · rw [if_pos hlt]
      · have e : c = 0 := by omega
        rw [if_neg hlt, if_neg (show ¬ c = 1 by omega), if_neg (show ¬ c = 2 by omega), if_neg (show ¬ c = 3 by omega)]
    rw [er]
    exact l06Raw_0 p s c l st sk re fe ag player p1 p2 pn1 pc1 pn2 pc2 pp pq xs ys b d w hr hs g hz
  · have hlt : ¬ pp < 0 := by omega
    have hc := g.c3
    obtain ⟨K, rfl⟩ : ∃ K : Nat, pp = (K : Int) := ⟨pp.toNat, by omega⟩
    rcases (show c = 1 ∨ c = 2 ∨ c = 3 by omega) with e | e | e
    · have er : rawF c p player (K : Int) xs = twF p player xs (K + 1) := by unfold rawF; rw [if_neg hlt, if_pos e]; rfl
      rw [er]
      exact l06Raw_1 p s c l st sk re fe ag player _ _ _ _ _ _ _ _ xs ys (K + 1) b d w hr hs h g (by omega) (by omega) (by simp [e])
    · refine l06Raw_2 p s c l st sk re fe ag player _ _ _ _ _ _ K _ xs ys b d w hr hs h g (by simp [e]) (by simp [e]) _ ?_
      unfold rawF
      rw [if_neg hlt, if_neg (show ¬ c = 1 by omega), if_pos e]
    · refine l06Raw_3 p s c l st sk re fe ag player _ _ _ _ _ _ K _ xs ys b d w hr hs h g (by simp [e]) (by simp [e]) (by simp [e]) _ ?_
      unfold rawF
      rw [if_neg hlt, if_neg (show ¬ c = 1 by omega), if_neg (show ¬ c = 2 by omega), if_pos e]
end Go.Proofs.Ytdhkfkfoibddnaa
