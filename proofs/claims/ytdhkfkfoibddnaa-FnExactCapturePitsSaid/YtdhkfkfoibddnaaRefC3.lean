/- Slams, gains and pits of captures, as the reference answers. No conditions. -/
import Derived.Test.YtdhkfkfoibddnaaRefC2
import Derived.Test.YtdhkfkfoibddnaaCap13
namespace Go.Proofs.Ytdhkfkfoibddnaa
open Go.Joins Go.ChangeShapes Go.WideShapes Go.ChangeAt Go.RowKit Go.Deep
set_option linter.unusedVariables false

theorem l04Side_p (p : Int) (b : Nat) (a : Option Addr) (cc n : Nat) (xs : List Int) (player : Int) (w : World) (c0 : w.cell? ⟨b, 0, none⟩ = some (.int .i64 p)) (hn : xs.length = n) (h : RowN w a xs) (hp : 2 ≤ p ∧ p ≤ 8) (h2 : (n : Int) = 2 * p) (hpl : player = 0 ∨ player = 1) (hpos : posB xs = true) (ht : tot xs ≤ 96) :
    Calls Try.prog 69 #[.pointer (some ⟨b, 0, none⟩), .slice a n cc, .int .i64 player] w fun e w' => e = .returned (.int .i64 (tot (halfL xs p.toNat player))) ∧ w = w' := by
  obtain ⟨P, rfl⟩ : ∃ P : Nat, p = (P : Int) := ⟨p.toNat, by omega⟩
  rw [Int.toNat_natCast]
  exact l04Side_any P b a cc n xs player w c0 hn h (by omega) (by omega) (by omega) hpl hpos ht
set_option maxHeartbeats 4000000 in
set_option maxRecDepth 100000 in
theorem l06Slam_any (p s c l : Int) (st sk re fe ag : Bool) (player : Int) (p1 p2 : Option Addr) (pn1 pc1 pn2 pc2 : Nat) (pp pq : Int) (xs ys : List Int) (b d : Nat) (w : World) (hr : RuAt w b p s c l st sk re fe ag) (hs : SoAt w d p1 p2 pn1 pc1 pn2 pc2 pp pq) (h : PosR w p1 p2 pn1 pn2 xs ys) (g : Good p s c l st sk re fe ag player pn1 pn2 pp xs ys) :
    Calls Try.prog 67 #[.pointer (some ⟨b, 0, none⟩), .pointer (some ⟨d, 0, none⟩), .int .i64 player] w fun e w' => e = .returned (.bool (slamF c p player pp xs)) ∧ Below w.heap.size w w' := by
  have HX := Lib.hid (show L6N w b d p s c l st sk re fe ag p1 p2 pn1 pc1 pn2 pc2 pp pq w from ⟨hr, hs, Below.refl _ _⟩)
  have HRaw := Lib.hid (l06Raw_any p s c l st sk re fe ag player p1 p2 pn1 pc1 pn2 pc2 pp pq xs ys b d w hr hs h g)
  have H0 := Lib.hid h
  have G := Lib.hid g
  have hRin := g.raw c
  have hLn : (rawF c p player pp xs).length ≤ 1000 := by have := raw_len (cp := c) (pl := player) (xs := xs) g.p2.2 g.p2.1 g.l2; omega
  have g1 := g.p2.1
  have g2 := g.p2.2
  have gn := g.n1
  have HPl : Hid (1 - player = 0 ∨ 1 - player = 1) := Lib.hid (by have := g.pl; omega)
  have hlp : xs.length = 2 * p.toNat := by have := h.l1; omega
  have hht := half_tot hlp HPl.out g.q1
  have HT0 : Hid (tot (halfL xs p.toNat (1 - player)) ≤ 96) := Lib.hid (by have := g.t1; omega)
  have hw1 : IntKind.i64.wrap (1 - player) = 1 - player := IntWalk.i64_in _ ⟨by have := g.pl; omega, by have := g.pl; omega⟩
  obtain ⟨hb, r0, r1, r2, r3, r4, r5, r6, r7, r8⟩ := hr
  obtain ⟨hd, s0, s1, s2, s3⟩ := hs
  have hsl : slamF c p player pp xs = slamB p player xs (rawF c p player pp xs) := rfl
  rw [hsl]
  generalize rawF c p player pp xs = L at *
  generalize hnn : L.length = n at *
  have Hnn := Lib.hid hnn
  have HGn := Lib.hid gn
  clear h g hlp hht hsl hnn gn
  go_enter Try.func67, Try.ntmps67
  go_wp2_with fail
  refine HRaw.out.mono ?_
  rintro e w5 ⟨v5, rfl, hown, hb5⟩
  obtain ⟨a5, cc5, rfl, hr5⟩ := own_slice hown Hnn.out hLn
  have HR5 := Lib.hid hr5
  have HX := Lib.hid (HX.out.below hb5)
  clear hown hr5 hb5 r0 r1 r2 r3 r4 r5 r6 r7 r8 s0 s1 s2 s3
  obtain ⟨⟨hbl, r0, r1, r2, r3, r4, r5, r6, r7, r8⟩, ⟨hdl, s0, s1, s2, s3⟩, -⟩ := HX.out
  go_wp2_with fail
  go_loopw [8, 9] (fun s0 i wr => ∃ (k m : Nat) (t : Int), k ≤ n ∧ i = .int .i64 k ∧ s0 = .int .i64 t ∧ wr = w5.drewN m ∧ t = takenF p player xs (L.take k)) (fun _ i _ => n - (intOf i).toNat)
  case atStart => exact ⟨0, 0, 0, Nat.zero_le _, rfl, rfl, rfl, rfl⟩
  case round =>
    obtain ⟨k, m, t, hk, rfl, rfl, rfl, ht'⟩ := hrel
    have hb := taken_bd G.out.q1 G.out.t1 p player (L.take k)
    rw [← ht', List.length_take] at hb
    obtain ⟨b0, b1⟩ := hb
    have b2 : t ≤ 96 * 1000 := by omega
    have Ht := Lib.hid ht'
    clear ht' b1
    by_cases hlt : k < n
    · obtain ⟨q, hq⟩ : ∃ q, L[k]? = some q := ⟨L[k]'(by rw [Hnn.out]; exact hlt), List.getElem?_eq_getElem _⟩
      obtain ⟨q0, q1⟩ := hRin q (List.mem_of_getElem? hq)
      obtain ⟨Q, rfl⟩ : ∃ Q : Nat, q = (Q : Int) := ⟨q.toNat, by omega⟩
      have hne : L ≠ [] := by intro e; subst e; cases hq
      obtain ⟨ga, oa, rfl, hga, hca⟩ := HR5.out.2.resolve_left hne
      have ya := hca k _ hq
      obtain ⟨gx, ox, rfl, hg, y⟩ := rowV (k := Q) (H0.out.below HX.out.be).r1 (by have := H0.out.l1; omega)
      obtain ⟨v1, v2⟩ := vAt_bd G.out.q1 G.out.t1 (Q : Int)
      have q2 : (Q : Int) < 2 * p := by have := HGn.out; omega
      have hst := taken_snoc p player xs (L.take k) (Q : Int)
      rw [← take_next hq, ← Ht.out] at hst
      have hne2 := own_ne (p := p) (pl := player) g1 q0 q2 G.out.pl
      have k0 : (0 : Int) ≤ (k : Int) := by omega
      have k1 : (k : Int) < (n : Int) := by omega
      clear hca hq hne
      generalize vAt xs (Q : Int) = v at *
      rcases hb : ownB p (1 - player) (Q : Int) with _ | _
      · rw [hb] at hst hne2
        have Hst := Lib.hid hst
        clear hst hb
        go_wp2_with (go_at_call 86; refine (owner_any p _ _ _ (by go_simp) (by omega) (by omega) (by omega) (by omega)).mono ?_; rintro e w' ⟨rfl, rfl⟩)
        go_roundw
        case rel => exact ⟨k + 1, _, t, by omega, by go_num, rfl, rfl, by rw [Hst.out]; simp⟩
        case measure => simp [intOf]; omega
      · rw [hb, if_pos rfl] at hst
        rw [hb] at hne2
        have Hst := Lib.hid hst
        clear hst hb
        go_wp2_with (go_at_call 86; refine (owner_any p _ _ _ (by go_simp) (by omega) (by omega) (by omega) (by omega)).mono ?_; rintro e w' ⟨rfl, rfl⟩)
        go_region
        go_wp2_with (go_at_call 86; refine (owner_any p _ _ _ (by go_simp) (by omega) (by omega) (by omega) (by omega)).mono ?_; rintro e w' ⟨rfl, rfl⟩)
        go_roundw
        case rel => exact ⟨k + 1, _, t + v, by omega, by go_num, by go_num, rfl, by rw [Hst.out]⟩
        case measure => simp [intOf]; omega
    · obtain rfl : k = n := by omega
      have e1 : L.take k = L := List.take_of_length_le (by rw [Hnn.out]; exact Nat.le_refl _)
      have e2 : slamB p player xs L = (decide (0 < t) && decide (t = tot (halfL xs p.toNat (1 - player)))) := by unfold slamB; rw [Ht.out, e1]
      have HSide : Hid (∀ q, Calls Try.prog 69 #[.pointer (some ⟨b, 0, none⟩), .slice p1 pn1 pc1, .int .i64 (1 - player)] (w5.drewN q) fun e w' => e = .returned (.int .i64 (tot (halfL xs p.toNat (1 - player)))) ∧ w5.drewN q = w') := Lib.hid (fun q => l04Side_p p b p1 pc1 pn1 xs (1 - player) _ HX.out.1.2.1 H0.out.l1 ((H0.out.below HX.out.be).r1.drewN q) ⟨g1, g2⟩ HGn.out HPl.out G.out.q1 G.out.t1)
      clear e1 hRin
      generalize tot (halfL xs p.toNat (1 - player)) = T at *
      by_cases h0 : 0 < t
      · have d0 : decide (0 < t) = true := by simpa using h0
        by_cases h1 : t = T
        · have d1 : (t == T) = true := by simpa using h1
          rw [decide_eq_true h0, decide_eq_true h1] at e2
          have HE2 := Lib.hid e2
          clear h1 e2
          go_wp2_with fail
          refine (HSide.out _).mono ?_
          rintro e w9 ⟨rfl, rfl⟩
          go_wp2_with fail
          go_ret
          exact ⟨by rw [HE2.out]; rfl, (HX.out.dn _).be⟩
        · have d1 : (t == T) = false := by simpa using h1
          rw [decide_eq_false h1, Bool.and_false] at e2
          have HE2 := Lib.hid e2
          clear h1 e2
          go_wp2_with fail
          refine (HSide.out _).mono ?_
          rintro e w9 ⟨rfl, rfl⟩
          go_wp2_with fail
          go_ret
          exact ⟨by rw [HE2.out]; rfl, (HX.out.dn _).be⟩
      · have d0 : decide (0 < t) = false := by simpa using h0
        rw [decide_eq_false h0, Bool.false_and] at e2
        have HE2 := Lib.hid e2
        clear e2
        go_wp2_with fail
        go_ret
        exact ⟨by rw [HE2.out]; rfl, (HX.out.dn _).be⟩
set_option maxHeartbeats 4000000 in
set_option maxRecDepth 100000 in
theorem l06Pits_any (p s c l : Int) (st sk re fe ag : Bool) (player : Int) (p1 p2 : Option Addr) (pn1 pc1 pn2 pc2 : Nat) (pp pq : Int) (xs ys : List Int) (b d : Nat) (w : World) (hr : RuAt w b p s c l st sk re fe ag) (hs : SoAt w d p1 p2 pn1 pc1 pn2 pc2 pp pq) (h : PosR w p1 p2 pn1 pn2 xs ys) (g : Good p s c l st sk re fe ag player pn1 pn2 pp xs ys) :
    Calls Try.prog 58 #[.pointer (some ⟨b, 0, none⟩), .pointer (some ⟨d, 0, none⟩), .int .i64 player] w (OwnP (pitsF c l p player pp xs) (pitsF c l p player pp xs).length w) := by
  have HX := Lib.hid (show L6N w b d p s c l st sk re fe ag p1 p2 pn1 pc1 pn2 pc2 pp pq w from ⟨hr, hs, Below.refl _ _⟩)
  have HRaw : Hid (∀ u, L6N w b d p s c l st sk re fe ag p1 p2 pn1 pc1 pn2 pc2 pp pq u → Calls Try.prog 77 #[.pointer (some ⟨b, 0, none⟩), .pointer (some ⟨d, 0, none⟩), .int .i64 player] u (OwnP (rawF c p player pp xs) (rawF c p player pp xs).length u)) := Lib.hid (fun u hu => l06Raw_any p s c l st sk re fe ag player p1 p2 pn1 pc1 pn2 pc2 pp pq xs ys b d u hu.1 hu.2.1 (h.below hu.be) g)
  have HSl : Hid (∀ u, L6N w b d p s c l st sk re fe ag p1 p2 pn1 pc1 pn2 pc2 pp pq u → Calls Try.prog 67 #[.pointer (some ⟨b, 0, none⟩), .pointer (some ⟨d, 0, none⟩), .int .i64 player] u fun e w' => e = .returned (.bool (slamF c p player pp xs)) ∧ Below u.heap.size u w') := Lib.hid (fun u hu => l06Slam_any p s c l st sk re fe ag player p1 p2 pn1 pc1 pn2 pc2 pp pq xs ys b d u hu.1 hu.2.1 (h.below hu.be) g)
  obtain ⟨hb, r0, r1, r2, r3, r4, r5, r6, r7, r8⟩ := hr
  obtain ⟨hd, s0, s1, s2, s3⟩ := hs
  have hpf : pitsF c l p player pp xs = if decide (l = 2) && slamF c p player pp xs then [] else rawF c p player pp xs := rfl
  rw [hpf]
  generalize rawF c p player pp xs = R at *
  generalize slamF c p player pp xs = sl at *
  clear h g hpf
  by_cases hl : l = 2
  · have t1 : (l == 2) = true := by simpa using hl
    rw [decide_eq_true hl]
    clear hl
    cases sl
    · go_enter Try.func58, Try.ntmps58
      go_wp2_with fail
      refine (HSl.out _ HX.out).mono ?_
      rintro e w5 ⟨rfl, hb5⟩
      have HX := Lib.hid (HX.out.below hb5)
      clear hb5
      go_wp2_with fail
      refine (HRaw.out _ HX.out).mono ?_
      rintro e w6 ⟨v6, rfl, hown, hb6⟩
      have HO := Lib.hid (own_lower hown HX.out.be.size)
      have HX := Lib.hid (HX.out.below hb6)
      clear hown hb6
      go_wp2_with fail
      go_ret
      exact ⟨_, rfl, HO.out, HX.out.be⟩
    · go_enter Try.func58, Try.ntmps58
      go_wp2_with fail
      refine (HSl.out _ HX.out).mono ?_
      rintro e w5 ⟨rfl, hb5⟩
      have HX := Lib.hid (HX.out.below hb5)
      clear hb5
      go_wp2_with fail
      go_ret
      exact ⟨_, rfl, World.ownsRow_made w5 #[] 0 HX.out.be.size (by decide) rfl, (HX.out.below (al1 _ _)).be⟩
  · have t1 : (l == 2) = false := by simpa using hl
    rw [decide_eq_false hl]
    clear hl
    go_enter Try.func58, Try.ntmps58
    go_wp2_with fail
    refine (HRaw.out _ HX.out).mono ?_
    rintro e w6 ⟨v6, rfl, hown, hb6⟩
    have HO := Lib.hid (own_lower hown HX.out.be.size)
    have HX := Lib.hid (HX.out.below hb6)
    clear hown hb6
    go_wp2_with fail
    go_ret
    exact ⟨_, rfl, HO.out, HX.out.be⟩
end Go.Proofs.Ytdhkfkfoibddnaa
