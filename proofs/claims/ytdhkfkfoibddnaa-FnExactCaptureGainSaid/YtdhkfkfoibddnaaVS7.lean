/- ValidSown of the reference and of the program, whole. No conditions. -/
import Derived.Test.YtdhkfkfoibddnaaVS6
import Derived.Test.YtdhkfkfoibddnaaPosZ
namespace Go.Proofs.Ytdhkfkfoibddnaa
open Go.Joins Go.ChangeShapes Go.WideShapes Go.ChangeAt Go.RowKit Go.Deep
set_option linter.unusedVariables false

theorem RsAt.be {w u : World} {p s c l : Int} {st sk re fe ag : Bool} {p1 p2 : Option Addr} {pn1 pc1 pn2 pc2 : Nat} {pp pq : Int} (h : RsAt w p s c l st sk re fe ag p1 p2 pn1 pc1 pn2 pc2 pp pq u) : Below w.heap.size w u := h.2.2
theorem okS_eq (k : Bool) (p : Int) (st : Bool) (n1 n2 : Nat) (la lp pl : Int) (xs ys : List Int) :
    okS k p st n1 n2 la lp pl xs ys = (okP k p n1 n2 0 xs ys && isPl pl && (decide (1 ≤ lp) && decide (lp ≤ 100)) && lastB st p pl la xs ys) := by
  unfold okS
  rw [okP_pl]
/-- Rules and sown seeds in memory. -/
def L6N (w : World) (b d : Nat) (p s c l : Int) (st sk re fe ag : Bool) (p1 p2 : Option Addr) (pn1 pc1 pn2 pc2 : Nat) (pp pq : Int) (u : World) : Prop := RuAt u b p s c l st sk re fe ag ∧ SoAt u d p1 p2 pn1 pc1 pn2 pc2 pp pq ∧ Below w.heap.size w u
/-- Rules, sown seeds and a cell in memory. -/
def L6A (w : World) (b d : Nat) (p s c l : Int) (st sk re fe ag : Bool) (p1 p2 : Option Addr) (pn1 pc1 pn2 pc2 : Nat) (pp pq : Int) (q : Addr) (v : Int) (u : World) : Prop := RuAt u b p s c l st sk re fe ag ∧ SoAt u d p1 p2 pn1 pc1 pn2 pc2 pp pq ∧ u.cell? q = some (.int .i64 v) ∧ Below w.heap.size w u
section
variable {w u : World} {b d : Nat} {p s c l : Int} {st sk re fe ag : Bool} {p1 p2 : Option Addr} {pn1 pc1 pn2 pc2 : Nat} {pp pq : Int} {q : Addr} {v : Int}
theorem L6N.drew (h : L6N w b d p s c l st sk re fe ag p1 p2 pn1 pc1 pn2 pc2 pp pq u) : L6N w b d p s c l st sk re fe ag p1 p2 pn1 pc1 pn2 pc2 pp pq u.drew := ⟨h.1, h.2.1, h.2.2.drew⟩
theorem L6A.drew (h : L6A w b d p s c l st sk re fe ag p1 p2 pn1 pc1 pn2 pc2 pp pq q v u) : L6A w b d p s c l st sk re fe ag p1 p2 pn1 pc1 pn2 pc2 pp pq q v u.drew := ⟨h.1, h.2.1, h.2.2.1, h.2.2.2.drew⟩
theorem L6N.dn (h : L6N w b d p s c l st sk re fe ag p1 p2 pn1 pc1 pn2 pc2 pp pq u) (m : Nat) : L6N w b d p s c l st sk re fe ag p1 p2 pn1 pc1 pn2 pc2 pp pq (u.drewN m) := ⟨h.1, h.2.1, below_dn h.2.2 m⟩
theorem L6A.dn (h : L6A w b d p s c l st sk re fe ag p1 p2 pn1 pc1 pn2 pc2 pp pq q v u) (m : Nat) : L6A w b d p s c l st sk re fe ag p1 p2 pn1 pc1 pn2 pc2 pp pq q v (u.drewN m) := ⟨h.1, h.2.1, h.2.2.1, below_dn h.2.2.2 m⟩
end
set_option maxHeartbeats 4000000 in
set_option maxRecDepth 100000 in
theorem l06Ok_any (p s c l : Int) (st sk re fe ag : Bool) (p1 p2 : Option Addr) (pn1 pc1 pn2 pc2 : Nat) (pp pq : Int) (xs ys : List Int) (player : Int) (b d : Nat) (w : World) (hr : RuAt w b p s c l st sk re fe ag) (hs : SoAt w d p1 p2 pn1 pc1 pn2 pc2 pp pq) (h : PosR w p1 p2 pn1 pn2 xs ys) (k : Bool) (hk : okS (okR p s c l st ag) p st pn1 pn2 pp pq player xs ys = k) :
    Calls Try.prog 54 #[.pointer (some ⟨b, 0, none⟩), .pointer (some ⟨d, 0, none⟩), .int .i64 player] w fun e w' => e = .returned (.bool k) ∧ Below w.heap.size w w' := by
  rw [okS_eq] at hk
  have BB := Lib.hid ((Below.refl w.heap.size w).alloc (Nat.le_refl _) (.cells #[.slice p1 pn1 pc1, .slice p2 pn2 pc2, .int .i64 0] 32))
  have HRu : Hid (RuAt (w.alloc (.cells #[.slice p1 pn1 pc1, .slice p2 pn2 pc2, .int .i64 0] 32)).drew b p s c l st sk re fe ag) := Lib.hid (hr.below (al1 w (.cells #[.slice p1 pn1 pc1, .slice p2 pn2 pc2, .int .i64 0] 32)).drew)
  have HPo : Hid (PoAt (w.alloc (.cells #[.slice p1 pn1 pc1, .slice p2 pn2 pc2, .int .i64 0] 32)).drew w.heap.size p1 p2 pn1 pc1 pn2 pc2 0) := Lib.hid ((po_new p1 p2 pn1 pc1 pn2 pc2 0 w 32).below (Below.refl _ _).drew)
  have HSo : Hid (SoAt (w.alloc (.cells #[.slice p1 pn1 pc1, .slice p2 pn2 pc2, .int .i64 0] 32)).drew d p1 p2 pn1 pc1 pn2 pc2 pp pq) := Lib.hid (hs.below (al1 w (.cells #[.slice p1 pn1 pc1, .slice p2 pn2 pc2, .int .i64 0] 32)).drew)
  have HP : Hid (PosR (w.alloc (.cells #[.slice p1 pn1 pc1, .slice p2 pn2 pc2, .int .i64 0] 32)).drew p1 p2 pn1 pn2 xs ys) := Lib.hid (h.below (al1 w (.cells #[.slice p1 pn1 pc1, .slice p2 pn2 pc2, .int .i64 0] 32)).drew)
  obtain ⟨hsl, s0, s1, s2, s3⟩ := hs
  obtain ⟨hbl, r0, r1, r2, r3, r4, r5, r6, r7, r8⟩ := hr
  have H0 := Lib.hid h
  clear h
  rcases h1 : okP (okR p s c l st ag) p pn1 pn2 0 xs ys with _ | _
  · rw [h1] at hk
    simp only [Bool.false_and] at hk
    have H1 := Lib.hid h1
    have Hk := Lib.hid hk
    clear h1 hk
    rw [← Hk.out]
    go_enter Try.func54, Try.ntmps54
    go_wp2_with fail
    go_region
    go_wp2_with fail
    refine (l04Ok_at p s c l st sk re fe ag p1 p2 pn1 pc1 pn2 pc2 0 xs ys _ _ _ HRu.out HPo.out HP.out _ H1.out).mono ?_
    rintro e u ⟨rfl, m, rfl⟩
    go_wp2_with fail
    go_ret
    exact ⟨rfl, below_dn BB.out _⟩
  · rw [h1] at hk
    have hP := okP_parts h1
    have hR := okR_bd hP.1
    obtain ⟨hp2, hp8, -⟩ := hR
    obtain ⟨-, hn1, hn2, -, hsd⟩ := hP
    have H1 := Lib.hid h1
    have hq0 : (0 : Int) < (pn2 : Int) := by omega
    have hq1 : (1 : Int) < (pn2 : Int) := by omega
    have Hn1 := Lib.hid hn1
    have Hn2 := Lib.hid hn2
    rcases h2 : isPl player with _ | _
    · rw [h2] at hk
      simp only [Bool.true_and, Bool.false_and] at hk
      have Hk := Lib.hid hk
      have H2 : Hid ((decide (0 ≤ player) && decide (player ≤ 1)) = false) := Lib.hid h2
      clear h1 h2 hk hn1 hn2
      rw [← Hk.out]
      go_enter Try.func54, Try.ntmps54
      go_wp2_with fail
      go_region
      go_wp2_with fail
      refine (l04Ok_at p s c l st sk re fe ag p1 p2 pn1 pc1 pn2 pc2 0 xs ys _ _ _ HRu.out HPo.out HP.out _ H1.out).mono ?_
      rintro e u ⟨rfl, m, rfl⟩
      go_wp2_with fail
      refine (in_b player 0 1 false H2.out _).mono ?_
      rintro e u2 ⟨rfl, rfl⟩
      go_wp2_with fail
      go_ret
      exact ⟨rfl, below_dn BB.out _⟩
    · have hpl : player = 0 ∨ player = 1 := by
        unfold isPl at h2
        simp only [Bool.and_eq_true, decide_eq_true_eq] at h2
        omega
      rw [h2] at hk
      have H2 : Hid ((decide (0 ≤ player) && decide (player ≤ 1)) = true) := Lib.hid h2
      rcases h3 : (decide (1 ≤ pq) && decide (pq ≤ 100)) with _ | _
      · rw [h3] at hk
        simp only [Bool.true_and, Bool.false_and] at hk
        have Hk := Lib.hid hk
        have H3 := Lib.hid h3
        clear h1 h2 h3 hk hn1 hn2
        rw [← Hk.out]
        go_enter Try.func54, Try.ntmps54
        go_wp2_with fail
        go_region
        go_wp2_with fail
        refine (l04Ok_at p s c l st sk re fe ag p1 p2 pn1 pc1 pn2 pc2 0 xs ys _ _ _ HRu.out HPo.out HP.out _ H1.out).mono ?_
        rintro e u ⟨rfl, m, rfl⟩
        go_wp2_with fail
        refine (in_b player 0 1 true H2.out _).mono ?_
        rintro e u2 ⟨rfl, rfl⟩
        go_wp2_with fail
        refine (in_b pq 1 100 false H3.out _).mono ?_
        rintro e u3 ⟨rfl, rfl⟩
        go_wp2_with fail
        go_ret
        exact ⟨rfl, below_dn BB.out _⟩
      · rw [h3] at hk
        simp only [Bool.true_and] at hk
        have H3 := Lib.hid h3
        have Hk := Lib.hid hk
        have hl2 := HP.out.l2
        have hl1 := HP.out.l1
        clear h1 h2 h3 hk
        by_cases h4 : pp = -1
        · subst h4
          have hk := Hk.out
          unfold lastB at hk
          rw [if_pos rfl] at hk
          rcases st with _ | _
          · have Hk := Lib.hid hk
            clear hk hn1 hn2 hl1 hl2
            rw [← Hk.out]
            go_enter Try.func54, Try.ntmps54
            go_wp2_with fail
            go_region
            go_wp2_with fail
            refine (l04Ok_at p s c l false sk re fe ag p1 p2 pn1 pc1 pn2 pc2 0 xs ys _ _ _ HRu.out HPo.out HP.out _ H1.out).mono ?_
            rintro e u ⟨rfl, m, rfl⟩
            go_wp2_with fail
            refine (in_b player 0 1 true H2.out _).mono ?_
            rintro e u2 ⟨rfl, rfl⟩
            go_wp2_with fail
            refine (in_b pq 1 100 true H3.out _).mono ?_
            rintro e u3 ⟨rfl, rfl⟩
            go_wp2_with fail
            go_ret
            exact ⟨rfl, below_dn BB.out _⟩
          · skip
            rcases hpl with rfl | rfl
            · obtain ⟨g, o, rfl, hg, y⟩ := rowV (k := 0) H0.out.r2 (by omega)
              have hy : vAt ys ((0 : Nat) : Int) = vAt ys 0 := rfl
              rw [hy] at y
              try rw [Nat.add_zero] at y
              generalize vAt ys 0 = v at *
              have Hk := Lib.hid hk
              clear hk hy hn1 hn2 hl1 hl2
              rw [← Hk.out]
              go_enter Try.func54, Try.ntmps54
              go_wp2_with fail
              go_region
              go_wp2_with fail
              refine (l04Ok_at p s c l true sk re fe ag p1 (some ⟨g, o, none⟩) pn1 pc1 pn2 pc2 0 xs ys _ _ _ HRu.out HPo.out HP.out _ H1.out).mono ?_
              rintro e u ⟨rfl, m, rfl⟩
              go_wp2_with fail
              refine (in_b 0 0 1 true H2.out _).mono ?_
              rintro e u2 ⟨rfl, rfl⟩
              go_wp2_with fail
              refine (in_b pq 1 100 true H3.out _).mono ?_
              rintro e u3 ⟨rfl, rfl⟩
              go_wp2_with fail
              go_ret
              exact ⟨rfl, below_dn BB.out _⟩
            · obtain ⟨g, o, rfl, hg, y⟩ := rowV (k := 1) H0.out.r2 (by omega)
              have hy : vAt ys ((1 : Nat) : Int) = vAt ys 1 := rfl
              rw [hy] at y
              try rw [Nat.add_zero] at y
              generalize vAt ys 1 = v at *
              have Hk := Lib.hid hk
              clear hk hy hn1 hn2 hl1 hl2
              rw [← Hk.out]
              go_enter Try.func54, Try.ntmps54
              go_wp2_with fail
              go_region
              go_wp2_with fail
              refine (l04Ok_at p s c l true sk re fe ag p1 (some ⟨g, o, none⟩) pn1 pc1 pn2 pc2 0 xs ys _ _ _ HRu.out HPo.out HP.out _ H1.out).mono ?_
              rintro e u ⟨rfl, m, rfl⟩
              go_wp2_with fail
              refine (in_b 1 0 1 true H2.out _).mono ?_
              rintro e u2 ⟨rfl, rfl⟩
              go_wp2_with fail
              refine (in_b pq 1 100 true H3.out _).mono ?_
              rintro e u3 ⟨rfl, rfl⟩
              go_wp2_with fail
              go_ret
              exact ⟨rfl, below_dn BB.out _⟩
        · have e0 : (pp == (-1 : Int)) = false := by simpa using h4
          have hk := Hk.out
          unfold lastB at hk
          rw [if_neg h4] at hk
          rcases h5 : (decide (0 ≤ pp) && decide (pp ≤ 2 * p - 1)) with _ | _
          · rw [h5] at hk
            have H5 := Lib.hid h5
            have Hk := Lib.hid hk
            clear hk h5 h4 hn1 hn2 hl1 hl2
            rw [← Hk.out]
            go_enter Try.func54, Try.ntmps54
            go_wp2_with fail
            go_region
            go_wp2_with fail
            refine (l04Ok_at p s c l st sk re fe ag p1 p2 pn1 pc1 pn2 pc2 0 xs ys _ _ _ HRu.out HPo.out HP.out _ H1.out).mono ?_
            rintro e u ⟨rfl, m, rfl⟩
            go_wp2_with fail
            refine (in_b player 0 1 true H2.out _).mono ?_
            rintro e u2 ⟨rfl, rfl⟩
            go_wp2_with fail
            refine (in_b pq 1 100 true H3.out _).mono ?_
            rintro e u3 ⟨rfl, rfl⟩
            go_wp2_with fail
            have HX : Hid (L6N w b d p s c l st sk re fe ag p1 p2 pn1 pc1 pn2 pc2 pp pq ((w.alloc (.cells #[.slice p1 pn1 pc1, .slice p2 pn2 pc2, .int .i64 0] 32)).drewN (1 + m))) := Lib.hid ((show L6N w b d p s c l st sk re fe ag p1 p2 pn1 pc1 pn2 pc2 pp pq (w.alloc (.cells #[.slice p1 pn1 pc1, .slice p2 pn2 pc2, .int .i64 0] 32)) from ⟨HRu.out, HSo.out, BB.out⟩).dn _)
            clear hbl r0 r1 r2 r3 r4 r5 r6 r7 r8 hsl s0 s1 s2 s3
            have hw1 : IntKind.i64.wrap (2 * p) = 2 * p := IntWalk.i64_in _ ⟨by omega, by omega⟩
            have hw2 : IntKind.i64.wrap (2 * p - 1) = 2 * p - 1 := IntWalk.i64_in _ ⟨by omega, by omega⟩
            apply region_class (L6N w b d p s c l st sk re fe ag p1 p2 pn1 pc1 pn2 pc2 pp pq) (by kernel_rfl) (by kernel_rfl) (HX.out.drew)
            repeat (first
              | (apply step_skip (by rfl)
                 simp only [Act.put, List.setIfInBounds_toArray, List.set_cons_zero, List.set_cons_succ])
              | (apply step_val (by rfl)
                 · intro u hu
                   obtain ⟨⟨_, r0, r1, r2, r3, r4, r5, r6, r7, r8⟩, ⟨_, g0, g1, g2, g3⟩, _⟩ := hu
                   go_simp
                   try with_reducible rfl
                 simp only [Act.put, List.setIfInBounds_toArray, List.set_cons_zero, List.set_cons_succ])
              | (apply step_call (by rfl)
                 · intro u
                   go_simp
                   exact ⟨rfl, rfl⟩
                 · intro u hu
                   (with_reducible refine (in_b pp 0 (2 * p - 1) false H5.out _).mono ?_); (rintro e u' ⟨rfl, rfl⟩; exact ⟨rfl, hu⟩)
                 simp only [Act.put, List.setIfInBounds_toArray, List.set_cons_zero, List.set_cons_succ]))
            apply step_nil
            intro w5 hs5
            have HS5 := Lib.hid hs5
            clear hs5
            go_wp2_with fail
            go_ret
            exact ⟨rfl, HS5.out.2.2⟩
          · rw [h5] at hk
            have H5 := Lib.hid h5
            simp only [Bool.and_eq_true, decide_eq_true_eq] at h5
            obtain ⟨L, rfl⟩ : ∃ L : Nat, pp = (L : Int) := ⟨pp.toNat, by omega⟩
            obtain ⟨g, o, rfl, hg, y⟩ := rowV (k := L) HP.out.r1 (by omega)
            have q1 : (L : Int) < (pn1 : Int) := by omega
            generalize vAt xs (L : Int) = v at *
            have Hk := Lib.hid hk
            clear hk h5 h4 hn1 hn2 hl1 hl2
            rw [← Hk.out]
            go_enter Try.func54, Try.ntmps54
            go_wp2_with fail
            go_region
            go_wp2_with fail
            refine (l04Ok_at p s c l st sk re fe ag (some ⟨g, o, none⟩) p2 pn1 pc1 pn2 pc2 0 xs ys _ _ _ HRu.out HPo.out HP.out _ H1.out).mono ?_
            rintro e u ⟨rfl, m, rfl⟩
            go_wp2_with fail
            refine (in_b player 0 1 true H2.out _).mono ?_
            rintro e u2 ⟨rfl, rfl⟩
            go_wp2_with fail
            refine (in_b pq 1 100 true H3.out _).mono ?_
            rintro e u3 ⟨rfl, rfl⟩
            go_wp2_with fail
            have HX : Hid (L6A w b d p s c l st sk re fe ag (some ⟨g, o, none⟩) p2 pn1 pc1 pn2 pc2 (L : Int) pq ⟨g, o + L, none⟩ v ((w.alloc (.cells #[.slice (some ⟨g, o, none⟩) pn1 pc1, .slice p2 pn2 pc2, .int .i64 0] 32)).drewN (1 + m))) := Lib.hid ((show L6A w b d p s c l st sk re fe ag (some ⟨g, o, none⟩) p2 pn1 pc1 pn2 pc2 (L : Int) pq ⟨g, o + L, none⟩ v (w.alloc (.cells #[.slice (some ⟨g, o, none⟩) pn1 pc1, .slice p2 pn2 pc2, .int .i64 0] 32)) from ⟨HRu.out, HSo.out, y, BB.out⟩).dn _)
            clear y
            clear hbl r0 r1 r2 r3 r4 r5 r6 r7 r8 hsl s0 s1 s2 s3
            have hw1 : IntKind.i64.wrap (2 * p) = 2 * p := IntWalk.i64_in _ ⟨by omega, by omega⟩
            have hw2 : IntKind.i64.wrap (2 * p - 1) = 2 * p - 1 := IntWalk.i64_in _ ⟨by omega, by omega⟩
            apply region_class (L6A w b d p s c l st sk re fe ag (some ⟨g, o, none⟩) p2 pn1 pc1 pn2 pc2 (L : Int) pq ⟨g, o + L, none⟩ v) (by kernel_rfl) (by kernel_rfl) (HX.out.drew)
            repeat (first
              | (apply step_skip (by rfl)
                 simp only [Act.put, List.setIfInBounds_toArray, List.set_cons_zero, List.set_cons_succ])
              | (apply step_val (by rfl)
                 · intro u hu
                   obtain ⟨⟨_, r0, r1, r2, r3, r4, r5, r6, r7, r8⟩, ⟨_, g0, g1, g2, g3⟩, yv, _⟩ := hu
                   go_simp
                   try with_reducible rfl
                 simp only [Act.put, List.setIfInBounds_toArray, List.set_cons_zero, List.set_cons_succ])
              | (apply step_call (by rfl)
                 · intro u
                   go_simp
                   exact ⟨rfl, rfl⟩
                 · intro u hu
                   (with_reducible refine (in_b (L : Int) 0 (2 * p - 1) true H5.out _).mono ?_); (rintro e u' ⟨rfl, rfl⟩; exact ⟨rfl, hu⟩)
                 simp only [Act.put, List.setIfInBounds_toArray, List.set_cons_zero, List.set_cons_succ]))
            apply step_nil
            intro w5 hs5
            have HS5 := Lib.hid hs5
            clear hs5
            go_wp2_with fail
            go_ret
            exact ⟨rfl, HS5.out.2.2.2⟩
set_option maxHeartbeats 4000000 in
set_option maxRecDepth 100000 in
theorem implVS_b (p s c l : Int) (st sk re fe ag : Bool) (p1 p2 : Option Addr) (pn1 pc1 pn2 pc2 : Nat) (pp pq : Int) (xs ys : List Int) (player : Int) (w : World) (h : PosR w p1 p2 pn1 pn2 xs ys) (k : Bool) (hk : okS (okR p s c l st ag) p st pn1 pn2 pp pq player xs ys = k) :
    Calls Try.prog 75 #[.agg #[.int .i64 p, .int .i64 s, .bool st, .bool sk, .bool re, .bool fe, .bool ag, .int .i64 c, .int .i64 l], .agg #[.slice p1 pn1 pc1, .slice p2 pn2 pc2, .int .i64 pp, .int .i64 pq], .int .i64 player] w fun e w' => e = .returned (.bool k) ∧ Below w.heap.size w w' := by
  have H := Lib.hid h
  have HS := Lib.hid (rs_new p s c l st sk re fe ag p1 p2 pn1 pc1 pn2 pc2 pp pq w 30 50)
  unfold okS at hk
  rw [lastB_eq] at hk
  clear h
  rcases h1 : okP (okR p s c l st ag) p pn1 pn2 player xs ys with _ | _
  · rw [h1] at hk
    simp only [Bool.false_and] at hk
    subst hk
    have H1 := Lib.hid h1
    clear h1
    go_enter Try.func75, Try.ntmps75
    go_wp2_with fail
    apply region_class (RsAt w p s c l st sk re fe ag p1 p2 pn1 pc1 pn2 pc2 pp pq) (by kernel_rfl) (by kernel_rfl) (HS.out.drew)
    repeat (first
      | (apply step_skip (by rfl)
         simp only [Act.put, List.setIfInBounds_toArray, List.set_cons_zero, List.set_cons_succ])
      | (apply step_val (by rfl)
         · intro u hu
           obtain ⟨⟨_, r0, r1, r2, r3, r4, r5, r6, r7, r8⟩, ⟨_, g0, g1, g2, g3⟩, _⟩ := hu
           go_simp
           try with_reducible rfl
         simp only [Act.put, List.setIfInBounds_toArray, List.set_cons_zero, List.set_cons_succ])
      | (apply step_call (by rfl)
         · intro u
           go_simp
           exact ⟨rfl, rfl⟩
         · intro u hu
           (with_reducible refine (position_any p1 p2 pn1 pc1 pn2 pc2 pp pq player _).mono ?_); (rintro e u' ⟨rfl, hb5⟩; exact ⟨rfl, hu.below hb5⟩)
         simp only [Act.put, List.setIfInBounds_toArray, List.set_cons_zero, List.set_cons_succ])
      | (apply step_call (by rfl)
         · intro u
           go_simp
           exact ⟨rfl, rfl⟩
         · intro u hu
           (with_reducible refine (implValid_b p s c l st sk re fe ag p1 p2 pn1 pc1 pn2 pc2 player xs ys _ (H.out.below hu.be) _ H1.out).mono ?_); (rintro e u' ⟨rfl, hb5⟩; exact ⟨rfl, hu.below hb5⟩)
         simp only [Act.put, List.setIfInBounds_toArray, List.set_cons_zero, List.set_cons_succ]))
    apply step_nil
    intro w5 hs5
    have HS5 := Lib.hid hs5
    clear hs5
    go_wp2_with fail
    go_ret
    exact ⟨rfl, HS5.out.2.2⟩
  · have hP := okP_parts h1
    have hR := okR_bd hP.1
    have hpq := And.intro hR.1 hR.2.1
    have hn1 := hP.2.1
    have hn2 := hP.2.2.1
    have hpl : player = 0 ∨ player = 1 := by have := hP.2.2.2.1; omega
    rw [h1] at hk
    generalize hv : lastV st p player pp xs ys = v at *
    have Hv := Lib.hid hv
    have H1 := Lib.hid h1
    have Hpq := Lib.hid hpq
    have Hn1 := Lib.hid hn1
    have Hpl := Lib.hid hpl
    have Hn2 := Lib.hid hn2
    clear h1 hP hR hpq hn1 hpl hv hn2
    by_cases h2 : 0 < v
    · by_cases h3 : 1 ≤ pq
      · by_cases h4 : pq ≤ 100
        · have e : k = true := by rw [← hk]; simp [h2, h3, h4]
          have t2 : decide (0 < v) = true := by simpa using h2
          have t3 : decide (1 ≤ pq) = true := by simpa using h3
          have t4 : decide (pq ≤ 100) = true := by simpa using h4
          subst e
          clear hk
          go_enter Try.func75, Try.ntmps75
          go_wp2_with fail
          apply region_class (RsAt w p s c l st sk re fe ag p1 p2 pn1 pc1 pn2 pc2 pp pq) (by kernel_rfl) (by kernel_rfl) (HS.out.drew)
          repeat (first
            | (apply step_skip (by rfl)
               simp only [Act.put, List.setIfInBounds_toArray, List.set_cons_zero, List.set_cons_succ])
            | (apply step_val (by rfl)
               · intro u hu
                 obtain ⟨⟨_, r0, r1, r2, r3, r4, r5, r6, r7, r8⟩, ⟨_, g0, g1, g2, g3⟩, _⟩ := hu
                 go_simp
                 try with_reducible rfl
               simp only [Act.put, List.setIfInBounds_toArray, List.set_cons_zero, List.set_cons_succ])
            | (apply step_call (by rfl)
               · intro u
                 go_simp
                 exact ⟨rfl, rfl⟩
               · intro u hu
                 (with_reducible refine (position_any p1 p2 pn1 pc1 pn2 pc2 pp pq player _).mono ?_); (rintro e u' ⟨rfl, hb5⟩; exact ⟨rfl, hu.below hb5⟩)
               simp only [Act.put, List.setIfInBounds_toArray, List.set_cons_zero, List.set_cons_succ])
            | (apply step_call (by rfl)
               · intro u
                 go_simp
                 exact ⟨rfl, rfl⟩
               · intro u hu
                 (with_reducible refine (implValid_b p s c l st sk re fe ag p1 p2 pn1 pc1 pn2 pc2 player xs ys _ (H.out.below hu.be) _ H1.out).mono ?_); (rintro e u' ⟨rfl, hb5⟩; exact ⟨rfl, hu.below hb5⟩)
               simp only [Act.put, List.setIfInBounds_toArray, List.set_cons_zero, List.set_cons_succ])
            | (apply step_call (by rfl)
               · intro u
                 go_simp
                 exact ⟨rfl, rfl⟩
               · intro u hu
                 (with_reducible refine (lastSeeds_any p s c l st sk re fe ag p1 p2 pn1 pc1 pn2 pc2 pp pq xs ys player _ (H.out.below hu.be) Hpq.out Hn1.out Hn2.out Hpl.out).mono ?_); (rintro e u' ⟨rfl, hb5⟩; rw [Hv.out]; exact ⟨rfl, hu.below hb5⟩)
               simp only [Act.put, List.setIfInBounds_toArray, List.set_cons_zero, List.set_cons_succ]))
          apply step_nil
          intro w5 hs5
          have HS5 := Lib.hid hs5
          clear hs5
          go_wp2_with fail
          go_ret
          exact ⟨rfl, HS5.out.2.2⟩
        · have e : k = false := by rw [← hk]; simp [h2, h3, h4]
          have t2 : decide (0 < v) = true := by simpa using h2
          have t3 : decide (1 ≤ pq) = true := by simpa using h3
          have t4 : decide (pq ≤ 100) = false := by simpa using h4
          subst e
          clear hk
          go_enter Try.func75, Try.ntmps75
          go_wp2_with fail
          apply region_class (RsAt w p s c l st sk re fe ag p1 p2 pn1 pc1 pn2 pc2 pp pq) (by kernel_rfl) (by kernel_rfl) (HS.out.drew)
          repeat (first
            | (apply step_skip (by rfl)
               simp only [Act.put, List.setIfInBounds_toArray, List.set_cons_zero, List.set_cons_succ])
            | (apply step_val (by rfl)
               · intro u hu
                 obtain ⟨⟨_, r0, r1, r2, r3, r4, r5, r6, r7, r8⟩, ⟨_, g0, g1, g2, g3⟩, _⟩ := hu
                 go_simp
                 try with_reducible rfl
               simp only [Act.put, List.setIfInBounds_toArray, List.set_cons_zero, List.set_cons_succ])
            | (apply step_call (by rfl)
               · intro u
                 go_simp
                 exact ⟨rfl, rfl⟩
               · intro u hu
                 (with_reducible refine (position_any p1 p2 pn1 pc1 pn2 pc2 pp pq player _).mono ?_); (rintro e u' ⟨rfl, hb5⟩; exact ⟨rfl, hu.below hb5⟩)
               simp only [Act.put, List.setIfInBounds_toArray, List.set_cons_zero, List.set_cons_succ])
            | (apply step_call (by rfl)
               · intro u
                 go_simp
                 exact ⟨rfl, rfl⟩
               · intro u hu
                 (with_reducible refine (implValid_b p s c l st sk re fe ag p1 p2 pn1 pc1 pn2 pc2 player xs ys _ (H.out.below hu.be) _ H1.out).mono ?_); (rintro e u' ⟨rfl, hb5⟩; exact ⟨rfl, hu.below hb5⟩)
               simp only [Act.put, List.setIfInBounds_toArray, List.set_cons_zero, List.set_cons_succ])
            | (apply step_call (by rfl)
               · intro u
                 go_simp
                 exact ⟨rfl, rfl⟩
               · intro u hu
                 (with_reducible refine (lastSeeds_any p s c l st sk re fe ag p1 p2 pn1 pc1 pn2 pc2 pp pq xs ys player _ (H.out.below hu.be) Hpq.out Hn1.out Hn2.out Hpl.out).mono ?_); (rintro e u' ⟨rfl, hb5⟩; rw [Hv.out]; exact ⟨rfl, hu.below hb5⟩)
               simp only [Act.put, List.setIfInBounds_toArray, List.set_cons_zero, List.set_cons_succ]))
          apply step_nil
          intro w5 hs5
          have HS5 := Lib.hid hs5
          clear hs5
          go_wp2_with fail
          go_ret
          exact ⟨rfl, HS5.out.2.2⟩
      · have e : k = false := by rw [← hk]; simp [h2, h3]
        have t2 : decide (0 < v) = true := by simpa using h2
        have t3 : decide (1 ≤ pq) = false := by simpa using h3
        subst e
        clear hk
        go_enter Try.func75, Try.ntmps75
        go_wp2_with fail
        apply region_class (RsAt w p s c l st sk re fe ag p1 p2 pn1 pc1 pn2 pc2 pp pq) (by kernel_rfl) (by kernel_rfl) (HS.out.drew)
        repeat (first
          | (apply step_skip (by rfl)
             simp only [Act.put, List.setIfInBounds_toArray, List.set_cons_zero, List.set_cons_succ])
          | (apply step_val (by rfl)
             · intro u hu
               obtain ⟨⟨_, r0, r1, r2, r3, r4, r5, r6, r7, r8⟩, ⟨_, g0, g1, g2, g3⟩, _⟩ := hu
               go_simp
               try with_reducible rfl
             simp only [Act.put, List.setIfInBounds_toArray, List.set_cons_zero, List.set_cons_succ])
          | (apply step_call (by rfl)
             · intro u
               go_simp
               exact ⟨rfl, rfl⟩
             · intro u hu
               (with_reducible refine (position_any p1 p2 pn1 pc1 pn2 pc2 pp pq player _).mono ?_); (rintro e u' ⟨rfl, hb5⟩; exact ⟨rfl, hu.below hb5⟩)
             simp only [Act.put, List.setIfInBounds_toArray, List.set_cons_zero, List.set_cons_succ])
          | (apply step_call (by rfl)
             · intro u
               go_simp
               exact ⟨rfl, rfl⟩
             · intro u hu
               (with_reducible refine (implValid_b p s c l st sk re fe ag p1 p2 pn1 pc1 pn2 pc2 player xs ys _ (H.out.below hu.be) _ H1.out).mono ?_); (rintro e u' ⟨rfl, hb5⟩; exact ⟨rfl, hu.below hb5⟩)
             simp only [Act.put, List.setIfInBounds_toArray, List.set_cons_zero, List.set_cons_succ])
          | (apply step_call (by rfl)
             · intro u
               go_simp
               exact ⟨rfl, rfl⟩
             · intro u hu
               (with_reducible refine (lastSeeds_any p s c l st sk re fe ag p1 p2 pn1 pc1 pn2 pc2 pp pq xs ys player _ (H.out.below hu.be) Hpq.out Hn1.out Hn2.out Hpl.out).mono ?_); (rintro e u' ⟨rfl, hb5⟩; rw [Hv.out]; exact ⟨rfl, hu.below hb5⟩)
             simp only [Act.put, List.setIfInBounds_toArray, List.set_cons_zero, List.set_cons_succ]))
        apply step_nil
        intro w5 hs5
        have HS5 := Lib.hid hs5
        clear hs5
        go_wp2_with fail
        go_ret
        exact ⟨rfl, HS5.out.2.2⟩
    · have e : k = false := by rw [← hk]; simp [h2]
      have t2 : decide (0 < v) = false := by simpa using h2
      subst e
      clear hk
      go_enter Try.func75, Try.ntmps75
      go_wp2_with fail
      apply region_class (RsAt w p s c l st sk re fe ag p1 p2 pn1 pc1 pn2 pc2 pp pq) (by kernel_rfl) (by kernel_rfl) (HS.out.drew)
      repeat (first
        | (apply step_skip (by rfl)
           simp only [Act.put, List.setIfInBounds_toArray, List.set_cons_zero, List.set_cons_succ])
        | (apply step_val (by rfl)
           · intro u hu
             obtain ⟨⟨_, r0, r1, r2, r3, r4, r5, r6, r7, r8⟩, ⟨_, g0, g1, g2, g3⟩, _⟩ := hu
             go_simp
             try with_reducible rfl
           simp only [Act.put, List.setIfInBounds_toArray, List.set_cons_zero, List.set_cons_succ])
        | (apply step_call (by rfl)
           · intro u
             go_simp
             exact ⟨rfl, rfl⟩
           · intro u hu
             (with_reducible refine (position_any p1 p2 pn1 pc1 pn2 pc2 pp pq player _).mono ?_); (rintro e u' ⟨rfl, hb5⟩; exact ⟨rfl, hu.below hb5⟩)
           simp only [Act.put, List.setIfInBounds_toArray, List.set_cons_zero, List.set_cons_succ])
        | (apply step_call (by rfl)
           · intro u
             go_simp
             exact ⟨rfl, rfl⟩
           · intro u hu
             (with_reducible refine (implValid_b p s c l st sk re fe ag p1 p2 pn1 pc1 pn2 pc2 player xs ys _ (H.out.below hu.be) _ H1.out).mono ?_); (rintro e u' ⟨rfl, hb5⟩; exact ⟨rfl, hu.below hb5⟩)
           simp only [Act.put, List.setIfInBounds_toArray, List.set_cons_zero, List.set_cons_succ])
        | (apply step_call (by rfl)
           · intro u
             go_simp
             exact ⟨rfl, rfl⟩
           · intro u hu
             (with_reducible refine (lastSeeds_any p s c l st sk re fe ag p1 p2 pn1 pc1 pn2 pc2 pp pq xs ys player _ (H.out.below hu.be) Hpq.out Hn1.out Hn2.out Hpl.out).mono ?_); (rintro e u' ⟨rfl, hb5⟩; rw [Hv.out]; exact ⟨rfl, hu.below hb5⟩)
           simp only [Act.put, List.setIfInBounds_toArray, List.set_cons_zero, List.set_cons_succ]))
      apply step_nil
      intro w5 hs5
      have HS5 := Lib.hid hs5
      clear hs5
      go_wp2_with fail
      go_ret
      exact ⟨rfl, HS5.out.2.2⟩
end Go.Proofs.Ytdhkfkfoibddnaa
