/- ValidPosition of the program. No conditions. -/
import Derived.Test.YtgogjjkecbgbiaaBox4
import Derived.Test.YtgogjjkecbgbiaaOk4
import Derived.Test.YtgogjjkecbgbiaaSeeds
import Derived.Test.YtgogjjkecbgbiaaStep
namespace Go.Proofs.Ytgogjjkecbgbiaa
open Go.Joins Go.ChangeShapes Go.WideShapes Go.ChangeAt Go.RowKit Go.Deep
set_option linter.unusedVariables false

theorem isPlayer_any (n : Int) (w : World) : Calls Try.prog 20 #[.int .i64 n] w fun e w' => e = .returned (.bool (decide (0 ≤ n) && decide (n ≤ 1))) ∧ w = w' := by
  by_cases h0 : n = 0
  · subst h0
    go_enter Try.func20, Try.ntmps20
    go_wp2
    go_ret
    exact ⟨rfl, rfl⟩
  · by_cases h1 : n = 1
    · subst h1
      go_enter Try.func20, Try.ntmps20
      go_wp2
      go_ret
      exact ⟨rfl, rfl⟩
    · have e0 : ((n : Int) == 0) = false := by simpa using h0
      have e1 : ((n : Int) == 1) = false := by simpa using h1
      have e2 : (decide (0 ≤ n) && decide (n ≤ 1)) = false := by simp; omega
      rw [e2]
      clear h0 h1 e2
      go_enter Try.func20, Try.ntmps20
      go_wp2
      go_ret
      exact ⟨rfl, rfl⟩
theorem isPlayer_b (n : Int) (r : Bool) (h : (decide (0 ≤ n) && decide (n ≤ 1)) = r) (w : World) : Calls Try.prog 20 #[.int .i64 n] w fun e w' => e = .returned (.bool r) ∧ w = w' :=
  (isPlayer_any n w).mono fun e w' ⟨he, hw⟩ => ⟨by rw [he, h], hw⟩

set_option maxHeartbeats 8000000 in
set_option maxRecDepth 100000 in
theorem implValid_any (p s c l : Int) (st sk re fe ag : Bool) (p1 p2 : Option Addr) (pn1 pc1 pn2 pc2 : Nat) (pp : Int) (xs ys : List Int) (w : World) (h : PosR w p1 p2 pn1 pn2 xs ys) :
    Calls Try.prog 19 #[.agg #[.int .i64 p, .int .i64 s, .bool st, .bool sk, .bool re, .bool fe, .bool ag, .int .i64 c, .int .i64 l], .agg #[.slice p1 pn1 pc1, .slice p2 pn2 pc2, .int .i64 pp]] w fun e w' => e = .returned (.bool (okP (okR p s c l st ag) p pn1 pn2 pp xs ys)) ∧ Below w.heap.size w w' := by
  have hb1 : pn1 ≤ 1000000000000 := by rw [← h.l1]; exact h.r1.1
  have hb2 : pn2 ≤ 1000000000000 := by rw [← h.l2]; exact h.r2.1
  have H := Lib.hid h
  have HS := Lib.hid (rp_new p s c l st sk re fe ag p1 p2 pn1 pc1 pn2 pc2 pp w 25 28)
  clear h
  rcases hok : okR p s c l st ag with _ | _
  · rw [okP_1 rfl]
    have Hok := Lib.hid hok
    clear hok
    go_enter Try.func19, Try.ntmps19
    go_wp2_with fail
    apply region_class (RpAt w p s c l st sk re fe ag p1 p2 pn1 pc1 pn2 pc2 pp) (by kernel_rfl) (by kernel_rfl) (HS.out.drew)
    repeat (first
      | (apply step_skip (by rfl)
         simp only [Act.put, List.setIfInBounds_toArray, List.set_cons_zero, List.set_cons_succ])
      | (apply step_val (by rfl)
         · intro u hu
           obtain ⟨⟨_, r0, r1, r2, r3, r4, r5, r6, r7, r8⟩, ⟨_, g0, g1, g2⟩, _⟩ := hu
           go_simp
           try with_reducible rfl
         simp only [Act.put, List.setIfInBounds_toArray, List.set_cons_zero, List.set_cons_succ])
      | (apply step_call (by rfl)
         · intro u
           go_simp
           exact ⟨rfl, rfl⟩
         · intro u hu
           (with_reducible refine (valid_b p s c l st sk re fe ag _ Hok.out _).mono ?_); (rintro e u' ⟨rfl, hb5⟩; exact ⟨rfl, hu.below hb5⟩)
         simp only [Act.put, List.setIfInBounds_toArray, List.set_cons_zero, List.set_cons_succ]))
    apply step_nil
    intro w5 hs5
    have HS5 := Lib.hid hs5
    clear hs5
    go_wp2_with fail
    go_ret
    exact ⟨rfl, HS5.out.2.2⟩
  · have hbd := okR_bd hok
    obtain ⟨hp1, hp2, -⟩ := hbd
    have Hok := Lib.hid hok
    clear hok
    by_cases h2 : (pn1 : Int) = 2 * p
    · have hd1 : ((pn1 : Int) != 2 * p) = false := by simpa using h2
      have H2 := Lib.hid h2
      clear h2
      by_cases h3 : pn2 = 2
      · have hd2 : ((pn2 : Int) != 2) = false := by simp [h3]
        have H3 := Lib.hid h3
        clear h3
        rcases h4 : (decide (0 ≤ pp) && decide (pp ≤ 1)) with _ | _
        · rw [okP_4 h4]
          have H4 := Lib.hid h4
          clear h4
          go_enter Try.func19, Try.ntmps19
          go_wp2_with fail
          apply region_class (RpAt w p s c l st sk re fe ag p1 p2 pn1 pc1 pn2 pc2 pp) (by kernel_rfl) (by kernel_rfl) (HS.out.drew)
          repeat (first
            | (apply step_skip (by rfl)
               simp only [Act.put, List.setIfInBounds_toArray, List.set_cons_zero, List.set_cons_succ])
            | (apply step_val (by rfl)
               · intro u hu
                 obtain ⟨⟨_, r0, r1, r2, r3, r4, r5, r6, r7, r8⟩, ⟨_, g0, g1, g2⟩, _⟩ := hu
                 go_simp
                 try with_reducible rfl
               simp only [Act.put, List.setIfInBounds_toArray, List.set_cons_zero, List.set_cons_succ])
            | (apply step_call (by rfl)
               · intro u
                 go_simp
                 exact ⟨rfl, rfl⟩
               · intro u hu
                 (with_reducible refine (valid_b p s c l st sk re fe ag _ Hok.out _).mono ?_); (rintro e u' ⟨rfl, hb5⟩; exact ⟨rfl, hu.below hb5⟩)
               simp only [Act.put, List.setIfInBounds_toArray, List.set_cons_zero, List.set_cons_succ])
            | (apply step_call (by rfl)
               · intro u
                 go_simp
                 exact ⟨rfl, rfl⟩
               · intro u hu
                 (with_reducible refine (board_any p s c l st sk re fe ag (by unfold I64; omega) _).mono ?_); (rintro e u' ⟨rfl, hb5⟩; exact ⟨rfl, hu.below hb5⟩)
               simp only [Act.put, List.setIfInBounds_toArray, List.set_cons_zero, List.set_cons_succ])
            | (apply step_call (by rfl)
               · intro u
                 go_simp
                 exact ⟨rfl, rfl⟩
               · intro u hu
                 (with_reducible refine (isPlayer_b _ _ H4.out _).mono ?_); (rintro e u' ⟨rfl, rfl⟩; exact ⟨rfl, hu⟩)
               simp only [Act.put, List.setIfInBounds_toArray, List.set_cons_zero, List.set_cons_succ]))
          apply step_nil
          intro w5 hs5
          have HS5 := Lib.hid hs5
          clear hs5
          go_wp2_with fail
          go_ret
          exact ⟨rfl, HS5.out.2.2⟩
        · rw [okP_5 rfl H2.out H3.out h4]
          have H4 := Lib.hid h4
          clear h4
          generalize hk : seedB xs ys = k
          have Hk := Lib.hid hk
          clear hk
          go_enter Try.func19, Try.ntmps19
          go_wp2_with fail
          apply region_class (RpAt w p s c l st sk re fe ag p1 p2 pn1 pc1 pn2 pc2 pp) (by kernel_rfl) (by kernel_rfl) (HS.out.drew)
          repeat (first
            | (apply step_skip (by rfl)
               simp only [Act.put, List.setIfInBounds_toArray, List.set_cons_zero, List.set_cons_succ])
            | (apply step_val (by rfl)
               · intro u hu
                 obtain ⟨⟨_, r0, r1, r2, r3, r4, r5, r6, r7, r8⟩, ⟨_, g0, g1, g2⟩, _⟩ := hu
                 go_simp
                 try with_reducible rfl
               simp only [Act.put, List.setIfInBounds_toArray, List.set_cons_zero, List.set_cons_succ])
            | (apply step_call (by rfl)
               · intro u
                 go_simp
                 exact ⟨rfl, rfl⟩
               · intro u hu
                 (with_reducible refine (valid_b p s c l st sk re fe ag _ Hok.out _).mono ?_); (rintro e u' ⟨rfl, hb5⟩; exact ⟨rfl, hu.below hb5⟩)
               simp only [Act.put, List.setIfInBounds_toArray, List.set_cons_zero, List.set_cons_succ])
            | (apply step_call (by rfl)
               · intro u
                 go_simp
                 exact ⟨rfl, rfl⟩
               · intro u hu
                 (with_reducible refine (board_any p s c l st sk re fe ag (by unfold I64; omega) _).mono ?_); (rintro e u' ⟨rfl, hb5⟩; exact ⟨rfl, hu.below hb5⟩)
               simp only [Act.put, List.setIfInBounds_toArray, List.set_cons_zero, List.set_cons_succ])
            | (apply step_call (by rfl)
               · intro u
                 go_simp
                 exact ⟨rfl, rfl⟩
               · intro u hu
                 (with_reducible refine (isPlayer_b _ _ H4.out _).mono ?_); (rintro e u' ⟨rfl, rfl⟩; exact ⟨rfl, hu⟩)
               simp only [Act.put, List.setIfInBounds_toArray, List.set_cons_zero, List.set_cons_succ]))
          apply step_nil
          intro w5 hs5
          have HS5 := Lib.hid hs5
          clear hs5
          obtain ⟨_, ⟨_, g0, g1, g2⟩, hb5⟩ := HS5.out
          have HB5 := Lib.hid hb5
          clear hb5
          go_wp2_with fail
          refine (seeds_any p1 p2 pn1 pc1 pn2 pc2 pp xs ys _ (H.out.below HB5.out)).mono ?_
          rintro e w6 ⟨rfl, hb6⟩
          rw [Hk.out]
          have HB6 := Lib.hid (HB5.out.trans (hb6.mono HB5.out.size))
          clear hb6
          go_wp2_with fail
          go_ret
          exact ⟨rfl, HB6.out⟩
      · rw [okP_3 h3]
        have hd2 : ((pn2 : Int) != 2) = true := by simp; omega
        clear h3
        go_enter Try.func19, Try.ntmps19
        go_wp2_with fail
        apply region_class (RpAt w p s c l st sk re fe ag p1 p2 pn1 pc1 pn2 pc2 pp) (by kernel_rfl) (by kernel_rfl) (HS.out.drew)
        repeat (first
          | (apply step_skip (by rfl)
             simp only [Act.put, List.setIfInBounds_toArray, List.set_cons_zero, List.set_cons_succ])
          | (apply step_val (by rfl)
             · intro u hu
               obtain ⟨⟨_, r0, r1, r2, r3, r4, r5, r6, r7, r8⟩, ⟨_, g0, g1, g2⟩, _⟩ := hu
               go_simp
               try with_reducible rfl
             simp only [Act.put, List.setIfInBounds_toArray, List.set_cons_zero, List.set_cons_succ])
          | (apply step_call (by rfl)
             · intro u
               go_simp
               exact ⟨rfl, rfl⟩
             · intro u hu
               (with_reducible refine (valid_b p s c l st sk re fe ag _ Hok.out _).mono ?_); (rintro e u' ⟨rfl, hb5⟩; exact ⟨rfl, hu.below hb5⟩)
             simp only [Act.put, List.setIfInBounds_toArray, List.set_cons_zero, List.set_cons_succ])
          | (apply step_call (by rfl)
             · intro u
               go_simp
               exact ⟨rfl, rfl⟩
             · intro u hu
               (with_reducible refine (board_any p s c l st sk re fe ag (by unfold I64; omega) _).mono ?_); (rintro e u' ⟨rfl, hb5⟩; exact ⟨rfl, hu.below hb5⟩)
             simp only [Act.put, List.setIfInBounds_toArray, List.set_cons_zero, List.set_cons_succ]))
        apply step_nil
        intro w5 hs5
        have HS5 := Lib.hid hs5
        clear hs5
        go_wp2_with fail
        go_ret
        exact ⟨rfl, HS5.out.2.2⟩
    · rw [okP_2 h2]
      have hd : ((pn1 : Int) != 2 * p) = true := by simpa using h2
      clear h2
      go_enter Try.func19, Try.ntmps19
      go_wp2_with fail
      apply region_class (RpAt w p s c l st sk re fe ag p1 p2 pn1 pc1 pn2 pc2 pp) (by kernel_rfl) (by kernel_rfl) (HS.out.drew)
      repeat (first
        | (apply step_skip (by rfl)
           simp only [Act.put, List.setIfInBounds_toArray, List.set_cons_zero, List.set_cons_succ])
        | (apply step_val (by rfl)
           · intro u hu
             obtain ⟨⟨_, r0, r1, r2, r3, r4, r5, r6, r7, r8⟩, ⟨_, g0, g1, g2⟩, _⟩ := hu
             go_simp
             try with_reducible rfl
           simp only [Act.put, List.setIfInBounds_toArray, List.set_cons_zero, List.set_cons_succ])
        | (apply step_call (by rfl)
           · intro u
             go_simp
             exact ⟨rfl, rfl⟩
           · intro u hu
             (with_reducible refine (valid_b p s c l st sk re fe ag _ Hok.out _).mono ?_); (rintro e u' ⟨rfl, hb5⟩; exact ⟨rfl, hu.below hb5⟩)
           simp only [Act.put, List.setIfInBounds_toArray, List.set_cons_zero, List.set_cons_succ])
        | (apply step_call (by rfl)
           · intro u
             go_simp
             exact ⟨rfl, rfl⟩
           · intro u hu
             (with_reducible refine (board_any p s c l st sk re fe ag (by unfold I64; omega) _).mono ?_); (rintro e u' ⟨rfl, hb5⟩; exact ⟨rfl, hu.below hb5⟩)
           simp only [Act.put, List.setIfInBounds_toArray, List.set_cons_zero, List.set_cons_succ]))
      apply step_nil
      intro w5 hs5
      have HS5 := Lib.hid hs5
      clear hs5
      go_wp2_with fail
      go_ret
      exact ⟨rfl, HS5.out.2.2⟩
theorem implValid_b (p s c l : Int) (st sk re fe ag : Bool) (p1 p2 : Option Addr) (pn1 pc1 pn2 pc2 : Nat) (pp : Int) (xs ys : List Int) (w : World) (h : PosR w p1 p2 pn1 pn2 xs ys) (k : Bool) (hk : okP (okR p s c l st ag) p pn1 pn2 pp xs ys = k) :
    Calls Try.prog 19 #[.agg #[.int .i64 p, .int .i64 s, .bool st, .bool sk, .bool re, .bool fe, .bool ag, .int .i64 c, .int .i64 l], .agg #[.slice p1 pn1 pc1, .slice p2 pn2 pc2, .int .i64 pp]] w fun e w' => e = .returned (.bool k) ∧ Below w.heap.size w w' := by
  rw [← hk]
  exact implValid_any p s c l st sk re fe ag p1 p2 pn1 pc1 pn2 pc2 pp xs ys w h
end Go.Proofs.Ytgogjjkecbgbiaa
