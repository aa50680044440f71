/- ValidSown of the reference and of the program. No conditions. -/
import Derived.Test.YtdhkfkfoibddnaaCap6
import Derived.Test.YtdhkfkfoibddnaaBoxC
import Derived.Test.YtdhkfkfoibddnaaSpec4
import Derived.Test.YtdhkfkfoibddnaaValid4
namespace Go.Proofs.Ytdhkfkfoibddnaa
open Go.Joins Go.ChangeShapes Go.WideShapes Go.ChangeAt Go.RowKit Go.Deep
set_option linter.unusedVariables false

theorem okP_pl (k : Bool) (p : Int) (n1 n2 : Nat) (pl : Int) (xs ys : List Int) : okP k p n1 n2 pl xs ys = (okP k p n1 n2 0 xs ys && isPl pl) := by
  unfold okP isPl
  cases k <;> simp
  cases decide ((n1 : Int) = 2 * p) <;> simp
  cases decide (n2 = 2) <;> simp
  cases seedB xs ys <;> simp
/-- The seeds in the place of the last one. -/
def lastV (st : Bool) (p pl la : Int) (xs ys : List Int) : Int := if la = -1 ∧ st = true then vAt ys pl else if 0 ≤ la ∧ la < 2 * p then vAt xs la else 0
theorem lastB_eq (st : Bool) (p pl la : Int) (xs ys : List Int) : lastB st p pl la xs ys = decide (0 < lastV st p pl la xs ys) := by
  unfold lastB lastV
  by_cases h : la = -1
  · subst h
    cases st <;> simp
  · rw [if_neg h, if_neg (by omega)]
    by_cases h2 : 0 ≤ la ∧ la < 2 * p
    · rw [if_pos h2]
      have e1 : decide (0 ≤ la) = true := by simp; omega
      have e2 : decide (la ≤ 2 * p - 1) = true := by simp; omega
      rw [e1, e2]; rfl
    · rw [if_neg h2]
      by_cases h3 : 0 ≤ la
      · have e2 : decide (la ≤ 2 * p - 1) = false := by simp; omega
        rw [e2]; simp
      · have e2 : decide (0 ≤ la) = false := by simp; omega
        rw [e2]; simp
/-- The cell of a row's number. -/
theorem rowV {w : World} {a : Option Addr} {xs : List Int} {k : Nat} (h : RowN w a xs) (hk : k < xs.length) : ∃ g o, a = some ⟨g, o, none⟩ ∧ g < w.heap.size ∧ w.cell? ⟨g, o + k, none⟩ = some (.int .i64 (vAt xs k)) := by
  have hne : xs ≠ [] := by intro e; subst e; simp at hk
  obtain ⟨g, o, rfl, hg, hc⟩ := h.2.resolve_left hne
  have := vAt_cell (xs := xs) (k := (k : Int)) (by omega) (by omega)
  rw [Int.toNat_natCast] at this
  exact ⟨g, o, rfl, hg, hc k _ this⟩

theorem position_any (p1 p2 : Option Addr) (pn1 pc1 pn2 pc2 : Nat) (pp pq : Int) (player : Int) (w : World) :
    Calls Try.prog 73 #[.agg #[.slice p1 pn1 pc1, .slice p2 pn2 pc2, .int .i64 pp, .int .i64 pq], .int .i64 player] w fun e w' => e = .returned (.agg #[.slice p1 pn1 pc1, .slice p2 pn2 pc2, .int .i64 player]) ∧ Below w.heap.size w w' := by
  go_enter Try.func73, Try.ntmps73
  go_wp2_with fail
  exact bodyPost_ret (v := .agg #[.slice p1 pn1 pc1, .slice p2 pn2 pc2, .int .i64 player]) (by simp [results, Try.results73, go_sem]) rfl ⟨rfl, (by repeat (first | exact Below.refl _ _ | assumption | (refine Below.drew ?_) | (refine Below.setCell ?_ (by first | omega | (simp; done) | (simp; omega)) _) | (refine Below.alloc ?_ (by first | omega | (simp; done) | (simp; omega)) _) | (refine Below.trans ?_ (Below.mono (by assumption) (by first | omega | (simp; done) | (simp; omega))))))⟩
/-- Sown seeds and rules, boxed one after the other. -/
def SrAt (w : World) (p1 p2 : Option Addr) (pn1 pc1 pn2 pc2 : Nat) (pp pq : Int) (p s c l : Int) (st sk re fe ag : Bool) (u : World) : Prop := SoAt u w.heap.size p1 p2 pn1 pc1 pn2 pc2 pp pq ∧ RuAt u (w.heap.size + 1) p s c l st sk re fe ag ∧ Below w.heap.size w u
section
variable {w u v : World} {p s c l : Int} {st sk re fe ag : Bool} {p1 p2 : Option Addr} {pn1 pc1 pn2 pc2 : Nat} {pp pq : Int}
theorem SrAt.below (h : SrAt w p1 p2 pn1 pc1 pn2 pc2 pp pq p s c l st sk re fe ag u) (k : Below u.heap.size u v) : SrAt w p1 p2 pn1 pc1 pn2 pc2 pp pq p s c l st sk re fe ag v := ⟨h.1.below k, h.2.1.below k, h.2.2.trans (k.mono h.2.2.size)⟩
theorem SrAt.drew (h : SrAt w p1 p2 pn1 pc1 pn2 pc2 pp pq p s c l st sk re fe ag u) : SrAt w p1 p2 pn1 pc1 pn2 pc2 pp pq p s c l st sk re fe ag u.drew := ⟨h.1, h.2.1, h.2.2.drew⟩
end
theorem sr_new (p1 p2 : Option Addr) (pn1 pc1 pn2 pc2 : Nat) (pp pq : Int) (p s c l : Int) (st sk re fe ag : Bool) (w : World) (T U : TypeId) : SrAt w p1 p2 pn1 pc1 pn2 pc2 pp pq p s c l st sk re fe ag ((w.alloc (.cells #[.slice p1 pn1 pc1, .slice p2 pn2 pc2, .int .i64 pp, .int .i64 pq] T)).alloc (.cells #[.int .i64 p, .int .i64 s, .bool st, .bool sk, .bool re, .bool fe, .bool ag, .int .i64 c, .int .i64 l] U)) :=
  ⟨(so_new p1 p2 pn1 pc1 pn2 pc2 pp pq w T).below ((Below.refl _ _).alloc (Nat.le_refl _) _), by have := ru_new p s c l st sk re fe ag (w.alloc (.cells #[.slice p1 pn1 pc1, .slice p2 pn2 pc2, .int .i64 pp, .int .i64 pq] T)) U; simpa using this, ((Below.refl _ _).alloc (Nat.le_refl _) _).alloc (by simp) _⟩
set_option maxHeartbeats 2000000 in
theorem lastSeeds_any (p s c l : Int) (st sk re fe ag : Bool) (p1 p2 : Option Addr) (pn1 pc1 pn2 pc2 : Nat) (pp pq : Int) (xs ys : List Int) (player : Int) (w : World) (h : PosR w p1 p2 pn1 pn2 xs ys) (hp : 2 ≤ p ∧ p ≤ 8) (hn1 : (pn1 : Int) = 2 * p) (hn2 : pn2 = 2) (hpl : player = 0 ∨ player = 1) :
    Calls Try.prog 93 #[.agg #[.slice p1 pn1 pc1, .slice p2 pn2 pc2, .int .i64 pp, .int .i64 pq], .agg #[.int .i64 p, .int .i64 s, .bool st, .bool sk, .bool re, .bool fe, .bool ag, .int .i64 c, .int .i64 l], .int .i64 player] w fun e w' => e = .returned (.int .i64 (lastV st p player pp xs ys)) ∧ Below w.heap.size w w' := by
  obtain ⟨hp2, hp8⟩ := hp
  have hl2 := h.l2
  have hl1 := h.l1
  have hq0 : (0 : Int) < (pn2 : Int) := by omega
  have hq1 : (1 : Int) < (pn2 : Int) := by omega
  have Hn1 := Lib.hid hn1
  have Hn2 := Lib.hid hn2
  have BB := Lib.hid (((Below.refl w.heap.size w).alloc (Nat.le_refl _) (.cells #[.slice p1 pn1 pc1, .slice p2 pn2 pc2, .int .i64 pp, .int .i64 pq] 50)).alloc (by simp) (.cells #[.int .i64 p, .int .i64 s, .bool st, .bool sk, .bool re, .bool fe, .bool ag, .int .i64 c, .int .i64 l] 30))
  by_cases h1 : pp = -1
  · have e1 : (pp == (-1 : Int)) = true := by simpa using h1
    have hge : ¬ (0 : Int) ≤ pp := by omega
    rcases st with _ | _
    · have e : lastV false p player pp xs ys = 0 := by unfold lastV; rw [h1]; simp
      rw [e]
      have HS := Lib.hid (sr_new p1 p2 pn1 pc1 pn2 pc2 pp pq p s c l false sk re fe ag w 50 30)
      clear h e h1 hn1 hn2 hl1 hl2
      go_enter Try.func93, Try.ntmps93
      go_wp2_with fail
      have hd : decide (0 ≤ pp) = false := by simp; omega
      apply region_class (SrAt w p1 p2 pn1 pc1 pn2 pc2 pp pq p s c l false sk re fe ag) (by kernel_rfl) (by kernel_rfl) (HS.out.drew)
      repeat (first
        | (apply step_skip (by rfl)
           simp only [Act.put, List.setIfInBounds_toArray, List.set_cons_zero, List.set_cons_succ])
        | (apply step_val (by rfl)
           · intro u hu
             obtain ⟨⟨_, g0, g1, g2, g3⟩, ⟨_, r0, r1, r2, r3, r4, r5, r6, r7, r8⟩, _⟩ := hu
             go_simp
             try with_reducible rfl
           simp only [Act.put, List.setIfInBounds_toArray, List.set_cons_zero, List.set_cons_succ])
        | (apply step_call (by rfl)
           · intro u
             go_simp
             exact ⟨rfl, rfl⟩
           · intro u hu
             (with_reducible refine (board_any p s c l false sk re fe ag (by unfold I64; omega) _).mono ?_); (rintro e u' ⟨rfl, hb5⟩; exact ⟨rfl, hu.below hb5⟩)
           simp only [Act.put, List.setIfInBounds_toArray, List.set_cons_zero, List.set_cons_succ]))
      apply step_nil
      intro w5 hs5
      have HS5 := Lib.hid hs5
      clear hs5
      go_wp2_with fail
      go_ret
      exact ⟨rfl, HS5.out.2.2⟩
    · have e : lastV true p player pp xs ys = vAt ys player := by unfold lastV; rw [h1]; simp
      rw [e]
      rcases hpl with rfl | rfl
      · obtain ⟨g, o, rfl, hg, y⟩ := rowV (k := 0) h.r2 (by omega)
        have hy : vAt ys ((0 : Nat) : Int) = vAt ys 0 := rfl
        rw [hy] at y
        try rw [Nat.add_zero] at y
        have hga : g ≠ w.heap.size := by omega
        have hgb : g ≠ w.heap.size + 1 := by omega
        generalize vAt ys 0 = v at *
        clear h hy e h1 hn1 hn2 hl1 hl2
        go_enter Try.func93, Try.ntmps93
        go_wp2_with fail
        go_ret
        exact ⟨rfl, BB.out⟩
      · obtain ⟨g, o, rfl, hg, y⟩ := rowV (k := 1) h.r2 (by omega)
        have hy : vAt ys ((1 : Nat) : Int) = vAt ys 1 := rfl
        rw [hy] at y
        try rw [Nat.add_zero] at y
        have hga : g ≠ w.heap.size := by omega
        have hgb : g ≠ w.heap.size + 1 := by omega
        generalize vAt ys 1 = v at *
        clear h hy e h1 hn1 hn2 hl1 hl2
        go_enter Try.func93, Try.ntmps93
        go_wp2_with fail
        go_ret
        exact ⟨rfl, BB.out⟩
  · have e1 : (pp == (-1 : Int)) = false := by simpa using h1
    by_cases h2 : 0 ≤ pp ∧ pp < 2 * p
    · have e : lastV st p player pp xs ys = vAt xs pp := by unfold lastV; rw [if_neg (by omega), if_pos h2]
      rw [e]
      obtain ⟨L, rfl⟩ : ∃ L : Nat, pp = (L : Int) := ⟨pp.toNat, by omega⟩
      obtain ⟨g, o, rfl, hg, y⟩ := rowV (k := L) h.r1 (by omega)
      obtain ⟨h2a, h2b⟩ := h2
      have q1 : (L : Int) < (pn1 : Int) := by omega
      have hga : g ≠ w.heap.size := by omega
      have hgb : g ≠ w.heap.size + 1 := by omega
      have HS := Lib.hid (sr_new (some ⟨g, o, none⟩) p2 pn1 pc1 pn2 pc2 (L : Int) pq p s c l st sk re fe ag w 50 30)
      generalize vAt xs (L : Int) = v at *
      have Y := Lib.hid y
      clear h e h1 hn1 hn2 hl1 hl2 y
      go_enter Try.func93, Try.ntmps93
      go_wp2_with fail
      have hd : decide ((0 : Int) ≤ (L : Int)) = true := by simp
      apply region_class (SrAt w (some ⟨g, o, none⟩) p2 pn1 pc1 pn2 pc2 (L : Int) pq p s c l st sk re fe ag) (by kernel_rfl) (by kernel_rfl) (HS.out.drew)
      repeat (first
        | (apply step_skip (by rfl)
           simp only [Act.put, List.setIfInBounds_toArray, List.set_cons_zero, List.set_cons_succ])
        | (apply step_val (by rfl)
           · intro u hu
             obtain ⟨⟨_, g0, g1, g2, g3⟩, ⟨_, r0, r1, r2, r3, r4, r5, r6, r7, r8⟩, _⟩ := hu
             go_simp
             try with_reducible rfl
           simp only [Act.put, List.setIfInBounds_toArray, List.set_cons_zero, List.set_cons_succ])
        | (apply step_call (by rfl)
           · intro u
             go_simp
             exact ⟨rfl, rfl⟩
           · intro u hu
             (with_reducible refine (board_any p s c l st sk re fe ag (by unfold I64; omega) _).mono ?_); (rintro e u' ⟨rfl, hb5⟩; exact ⟨rfl, hu.below hb5⟩)
           simp only [Act.put, List.setIfInBounds_toArray, List.set_cons_zero, List.set_cons_succ]))
      apply step_nil
      intro w5 hs5
      have HS5 := Lib.hid hs5
      clear hs5
      obtain ⟨⟨_, g0, g1, g2, g3⟩, -, -⟩ := HS5.out
      have y1 := (HS5.out.2.2.cell (p := ⟨g, o + L, none⟩) hg).trans Y.out
      go_wp2_with fail
      go_ret
      exact ⟨rfl, HS5.out.2.2⟩
    · have e : lastV st p player pp xs ys = 0 := by unfold lastV; rw [if_neg (by omega), if_neg h2]
      rw [e]
      have HS := Lib.hid (sr_new p1 p2 pn1 pc1 pn2 pc2 pp pq p s c l st sk re fe ag w 50 30)
      by_cases h3 : 0 ≤ pp
      · have h4 : ¬ pp < 2 * p := by omega
        clear h e h1 hn1 hn2 hl1 hl2 h2
        go_enter Try.func93, Try.ntmps93
        go_wp2_with fail
        have hd : decide (0 ≤ pp) = true := by simp; omega
        apply region_class (SrAt w p1 p2 pn1 pc1 pn2 pc2 pp pq p s c l st sk re fe ag) (by kernel_rfl) (by kernel_rfl) (HS.out.drew)
        repeat (first
          | (apply step_skip (by rfl)
             simp only [Act.put, List.setIfInBounds_toArray, List.set_cons_zero, List.set_cons_succ])
          | (apply step_val (by rfl)
             · intro u hu
               obtain ⟨⟨_, g0, g1, g2, g3⟩, ⟨_, r0, r1, r2, r3, r4, r5, r6, r7, r8⟩, _⟩ := hu
               go_simp
               try with_reducible rfl
             simp only [Act.put, List.setIfInBounds_toArray, List.set_cons_zero, List.set_cons_succ])
          | (apply step_call (by rfl)
             · intro u
               go_simp
               exact ⟨rfl, rfl⟩
             · intro u hu
               (with_reducible refine (board_any p s c l st sk re fe ag (by unfold I64; omega) _).mono ?_); (rintro e u' ⟨rfl, hb5⟩; exact ⟨rfl, hu.below hb5⟩)
             simp only [Act.put, List.setIfInBounds_toArray, List.set_cons_zero, List.set_cons_succ]))
        apply step_nil
        intro w5 hs5
        have HS5 := Lib.hid hs5
        clear hs5
        go_wp2_with fail
        go_ret
        exact ⟨rfl, HS5.out.2.2⟩
      · clear h e h1 hn1 hn2 hl1 hl2 h2
        go_enter Try.func93, Try.ntmps93
        go_wp2_with fail
        have hd : decide (0 ≤ pp) = false := by simp; omega
        apply region_class (SrAt w p1 p2 pn1 pc1 pn2 pc2 pp pq p s c l st sk re fe ag) (by kernel_rfl) (by kernel_rfl) (HS.out.drew)
        repeat (first
          | (apply step_skip (by rfl)
             simp only [Act.put, List.setIfInBounds_toArray, List.set_cons_zero, List.set_cons_succ])
          | (apply step_val (by rfl)
             · intro u hu
               obtain ⟨⟨_, g0, g1, g2, g3⟩, ⟨_, r0, r1, r2, r3, r4, r5, r6, r7, r8⟩, _⟩ := hu
               go_simp
               try with_reducible rfl
             simp only [Act.put, List.setIfInBounds_toArray, List.set_cons_zero, List.set_cons_succ])
          | (apply step_call (by rfl)
             · intro u
               go_simp
               exact ⟨rfl, rfl⟩
             · intro u hu
               (with_reducible refine (board_any p s c l st sk re fe ag (by unfold I64; omega) _).mono ?_); (rintro e u' ⟨rfl, hb5⟩; exact ⟨rfl, hu.below hb5⟩)
             simp only [Act.put, List.setIfInBounds_toArray, List.set_cons_zero, List.set_cons_succ]))
        apply step_nil
        intro w5 hs5
        have HS5 := Lib.hid hs5
        clear hs5
        go_wp2_with fail
        go_ret
        exact ⟨rfl, HS5.out.2.2⟩
end Go.Proofs.Ytdhkfkfoibddnaa
