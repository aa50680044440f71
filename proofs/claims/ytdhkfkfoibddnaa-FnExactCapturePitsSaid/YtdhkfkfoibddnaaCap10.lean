/- The pits of a capture, as the program finds them. No conditions. -/
import Derived.Test.YtdhkfkfoibddnaaCap9
import Derived.Laws.EntriesVeiled
namespace Go.Proofs.Ytdhkfkfoibddnaa
open Go.Joins Go.ChangeShapes Go.WideShapes Go.ChangeAt Go.RowKit Go.Deep
set_option linter.unusedVariables false

/-- A capture and the table of its kinds, boxed. -/
def KnAt (w : World) (p s c l : Int) (st sk re fe ag : Bool) (player : Int) (p1 p2 : Option Addr) (pn1 pc1 pn2 pc2 : Nat) (pp pq : Int) (u : World) : Prop := CpAt w p s c l st sk re fe ag player p1 p2 pn1 pc1 pn2 pc2 pp pq u ∧ (w.heap.size + 1 < u.heap.size ∧ u.cell? ⟨w.heap.size + 1, 0, none⟩ = some (.func (.func 95) #[] #[]) ∧ u.cell? ⟨w.heap.size + 1, 1, none⟩ = some (.func (.func 96) #[] #[]) ∧ u.cell? ⟨w.heap.size + 1, 2, none⟩ = some (.func (.func 97) #[] #[]) ∧ u.cell? ⟨w.heap.size + 1, 3, none⟩ = some (.func (.func 98) #[] #[]))
section
variable {w u v : World} {p s c l player : Int} {st sk re fe ag : Bool} {p1 p2 : Option Addr} {pn1 pc1 pn2 pc2 : Nat} {pp pq : Int}
theorem KnAt.below (h : KnAt w p s c l st sk re fe ag player p1 p2 pn1 pc1 pn2 pc2 pp pq u) (k : Below u.heap.size u v) : KnAt w p s c l st sk re fe ag player p1 p2 pn1 pc1 pn2 pc2 pp pq v := by
  obtain ⟨h1, hb, h⟩ := h
  have e := fun o => k.cell (p := ⟨w.heap.size + 1, o, none⟩) hb
  exact ⟨h1.below k, Nat.lt_of_lt_of_le hb k.size, by rw [e, e, e, e]; exact h⟩
theorem KnAt.drew (h : KnAt w p s c l st sk re fe ag player p1 p2 pn1 pc1 pn2 pc2 pp pq u) : KnAt w p s c l st sk re fe ag player p1 p2 pn1 pc1 pn2 pc2 pp pq u.drew := ⟨h.1.drew, h.2⟩
end
theorem kn_new {w u : World} {p s c l player : Int} {st sk re fe ag : Bool} {p1 p2 : Option Addr} {pn1 pc1 pn2 pc2 : Nat} {pp pq : Int} (T : TypeId) (h : CpAt w p s c l st sk re fe ag player p1 p2 pn1 pc1 pn2 pc2 pp pq u) (hs : u.heap.size = w.heap.size + 1) : KnAt w p s c l st sk re fe ag player p1 p2 pn1 pc1 pn2 pc2 pp pq (u.alloc (.cells #[.func (.func 95) #[] #[], .func (.func 96) #[] #[], .func (.func 97) #[] #[], .func (.func 98) #[] #[]] T)) := by
  refine ⟨h.alloc _, ?_⟩
  rw [← hs]
  exact ⟨by simp, by go_simp, by go_simp, by go_simp, by go_simp⟩
set_option maxHeartbeats 4000000 in
set_option maxRecDepth 100000 in
theorem raw_any0 (p s c l : Int) (st sk re fe ag : Bool) (player : Int) (p1 p2 : Option Addr) (pn1 pc1 pn2 pc2 : Nat) (pp pq : Int) (w : World) (hc : c = 0) (L : List Int)
    (hf : ∀ u, Below w.heap.size w u → Calls Try.prog 95 #[.agg #[.int .i64 p, .int .i64 s, .bool st, .bool sk, .bool re, .bool fe, .bool ag, .int .i64 c, .int .i64 l, .int .i64 player, .slice p1 pn1 pc1, .slice p2 pn2 pc2, .int .i64 pp, .int .i64 pq]] u (OwnP L L.length u)) :
    Calls Try.prog 79 #[.agg #[.int .i64 p, .int .i64 s, .bool st, .bool sk, .bool re, .bool fe, .bool ag, .int .i64 c, .int .i64 l, .int .i64 player, .slice p1 pn1 pc1, .slice p2 pn2 pc2, .int .i64 pp, .int .i64 pq]] w (OwnP L L.length w) := by
  subst hc
  have HF := Lib.hid hf
  have HC := Lib.hid (cp_new p s 0 l st sk re fe ag player p1 p2 pn1 pc1 pn2 pc2 pp pq w 73)
  have HX := Lib.hid (kn_new 116 HC.out (by simp))
  obtain ⟨⟨_, c0, c1, c2, c3, c4, c5, c6, c7, c8, c9, c10, c11, c12, c13⟩, -⟩ := HC.out
  clear hf
  go_enter Try.func79, Try.ntmps79
  go_wp2_with fail
  go_region_held3 (fun u => ((w.heap.size < u.heap.size ∧ u.cell? ⟨w.heap.size, 0, none⟩ = some (.int .i64 p) ∧ u.cell? ⟨w.heap.size, 1, none⟩ = some (.int .i64 s) ∧ u.cell? ⟨w.heap.size, 2, none⟩ = some (.bool st) ∧ u.cell? ⟨w.heap.size, 3, none⟩ = some (.bool sk) ∧ u.cell? ⟨w.heap.size, 4, none⟩ = some (.bool re) ∧ u.cell? ⟨w.heap.size, 5, none⟩ = some (.bool fe) ∧ u.cell? ⟨w.heap.size, 6, none⟩ = some (.bool ag) ∧ u.cell? ⟨w.heap.size, 7, none⟩ = some (.int .i64 0) ∧ u.cell? ⟨w.heap.size, 8, none⟩ = some (.int .i64 l) ∧ u.cell? ⟨w.heap.size, 9, none⟩ = some (.int .i64 player) ∧ u.cell? ⟨w.heap.size, 10, none⟩ = some (.slice p1 pn1 pc1) ∧ u.cell? ⟨w.heap.size, 11, none⟩ = some (.slice p2 pn2 pc2) ∧ u.cell? ⟨w.heap.size, 12, none⟩ = some (.int .i64 pp) ∧ u.cell? ⟨w.heap.size, 13, none⟩ = some (.int .i64 pq)) ∧ Below w.heap.size w u) ∧ (w.heap.size + 1 < u.heap.size ∧ u.cell? ⟨w.heap.size + 1, 0, none⟩ = some (.func (.func 95) #[] #[]) ∧ u.cell? ⟨w.heap.size + 1, 1, none⟩ = some (.func (.func 96) #[] #[]) ∧ u.cell? ⟨w.heap.size + 1, 2, none⟩ = some (.func (.func 97) #[] #[]) ∧ u.cell? ⟨w.heap.size + 1, 3, none⟩ = some (.func (.func 98) #[] #[]))) (first | exact HX.out | exact HX.out.drew)
    ((go_at_call 95; refine (HF.out _ (by first | exact HX.out.1.be | exact HX.out.drew.1.be)).mono ?_; rintro e w5 ⟨v, rfl, hown, hb5⟩; have HO := Lib.hid (own_lower hown (by have h1 := HX.out.1.be.size; exact h1)); have HX := Lib.hid (by first | exact HX.out.below hb5 | exact HX.out.drew.below hb5 : KnAt w p s 0 l st sk re fe ag player p1 p2 pn1 pc1 pn2 pc2 pp pq w5); clear hown hb5))
  go_wp2_with fail
  go_ret
  exact ⟨_, rfl, HO.out, HX.out.1.be⟩
set_option maxHeartbeats 4000000 in
set_option maxRecDepth 100000 in
theorem raw_any1 (p s c l : Int) (st sk re fe ag : Bool) (player : Int) (p1 p2 : Option Addr) (pn1 pc1 pn2 pc2 : Nat) (pp pq : Int) (w : World) (hc : c = 1) (L : List Int)
    (hf : ∀ u, Below w.heap.size w u → Calls Try.prog 96 #[.agg #[.int .i64 p, .int .i64 s, .bool st, .bool sk, .bool re, .bool fe, .bool ag, .int .i64 c, .int .i64 l, .int .i64 player, .slice p1 pn1 pc1, .slice p2 pn2 pc2, .int .i64 pp, .int .i64 pq]] u (OwnP L L.length u)) :
    Calls Try.prog 79 #[.agg #[.int .i64 p, .int .i64 s, .bool st, .bool sk, .bool re, .bool fe, .bool ag, .int .i64 c, .int .i64 l, .int .i64 player, .slice p1 pn1 pc1, .slice p2 pn2 pc2, .int .i64 pp, .int .i64 pq]] w (OwnP L L.length w) := by
  subst hc
  have HF := Lib.hid hf
  have HC := Lib.hid (cp_new p s 1 l st sk re fe ag player p1 p2 pn1 pc1 pn2 pc2 pp pq w 73)
  have HX := Lib.hid (kn_new 116 HC.out (by simp))
  obtain ⟨⟨_, c0, c1, c2, c3, c4, c5, c6, c7, c8, c9, c10, c11, c12, c13⟩, -⟩ := HC.out
  clear hf
  go_enter Try.func79, Try.ntmps79
  go_wp2_with fail
  go_region_held3 (fun u => ((w.heap.size < u.heap.size ∧ u.cell? ⟨w.heap.size, 0, none⟩ = some (.int .i64 p) ∧ u.cell? ⟨w.heap.size, 1, none⟩ = some (.int .i64 s) ∧ u.cell? ⟨w.heap.size, 2, none⟩ = some (.bool st) ∧ u.cell? ⟨w.heap.size, 3, none⟩ = some (.bool sk) ∧ u.cell? ⟨w.heap.size, 4, none⟩ = some (.bool re) ∧ u.cell? ⟨w.heap.size, 5, none⟩ = some (.bool fe) ∧ u.cell? ⟨w.heap.size, 6, none⟩ = some (.bool ag) ∧ u.cell? ⟨w.heap.size, 7, none⟩ = some (.int .i64 1) ∧ u.cell? ⟨w.heap.size, 8, none⟩ = some (.int .i64 l) ∧ u.cell? ⟨w.heap.size, 9, none⟩ = some (.int .i64 player) ∧ u.cell? ⟨w.heap.size, 10, none⟩ = some (.slice p1 pn1 pc1) ∧ u.cell? ⟨w.heap.size, 11, none⟩ = some (.slice p2 pn2 pc2) ∧ u.cell? ⟨w.heap.size, 12, none⟩ = some (.int .i64 pp) ∧ u.cell? ⟨w.heap.size, 13, none⟩ = some (.int .i64 pq)) ∧ Below w.heap.size w u) ∧ (w.heap.size + 1 < u.heap.size ∧ u.cell? ⟨w.heap.size + 1, 0, none⟩ = some (.func (.func 95) #[] #[]) ∧ u.cell? ⟨w.heap.size + 1, 1, none⟩ = some (.func (.func 96) #[] #[]) ∧ u.cell? ⟨w.heap.size + 1, 2, none⟩ = some (.func (.func 97) #[] #[]) ∧ u.cell? ⟨w.heap.size + 1, 3, none⟩ = some (.func (.func 98) #[] #[]))) (first | exact HX.out | exact HX.out.drew)
    ((go_at_call 96; refine (HF.out _ (by first | exact HX.out.1.be | exact HX.out.drew.1.be)).mono ?_; rintro e w5 ⟨v, rfl, hown, hb5⟩; have HO := Lib.hid (own_lower hown (by have h1 := HX.out.1.be.size; exact h1)); have HX := Lib.hid (by first | exact HX.out.below hb5 | exact HX.out.drew.below hb5 : KnAt w p s 1 l st sk re fe ag player p1 p2 pn1 pc1 pn2 pc2 pp pq w5); clear hown hb5))
  go_wp2_with fail
  go_ret
  exact ⟨_, rfl, HO.out, HX.out.1.be⟩
set_option maxHeartbeats 4000000 in
set_option maxRecDepth 100000 in
theorem raw_any2 (p s c l : Int) (st sk re fe ag : Bool) (player : Int) (p1 p2 : Option Addr) (pn1 pc1 pn2 pc2 : Nat) (pp pq : Int) (w : World) (hc : c = 2) (L : List Int)
    (hf : ∀ u, Below w.heap.size w u → Calls Try.prog 97 #[.agg #[.int .i64 p, .int .i64 s, .bool st, .bool sk, .bool re, .bool fe, .bool ag, .int .i64 c, .int .i64 l, .int .i64 player, .slice p1 pn1 pc1, .slice p2 pn2 pc2, .int .i64 pp, .int .i64 pq]] u (OwnP L L.length u)) :
    Calls Try.prog 79 #[.agg #[.int .i64 p, .int .i64 s, .bool st, .bool sk, .bool re, .bool fe, .bool ag, .int .i64 c, .int .i64 l, .int .i64 player, .slice p1 pn1 pc1, .slice p2 pn2 pc2, .int .i64 pp, .int .i64 pq]] w (OwnP L L.length w) := by
  subst hc
  have HF := Lib.hid hf
  have HC := Lib.hid (cp_new p s 2 l st sk re fe ag player p1 p2 pn1 pc1 pn2 pc2 pp pq w 73)
  have HX := Lib.hid (kn_new 116 HC.out (by simp))
  obtain ⟨⟨_, c0, c1, c2, c3, c4, c5, c6, c7, c8, c9, c10, c11, c12, c13⟩, -⟩ := HC.out
  clear hf
  go_enter Try.func79, Try.ntmps79
  go_wp2_with fail
  go_region_held3 (fun u => ((w.heap.size < u.heap.size ∧ u.cell? ⟨w.heap.size, 0, none⟩ = some (.int .i64 p) ∧ u.cell? ⟨w.heap.size, 1, none⟩ = some (.int .i64 s) ∧ u.cell? ⟨w.heap.size, 2, none⟩ = some (.bool st) ∧ u.cell? ⟨w.heap.size, 3, none⟩ = some (.bool sk) ∧ u.cell? ⟨w.heap.size, 4, none⟩ = some (.bool re) ∧ u.cell? ⟨w.heap.size, 5, none⟩ = some (.bool fe) ∧ u.cell? ⟨w.heap.size, 6, none⟩ = some (.bool ag) ∧ u.cell? ⟨w.heap.size, 7, none⟩ = some (.int .i64 2) ∧ u.cell? ⟨w.heap.size, 8, none⟩ = some (.int .i64 l) ∧ u.cell? ⟨w.heap.size, 9, none⟩ = some (.int .i64 player) ∧ u.cell? ⟨w.heap.size, 10, none⟩ = some (.slice p1 pn1 pc1) ∧ u.cell? ⟨w.heap.size, 11, none⟩ = some (.slice p2 pn2 pc2) ∧ u.cell? ⟨w.heap.size, 12, none⟩ = some (.int .i64 pp) ∧ u.cell? ⟨w.heap.size, 13, none⟩ = some (.int .i64 pq)) ∧ Below w.heap.size w u) ∧ (w.heap.size + 1 < u.heap.size ∧ u.cell? ⟨w.heap.size + 1, 0, none⟩ = some (.func (.func 95) #[] #[]) ∧ u.cell? ⟨w.heap.size + 1, 1, none⟩ = some (.func (.func 96) #[] #[]) ∧ u.cell? ⟨w.heap.size + 1, 2, none⟩ = some (.func (.func 97) #[] #[]) ∧ u.cell? ⟨w.heap.size + 1, 3, none⟩ = some (.func (.func 98) #[] #[]))) (first | exact HX.out | exact HX.out.drew)
    ((go_at_call 97; refine (HF.out _ (by first | exact HX.out.1.be | exact HX.out.drew.1.be)).mono ?_; rintro e w5 ⟨v, rfl, hown, hb5⟩; have HO := Lib.hid (own_lower hown (by have h1 := HX.out.1.be.size; exact h1)); have HX := Lib.hid (by first | exact HX.out.below hb5 | exact HX.out.drew.below hb5 : KnAt w p s 2 l st sk re fe ag player p1 p2 pn1 pc1 pn2 pc2 pp pq w5); clear hown hb5))
  go_wp2_with fail
  go_ret
  exact ⟨_, rfl, HO.out, HX.out.1.be⟩
set_option maxHeartbeats 4000000 in
set_option maxRecDepth 100000 in
theorem raw_any3 (p s c l : Int) (st sk re fe ag : Bool) (player : Int) (p1 p2 : Option Addr) (pn1 pc1 pn2 pc2 : Nat) (pp pq : Int) (w : World) (hc : c = 3) (L : List Int)
    (hf : ∀ u, Below w.heap.size w u → Calls Try.prog 98 #[.agg #[.int .i64 p, .int .i64 s, .bool st, .bool sk, .bool re, .bool fe, .bool ag, .int .i64 c, .int .i64 l, .int .i64 player, .slice p1 pn1 pc1, .slice p2 pn2 pc2, .int .i64 pp, .int .i64 pq]] u (OwnP L L.length u)) :
    Calls Try.prog 79 #[.agg #[.int .i64 p, .int .i64 s, .bool st, .bool sk, .bool re, .bool fe, .bool ag, .int .i64 c, .int .i64 l, .int .i64 player, .slice p1 pn1 pc1, .slice p2 pn2 pc2, .int .i64 pp, .int .i64 pq]] w (OwnP L L.length w) := by
  subst hc
  have HF := Lib.hid hf
  have HC := Lib.hid (cp_new p s 3 l st sk re fe ag player p1 p2 pn1 pc1 pn2 pc2 pp pq w 73)
  have HX := Lib.hid (kn_new 116 HC.out (by simp))
  obtain ⟨⟨_, c0, c1, c2, c3, c4, c5, c6, c7, c8, c9, c10, c11, c12, c13⟩, -⟩ := HC.out
  clear hf
  go_enter Try.func79, Try.ntmps79
  go_wp2_with fail
  go_region_held3 (fun u => ((w.heap.size < u.heap.size ∧ u.cell? ⟨w.heap.size, 0, none⟩ = some (.int .i64 p) ∧ u.cell? ⟨w.heap.size, 1, none⟩ = some (.int .i64 s) ∧ u.cell? ⟨w.heap.size, 2, none⟩ = some (.bool st) ∧ u.cell? ⟨w.heap.size, 3, none⟩ = some (.bool sk) ∧ u.cell? ⟨w.heap.size, 4, none⟩ = some (.bool re) ∧ u.cell? ⟨w.heap.size, 5, none⟩ = some (.bool fe) ∧ u.cell? ⟨w.heap.size, 6, none⟩ = some (.bool ag) ∧ u.cell? ⟨w.heap.size, 7, none⟩ = some (.int .i64 3) ∧ u.cell? ⟨w.heap.size, 8, none⟩ = some (.int .i64 l) ∧ u.cell? ⟨w.heap.size, 9, none⟩ = some (.int .i64 player) ∧ u.cell? ⟨w.heap.size, 10, none⟩ = some (.slice p1 pn1 pc1) ∧ u.cell? ⟨w.heap.size, 11, none⟩ = some (.slice p2 pn2 pc2) ∧ u.cell? ⟨w.heap.size, 12, none⟩ = some (.int .i64 pp) ∧ u.cell? ⟨w.heap.size, 13, none⟩ = some (.int .i64 pq)) ∧ Below w.heap.size w u) ∧ (w.heap.size + 1 < u.heap.size ∧ u.cell? ⟨w.heap.size + 1, 0, none⟩ = some (.func (.func 95) #[] #[]) ∧ u.cell? ⟨w.heap.size + 1, 1, none⟩ = some (.func (.func 96) #[] #[]) ∧ u.cell? ⟨w.heap.size + 1, 2, none⟩ = some (.func (.func 97) #[] #[]) ∧ u.cell? ⟨w.heap.size + 1, 3, none⟩ = some (.func (.func 98) #[] #[]))) (first | exact HX.out | exact HX.out.drew)
    ((go_at_call 98; refine (HF.out _ (by first | exact HX.out.1.be | exact HX.out.drew.1.be)).mono ?_; rintro e w5 ⟨v, rfl, hown, hb5⟩; have HO := Lib.hid (own_lower hown (by have h1 := HX.out.1.be.size; exact h1)); have HX := Lib.hid (by first | exact HX.out.below hb5 | exact HX.out.drew.below hb5 : KnAt w p s 3 l st sk re fe ag player p1 p2 pn1 pc1 pn2 pc2 pp pq w5); clear hown hb5))
  go_wp2_with fail
  go_ret
  exact ⟨_, rfl, HO.out, HX.out.1.be⟩
/-- Where the pits of a player begin in a row, and how many cells are there. -/
def offH (o P : Nat) (player : Int) : Nat := if player = 0 then o else o + P
def capH (o P : Nat) (player : Int) : Nat := if player = 0 then o else o - P
theorem row_half {w : World} {g o : Nat} {xs : List Int} {P : Nat} {player : Int} (h : RowN w (some ⟨g, o, none⟩) xs) (hne : xs ≠ []) (hpl : player = 0 ∨ player = 1) : RowN w (some ⟨g, offH o P player, none⟩) (halfL xs P player) := by
  rcases hpl with rfl | rfl
  · have := h.part hne 0 P
    rw [Nat.add_zero] at this
    unfold halfL
    simpa [offH] using this
  · have := h.part hne P P
    unfold halfL
    simpa [offH] using this
set_option maxHeartbeats 1000000 in
theorem side_d0 (P : Nat) (s c l : Int) (st sk re fe ag : Bool) (g o : Nat) (p2 : Option Addr) (pc1 pn2 pc2 : Nat) (pp : Int) (player : Int) (w : World) (hP : 2 ≤ P) (hP2 : P ≤ 8) (hc : 2 * P ≤ pc1) (hp : player = 0 ∨ player = 1) :
    Calls Try.prog 107 #[.agg #[.slice (some ⟨g, o, none⟩) (2 * P) pc1, .slice p2 pn2 pc2, .int .i64 pp], .agg #[.int .i64 P, .int .i64 s, .bool st, .bool sk, .bool re, .bool fe, .bool ag, .int .i64 c, .int .i64 l], .int .i64 player] w fun e w' =>
      e = .returned (.slice (some ⟨g, offH o P player, none⟩) P (capH pc1 P player)) ∧ Below w.heap.size w w' := by
  have BB := Lib.hid (((Below.refl w.heap.size w).alloc (Nat.le_refl _) (.cells #[.slice (some ⟨g, o, none⟩) (2 * P) pc1, .slice p2 pn2 pc2, .int .i64 pp] 32)).alloc (by simp) (.cells #[.int .i64 P, .int .i64 s, .bool st, .bool sk, .bool re, .bool fe, .bool ag, .int .i64 c, .int .i64 l] 30))
  rcases hp with rfl | rfl
  · go_enter Try.func107, Try.ntmps107
    go_wp2
    go_ret
    exact ⟨rfl, BB.out⟩
  · have he : 2 * P - P = P := by omega
    have HE := Lib.hid he
    clear he
    go_enter Try.func107, Try.ntmps107
    go_wp2
    go_ret
    refine ⟨?_, BB.out⟩
    show Ending.returned (.slice (some ⟨g, o + P, none⟩) (2 * P - P) (pc1 - P)) = _
    rw [HE.out]
    rfl
theorem side_d (p s c l : Int) (st sk re fe ag : Bool) (p1 p2 : Option Addr) (pn1 pc1 pn2 pc2 : Nat) (pp : Int) (g o : Nat) (player : Int) (w : World) (hp1 : p1 = some ⟨g, o, none⟩) (hp : 2 ≤ p ∧ p ≤ 8) (h2 : (pn1 : Int) = 2 * p) (hc : pn1 ≤ pc1) (hpl : player = 0 ∨ player = 1) :
    Calls Try.prog 107 #[.agg #[.slice p1 pn1 pc1, .slice p2 pn2 pc2, .int .i64 pp], .agg #[.int .i64 p, .int .i64 s, .bool st, .bool sk, .bool re, .bool fe, .bool ag, .int .i64 c, .int .i64 l], .int .i64 player] w fun e w' => e = .returned (.slice (some ⟨g, offH o p.toNat player, none⟩) p.toNat (capH pc1 p.toNat player)) ∧ Below w.heap.size w w' := by
  obtain ⟨P, rfl⟩ : ∃ P : Nat, p = (P : Int) := ⟨p.toNat, by omega⟩
  rw [Int.toNat_natCast]
  subst hp1
  obtain rfl : pn1 = 2 * P := by omega
  exact side_d0 P s c l st sk re fe ag g o p2 pc1 pn2 pc2 pp player w (by omega) (by omega) hc hpl
set_option maxHeartbeats 4000000 in
set_option maxRecDepth 100000 in
theorem isSlam_any (p s c l : Int) (st sk re fe ag : Bool) (player : Int) (p1 p2 : Option Addr) (pn1 pc1 pn2 pc2 : Nat) (pp pq : Int) (xs ys L : List Int) (a : Option Addr) (cc n : Nat) (w : World) (h : PosR w p1 p2 pn1 pn2 xs ys) (hq : posB xs = true) (ht : tot xs ≤ 96) (hp : 2 ≤ p ∧ p ≤ 8) (hn1 : (pn1 : Int) = 2 * p) (hpl : player = 0 ∨ player = 1) (hL : ∀ k ∈ L, 0 ≤ k ∧ k < (pn1 : Int)) (hn : L.length = n) (hn16 : n ≤ 1000) (ha : RowN w a L) (hcap : pn1 ≤ pc1) :
    Calls Try.prog 90 #[.agg #[.int .i64 p, .int .i64 s, .bool st, .bool sk, .bool re, .bool fe, .bool ag, .int .i64 c, .int .i64 l, .int .i64 player, .slice p1 pn1 pc1, .slice p2 pn2 pc2, .int .i64 pp, .int .i64 pq], .slice a n cc] w fun e w' => e = .returned (.bool (slamB p player xs L)) ∧ Below w.heap.size w w' := by
  have HC := Lib.hid (cp_new p s c l st sk re fe ag player p1 p2 pn1 pc1 pn2 pc2 pp pq w 73)
  obtain ⟨⟨_, c0, c1, c2, c3, c4, c5, c6, c7, c8, c9, c10, c11, c12, c13⟩, -⟩ := HC.out
  have H0 := Lib.hid h
  have HA := Lib.hid ha
  have HP := Lib.hid hp
  have HPl0 := Lib.hid hpl
  have HPl : Hid (1 - player = 0 ∨ 1 - player = 1) := Lib.hid (by omega)
  have HQ := Lib.hid (And.intro hq ht)
  have Hn1 := Lib.hid hn1
  have Hcap := Lib.hid hcap
  have HL1 := Lib.hid h.l1
  have hlp : xs.length = 2 * p.toNat := by have := h.l1; omega
  have HLh := Lib.hid (half_len hlp HPl.out)
  have hht := half_tot hlp HPl.out hq
  have HH : Hid (posB (halfL xs p.toNat (1 - player)) = true ∧ tot (halfL xs p.toNat (1 - player)) ≤ 96) := Lib.hid ⟨hht.1, by omega⟩
  have hw1 : IntKind.i64.wrap (1 - player) = 1 - player := IntWalk.i64_in _ ⟨by omega, by omega⟩
  have HLn := Lib.hid (And.intro hL hn)
  have hnex : xs ≠ [] := by intro e; have := h.l1; subst e; simp at this; omega
  obtain ⟨gx, ox, hgx, -⟩ := h.r1.2.resolve_left hnex
  have HG := Lib.hid hgx
  have HRow : Hid (∀ u, Below w.heap.size w u → RowN u (some ⟨gx, offH ox p.toNat (1 - player), none⟩) (halfL xs p.toNat (1 - player))) := Lib.hid (fun u hu => row_half (by rw [← HG.out]; exact (H0.out.below hu).r1) hnex HPl.out)
  clear hnex hgx
  clear h ha hp hpl hq ht hn1 hcap hlp hht hL hn
  go_enter Try.func90, Try.ntmps90
  go_wp2_with fail
  generalize w.alloc (.cells #[.int .i64 p, .int .i64 s, .bool st, .bool sk, .bool re, .bool fe, .bool ag, .int .i64 c, .int .i64 l, .int .i64 player, .slice p1 pn1 pc1, .slice p2 pn2 pc2, .int .i64 pp, .int .i64 pq] 73) = w1 at *
  clear c0 c1 c2 c3 c4 c5 c6 c7 c8 c9 c10 c11 c12 c13
  go_loopw [5, 10] (fun s0 i wr => ∃ (k : Nat) (t : Int), k ≤ n ∧ i = .int .i64 k ∧ s0 = .int .i64 t ∧ t = takenF p player xs (L.take k) ∧ CpAt w p s c l st sk re fe ag player p1 p2 pn1 pc1 pn2 pc2 pp pq wr) (fun _ i _ => n - (intOf i).toNat)
  case atStart => exact ⟨0, 0, Nat.zero_le _, rfl, rfl, rfl, HC.out⟩
  case round =>
    obtain ⟨k, t, hk, rfl, rfl, ht', hC⟩ := hrel
    have hb := taken_bd HQ.out.1 HQ.out.2 p player (L.take k)
    rw [← ht', List.length_take] at hb
    obtain ⟨b0, b1⟩ := hb
    have b2 : t ≤ 96 * 1000 := by omega
    have Ht := Lib.hid ht'
    have HC := Lib.hid hC
    obtain ⟨⟨_, c0, c1, c2, c3, c4, c5, c6, c7, c8, c9, c10, c11, c12, c13⟩, -⟩ := hC
    clear ht' b1
    by_cases hlt : k < n
    · obtain ⟨q, hq⟩ : ∃ q, L[k]? = some q := ⟨L[k]'(by rw [HLn.out.2]; exact hlt), List.getElem?_eq_getElem _⟩
      obtain ⟨q0, q1⟩ := HLn.out.1 q (List.mem_of_getElem? hq)
      obtain ⟨Q, rfl⟩ : ∃ Q : Nat, q = (Q : Int) := ⟨q.toNat, by omega⟩
      have hne : L ≠ [] := by intro e; subst e; cases hq
      obtain ⟨ga, oa, rfl, hga, hca⟩ := (HA.out.below HC.out.be).2.resolve_left hne
      have ya := hca k _ hq
      have HV := vAt_bd HQ.out.1 HQ.out.2 (Q : Int)
      obtain ⟨v1, v2⟩ := HV
      have HR : Hid (∀ x ∈ [(Q : Int)], 0 ≤ x ∧ x < (pn1 : Int)) := Lib.hid (fun x hx => by
        rcases List.mem_cons.1 hx with rfl | hx
        · omega
        · cases hx)
      have hs1 := sumAt_one xs (Q : Int)
      have hst := taken_snoc p player xs (L.take k) (Q : Int)
      rw [← take_next hq, ← Ht.out] at hst
      have k0 : (0 : Int) ≤ (k : Int) := by omega
      have k1 : (k : Int) < (n : Int) := by omega
      clear hca hq hne
      generalize vAt xs (Q : Int) = v at *
      have Hs1 := Lib.hid hs1
      rcases hb : ownB p (1 - player) (Q : Int) with _ | _
      · rw [hb] at hst
        have Hst := Lib.hid hst
        have Hb := Lib.hid hb
        clear hst hb hs1
        go_wp2_with (first | (go_at_call 105; refine (isOther_any p s c l st sk re fe ag player p1 p2 pn1 pc1 pn2 pc2 pp pq (Q : Int) _ HP.out HPl0.out).mono ?_; rintro e w5 ⟨rfl, hb5⟩; rw [Hb.out]; have HC := Lib.hid (HC.out.below hb5); clear hb5; obtain ⟨⟨_, c0, c1, c2, c3, c4, c5, c6, c7, c8, c9, c10, c11, c12, c13⟩, -⟩ := HC.out) | (go_at_call 61; refine (seedsIn_any p s c l st sk re fe ag player p1 p2 pn1 pc1 pn2 pc2 pp pq xs ys [(Q : Int)] _ 1 1 _ ((H0.out.below HC.out.be).alloc _) HQ.out.1 HQ.out.2 HR.out rfl (by omega) (row_1 _ _ _)).mono ?_; rintro e w6 ⟨rfl, hb6⟩; rw [Hs1.out]; have HC := Lib.hid ((HC.out.alloc _).below hb6); clear hb6; obtain ⟨⟨_, c0, c1, c2, c3, c4, c5, c6, c7, c8, c9, c10, c11, c12, c13⟩, -⟩ := HC.out))
        go_roundw
        case rel => exact ⟨k + 1, t, by omega, by go_num, rfl, by rw [Hst.out]; simp, HC.out⟩
        case measure => simp [intOf]; omega
      · rw [hb, if_pos rfl] at hst
        have Hst := Lib.hid hst
        have Hb := Lib.hid hb
        clear hst hb hs1
        go_wp2_with (first | (go_at_call 105; refine (isOther_any p s c l st sk re fe ag player p1 p2 pn1 pc1 pn2 pc2 pp pq (Q : Int) _ HP.out HPl0.out).mono ?_; rintro e w5 ⟨rfl, hb5⟩; rw [Hb.out]; have HC := Lib.hid (HC.out.below hb5); clear hb5; obtain ⟨⟨_, c0, c1, c2, c3, c4, c5, c6, c7, c8, c9, c10, c11, c12, c13⟩, -⟩ := HC.out) | (go_at_call 61; refine (seedsIn_any p s c l st sk re fe ag player p1 p2 pn1 pc1 pn2 pc2 pp pq xs ys [(Q : Int)] _ 1 1 _ ((H0.out.below HC.out.be).alloc _) HQ.out.1 HQ.out.2 HR.out rfl (by omega) (row_1 _ _ _)).mono ?_; rintro e w6 ⟨rfl, hb6⟩; rw [Hs1.out]; have HC := Lib.hid ((HC.out.alloc _).below hb6); clear hb6; obtain ⟨⟨_, c0, c1, c2, c3, c4, c5, c6, c7, c8, c9, c10, c11, c12, c13⟩, -⟩ := HC.out))
        go_roundw
        case rel => exact ⟨k + 1, t + v, by omega, by go_num, by go_num, by rw [Hst.out], HC.out⟩
        case measure => simp [intOf]; omega
    · obtain rfl : k = n := by omega
      have e1 : L.take k = L := List.take_of_length_le (by rw [HLn.out.2]; exact Nat.le_refl _)
      have e2 : slamB p player xs L = (decide (0 < t) && decide (t = tot (halfL xs p.toNat (1 - player)))) := by unfold slamB; rw [Ht.out, e1]
      clear e1
      generalize halfL xs p.toNat (1 - player) = hs at *
      by_cases h0 : 0 < t
      · have d0 : decide (0 < t) = true := by simpa using h0
        generalize hT : tot hs = T at *
        have HT := Lib.hid hT
        by_cases h1 : t = T
        · have d1 : (t == T) = true := by simpa using h1
          have e3 : (decide (0 < t) && decide (t = T)) = true := by rw [decide_eq_true h0, decide_eq_true h1]; rfl
          rw [e3] at e2
          have HE2 := Lib.hid e2
          clear h1 hT e2 e3
          go_wp2_with fail
          apply region_class (CpAt w p s c l st sk re fe ag player p1 p2 pn1 pc1 pn2 pc2 pp pq) (by kernel_rfl) (by kernel_rfl) (HC.out.drew)
          repeat (first
            | (apply step_skip (by rfl)
               simp only [Act.put, List.setIfInBounds_toArray, List.set_cons_zero, List.set_cons_succ])
            | (apply step_val (by rfl)
               · intro u hu
                 obtain ⟨⟨_, r0, r1, r2, r3, r4, r5, r6, r7, r8, r9, r10, r11, r12, r13⟩, _⟩ := hu
                 go_simp
                 try with_reducible rfl
               simp only [Act.put, List.setIfInBounds_toArray, List.set_cons_zero, List.set_cons_succ])
            | (apply step_call (by rfl)
               · intro u
                 go_simp
                 exact ⟨rfl, rfl⟩
               · intro u hu
                 (with_reducible refine (position_any p1 p2 pn1 pc1 pn2 pc2 pp pq player _).mono ?_); (rintro e u' ⟨rfl, hb5⟩; exact ⟨rfl, hu.below hb5⟩)
               simp only [Act.put, List.setIfInBounds_toArray, List.set_cons_zero, List.set_cons_succ])
            | (apply step_call (by rfl)
               · intro u
                 go_simp
                 exact ⟨rfl, rfl⟩
               · intro u hu
                 (with_reducible refine (side_d p s c l st sk re fe ag p1 p2 pn1 pc1 pn2 pc2 player gx ox (1 - player) _ HG.out HP.out Hn1.out Hcap.out HPl.out).mono ?_); (rintro e u' ⟨rfl, hb5⟩; exact ⟨rfl, hu.below hb5⟩)
               simp only [Act.put, List.setIfInBounds_toArray, List.set_cons_zero, List.set_cons_succ])
            | (apply step_call (by rfl)
               · intro u
                 go_simp
                 exact ⟨rfl, rfl⟩
               · intro u hu
                 (with_reducible refine (sumOf_any _ _ p.toNat hs _ HLh.out (HRow.out _ hu.be) HH.out.1 (by rw [HT.out]; exact HH.out.2)).mono ?_); (rintro e u' ⟨rfl, rfl⟩; rw [HT.out]; exact ⟨rfl, hu⟩)
               simp only [Act.put, List.setIfInBounds_toArray, List.set_cons_zero, List.set_cons_succ]))
          apply step_nil
          intro w5 hs5
          have HS5 := Lib.hid hs5
          clear hs5
          go_wp2_with fail
          go_ret
          exact ⟨by rw [HE2.out]; rfl, HS5.out.be⟩
        · have d1 : (t == T) = false := by simpa using h1
          have e3 : (decide (0 < t) && decide (t = T)) = false := by rw [decide_eq_false h1]; simp
          rw [e3] at e2
          have HE2 := Lib.hid e2
          clear h1 hT e2 e3
          go_wp2_with fail
          apply region_class (CpAt w p s c l st sk re fe ag player p1 p2 pn1 pc1 pn2 pc2 pp pq) (by kernel_rfl) (by kernel_rfl) (HC.out.drew)
          repeat (first
            | (apply step_skip (by rfl)
               simp only [Act.put, List.setIfInBounds_toArray, List.set_cons_zero, List.set_cons_succ])
            | (apply step_val (by rfl)
               · intro u hu
                 obtain ⟨⟨_, r0, r1, r2, r3, r4, r5, r6, r7, r8, r9, r10, r11, r12, r13⟩, _⟩ := hu
                 go_simp
                 try with_reducible rfl
               simp only [Act.put, List.setIfInBounds_toArray, List.set_cons_zero, List.set_cons_succ])
            | (apply step_call (by rfl)
               · intro u
                 go_simp
                 exact ⟨rfl, rfl⟩
               · intro u hu
                 (with_reducible refine (position_any p1 p2 pn1 pc1 pn2 pc2 pp pq player _).mono ?_); (rintro e u' ⟨rfl, hb5⟩; exact ⟨rfl, hu.below hb5⟩)
               simp only [Act.put, List.setIfInBounds_toArray, List.set_cons_zero, List.set_cons_succ])
            | (apply step_call (by rfl)
               · intro u
                 go_simp
                 exact ⟨rfl, rfl⟩
               · intro u hu
                 (with_reducible refine (side_d p s c l st sk re fe ag p1 p2 pn1 pc1 pn2 pc2 player gx ox (1 - player) _ HG.out HP.out Hn1.out Hcap.out HPl.out).mono ?_); (rintro e u' ⟨rfl, hb5⟩; exact ⟨rfl, hu.below hb5⟩)
               simp only [Act.put, List.setIfInBounds_toArray, List.set_cons_zero, List.set_cons_succ])
            | (apply step_call (by rfl)
               · intro u
                 go_simp
                 exact ⟨rfl, rfl⟩
               · intro u hu
                 (with_reducible refine (sumOf_any _ _ p.toNat hs _ HLh.out (HRow.out _ hu.be) HH.out.1 (by rw [HT.out]; exact HH.out.2)).mono ?_); (rintro e u' ⟨rfl, rfl⟩; rw [HT.out]; exact ⟨rfl, hu⟩)
               simp only [Act.put, List.setIfInBounds_toArray, List.set_cons_zero, List.set_cons_succ]))
          apply step_nil
          intro w5 hs5
          have HS5 := Lib.hid hs5
          clear hs5
          go_wp2_with fail
          go_ret
          exact ⟨by rw [HE2.out]; rfl, HS5.out.be⟩
      · have d0 : decide (0 < t) = false := by simpa using h0
        have e3 : (decide (0 < t) && decide (t = tot hs)) = false := by rw [decide_eq_false h0]; rfl
        rw [e3] at e2
        have HE2 := Lib.hid e2
        clear e2 e3
        go_wp2_with fail
        apply region_class (CpAt w p s c l st sk re fe ag player p1 p2 pn1 pc1 pn2 pc2 pp pq) (by kernel_rfl) (by kernel_rfl) (HC.out.drew)
        repeat (first
          | (apply step_skip (by rfl)
             simp only [Act.put, List.setIfInBounds_toArray, List.set_cons_zero, List.set_cons_succ])
          | (apply step_val (by rfl)
             · intro u hu
               obtain ⟨⟨_, r0, r1, r2, r3, r4, r5, r6, r7, r8, r9, r10, r11, r12, r13⟩, _⟩ := hu
               go_simp
               try with_reducible rfl
             simp only [Act.put, List.setIfInBounds_toArray, List.set_cons_zero, List.set_cons_succ]))
        apply step_nil
        intro w5 hs5
        have HS5 := Lib.hid hs5
        clear hs5
        go_wp2_with fail
        go_ret
        exact ⟨by rw [HE2.out]; rfl, HS5.out.be⟩
end Go.Proofs.Ytdhkfkfoibddnaa
