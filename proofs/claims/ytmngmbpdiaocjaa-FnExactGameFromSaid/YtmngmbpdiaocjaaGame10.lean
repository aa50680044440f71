/- What GameFrom gives: both sides in one form. No conditions. -/
import Derived.Test.YtmngmbpdiaocjaaGame9
namespace Go.Proofs.Ytmngmbpdiaocjaa
open Go.Joins Go.ChangeShapes Go.WideShapes Go.ChangeAt Go.RowKit Go.Deep
set_option linter.unusedVariables false

/-- A game that GameFrom gives, and a code: the reference's. -/
def FgS (xp xs xc xl : Int) (xst xsk xre xfe xag : Bool) (n1 n2 : Nat) (xq rg cd : Int) (ps qs : List Int) (w : World) (e : Ending) (w' : World) : Prop :=
  ∃ (a1 a2 a4 a5 : Option Addr) (ac1 ac2 ac4 ac5 : Nat), e = .returned (.tuple #[.agg #[.int .i64 xp, .int .i64 xs, .bool xst, .bool xsk, .bool xre, .bool xfe, .bool xag, .int .i64 xc, .int .i64 xl, .slice a1 n1 ac1, .slice a2 n2 ac2, .int .i64 xq, .slice none 0 0, .slice a4 n1 ac4, .slice a5 n2 ac5, .int .i64 xq, .int .i64 rg], .int .i64 cd]) ∧ GamR w' a1 a2 n1 n2 none 0 a4 a5 n1 n2 ps qs [] ps qs ∧ Below w.heap.size w w'
/-- .. and the program's: in blocks of the call's own, all different. -/
def FgO (xp xs xc xl : Int) (xst xsk xre xfe xag : Bool) (n1 n2 : Nat) (xq rg cd : Int) (ps qs : List Int) (w : World) (e : Ending) (w' : World) : Prop :=
  ∃ (a1 a2 a4 a5 : Option Addr) (ac1 ac2 ac4 ac5 : Nat) (k1 k2 k3 k4 k5 : Nat), e = .returned (.tuple #[.agg #[.int .i64 xp, .int .i64 xs, .bool xst, .bool xsk, .bool xre, .bool xfe, .bool xag, .int .i64 xc, .int .i64 xl, .slice a1 n1 ac1, .slice a2 n2 ac2, .int .i64 xq, .slice none 0 0, .slice a4 n1 ac4, .slice a5 n2 ac5, .int .i64 xq, .int .i64 rg], .int .i64 cd]) ∧ GamO w' w.heap.size a1 a2 k1 k2 n1 n2 none k3 0 a4 a5 k4 k5 n1 n2 ps qs [] ps qs ∧ GamD w' k1 k2 k3 k4 k5 ∧ Below w.heap.size w w'
theorem outN_noneG (w : World) (B b : Nat) (h : B ≤ b) : OutN w B none b [] := ⟨rowN_nil _ _, (fun _ _ h => nomatch h), h, fun h => absurd rfl h⟩
theorem gm_storedG (ggp ggs ggc ggl : Int) (ggst ggsk ggre ggfe ggag : Bool) (gga1 gga2 : Option Addr) (ggan1 ggac1 ggan2 ggac2 : Nat) (ggap : Int) (ggm : Option Addr) (ggmn ggmc : Nat) (ggb1 ggb2 : Option Addr) (ggbn1 ggbc1 ggbn2 ggbc2 : Nat) (ggbp ggrg : Int) (v : World) (T : TypeId) : GmAt ((v.alloc (.cells #[.int .i64 0, .int .i64 0, .bool false, .bool false, .bool false, .bool false, .bool false, .int .i64 0, .int .i64 0, .slice none 0 0, .slice none 0 0, .int .i64 0, .slice none 0 0, .slice none 0 0, .slice none 0 0, .int .i64 0, .int .i64 0] T)).setCells v.heap.size 0 [.int .i64 ggp, .int .i64 ggs, .bool ggst, .bool ggsk, .bool ggre, .bool ggfe, .bool ggag, .int .i64 ggc, .int .i64 ggl, .slice gga1 ggan1 ggac1, .slice gga2 ggan2 ggac2, .int .i64 ggap, .slice ggm ggmn ggmc, .slice ggb1 ggbn1 ggbc1, .slice ggb2 ggbn2 ggbc2, .int .i64 ggbp, .int .i64 ggrg]) v.heap.size ggp ggs ggc ggl ggst ggsk ggre ggfe ggag gga1 gga2 ggan1 ggac1 ggan2 ggac2 ggap ggm ggmn ggmc ggb1 ggb2 ggbn1 ggbc1 ggbn2 ggbc2 ggbp ggrg :=
  gm_of_rg (by rw [size_scg]; simp) (World.rangeAt_setCells_same _ _ 0 _ (there17 v T))
theorem GamD.belowG {u v : World} {k1 k2 k3 k4 k5 : Nat} (h : GamD u k1 k2 k3 k4 k5) (k : u.heap.size ≤ v.heap.size) : GamD v k1 k2 k3 k4 k5 :=
  ⟨Nat.lt_of_lt_of_le h.l1 k, Nat.lt_of_lt_of_le h.l2 k, Nat.lt_of_lt_of_le h.l3 k, Nat.lt_of_lt_of_le h.l4 k, Nat.lt_of_lt_of_le h.l5 k, h.n13, h.n23, h.n14, h.n24, h.n15, h.n25, h.n34, h.n35⟩
theorem specFrom (p s c l : Int) (st sk re fe ag : Bool) (q1 q2 : Option Addr) (qn1 qc1 qn2 qc2 : Nat) (qp : Int) (xs ys : List Int) (hy : okP (okR p s c l st ag) p qn1 qn2 qp xs ys = true) (w : World) (h : PosR w q1 q2 qn1 qn2 xs ys) : Calls Try.prog 14 #[.agg #[.int .i64 p, .int .i64 s, .bool st, .bool sk, .bool re, .bool fe, .bool ag, .int .i64 c, .int .i64 l], .agg #[.slice q1 qn1 qc1, .slice q2 qn2 qc2, .int .i64 qp]] w (FgS p s c l st sk re fe ag qn1 qn2 qp (-1) 0 xs ys w) := by
  have hp := okR_bd (okP_parts hy).1
  have h1 := (okP_parts hy).2.1
  have h2 := (okP_parts hy).2.2.1
  refine (specGF_yes p s c l st sk re fe ag q1 q2 qn1 qc1 qn2 qc2 qp xs ys w h (by intro e; have := h.l1; rw [e] at this; simp at this; omega) (by intro e; have := h.l2; rw [e] at this; simp at this; omega) hy).mono ?_
  rintro e w' ⟨g1, c1, g2, c2, g4, c4, g5, c5, rfl, hn, -⟩
  exact ⟨_, _, _, _, _, _, _, _, rfl, ⟨hn.s.r, rowN_nil _ _, rfl, hn.n.r⟩, hn.be⟩
theorem implFrom (p s c l : Int) (st sk re fe ag : Bool) (q1 q2 : Option Addr) (qn1 qc1 qn2 qc2 : Nat) (qp : Int) (xs ys : List Int) (hy : okP (okR p s c l st ag) p qn1 qn2 qp xs ys = true) (w : World) (h : PosR w q1 q2 qn1 qn2 xs ys) : Calls Try.prog 17 #[.agg #[.int .i64 p, .int .i64 s, .bool st, .bool sk, .bool re, .bool fe, .bool ag, .int .i64 c, .int .i64 l], .agg #[.slice q1 qn1 qc1, .slice q2 qn2 qc2, .int .i64 qp]] w (FgO p s c l st sk re fe ag qn1 qn2 qp (-1) 0 xs ys w) := by
  have hp := okR_bd (okP_parts hy).1
  have h1 := (okP_parts hy).2.1
  have h2 := (okP_parts hy).2.2.1
  refine (implGF_yes p s c l st sk re fe ag q1 q2 qn1 qc1 qn2 qc2 qp xs ys w h (by intro e; have := h.l1; rw [e] at this; simp at this; omega) (by intro e; have := h.l2; rw [e] at this; simp at this; omega) hy).mono ?_
  rintro e w' ⟨g1, c1, g2, c2, g4, c4, g5, c5, rfl, hn, hg⟩
  have l1 := hn.l1
  have l2 := hn.l2
  have l4 := hn.l4
  have l5 := hn.l5
  have m1 := hn.n14
  have m2 := hn.n15
  have m3 := hn.n24
  have m4 := hn.n25
  exact ⟨_, _, _, _, _, _, _, _, g1, g2, w.heap.size, g4, g5, rfl, ⟨hn.s, outN_noneG _ _ _ (Nat.le_refl _), rfl, hn.n⟩, ⟨by omega, by omega, by omega, by omega, by omega, by omega, by omega, by omega, by omega, by omega, by omega, by omega, by omega⟩, hn.be⟩
/-- The reference's game in a block. -/
def FgA (u : World) (A : Nat) (xp xs xc xl : Int) (xst xsk xre xfe xag : Bool) (n1 n2 : Nat) (xq rg cd : Int) (ps qs : List Int) : Prop := ∃ (a1 a2 a4 a5 : Option Addr) (ac1 ac2 ac4 ac5 : Nat), GmAt u A xp xs xc xl xst xsk xre xfe xag a1 a2 n1 ac1 n2 ac2 xq none 0 0 a4 a5 n1 ac4 n2 ac5 xq rg ∧ GamR u a1 a2 n1 n2 none 0 a4 a5 n1 n2 ps qs [] ps qs
theorem FgA.below {u v : World} {A : Nat} {xp xs xc xl : Int} {xst xsk xre xfe xag : Bool} {n1 n2 : Nat} {xq rg cd : Int} {ps qs : List Int} (h : FgA u A xp xs xc xl xst xsk xre xfe xag n1 n2 xq rg cd ps qs) (k : Below u.heap.size u v) : FgA v A xp xs xc xl xst xsk xre xfe xag n1 n2 xq rg cd ps qs := by
  obtain ⟨a1, a2, a4, a5, ac1, ac2, ac4, ac5, h1, h2⟩ := h
  exact ⟨_, _, _, _, _, _, _, _, h1.below k, h2.below k⟩
end Go.Proofs.Ytmngmbpdiaocjaa
