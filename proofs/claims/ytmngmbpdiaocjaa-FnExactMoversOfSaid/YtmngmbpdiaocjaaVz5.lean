/- Mk10, Mk11, Res7, Mk12, Run8, Ps8, Rm8, Rn8, Rn9, Ok8, Pl8, Pm8, one after the other (what the laws reach of them). No conditions. -/
import Derived.Test.YtmngmbpdiaocjaaVz4
import Derived.BigFrame
namespace Go.Proofs.Ytmngmbpdiaocjaa
open Go.Joins Go.ChangeShapes Go.WideShapes Go.ChangeAt Go.RowKit Go.Deep
set_option linter.unusedVariables false
theorem GmAt.s13 {u : World} {b : Nat} {ggp ggs ggc ggl : Int} {ggst ggsk ggre ggfe ggag : Bool} {gga1 gga2 : Option Addr} {ggan1 ggac1 ggan2 ggac2 : Nat} {ggap : Int} {ggm : Option Addr} {ggmn ggmc : Nat} {ggb1 ggb2 : Option Addr} {ggbn1 ggbc1 ggbn2 ggbc2 : Nat} {ggbp ggrg : Int} (h : GmAt u b ggp ggs ggc ggl ggst ggsk ggre ggfe ggag gga1 gga2 ggan1 ggac1 ggan2 ggac2 ggap ggm ggmn ggmc ggb1 ggb2 ggbn1 ggbc1 ggbn2 ggbc2 ggbp ggrg) : At3 u b ggb1 ggb2 ggbn1 ggbc1 ggbn2 ggbc2 ggbp 13 14 15 := ⟨h.1, h.2.2.2.2.2.2.2.2.2.2.2.2.2.2.1, h.2.2.2.2.2.2.2.2.2.2.2.2.2.2.2.1, h.2.2.2.2.2.2.2.2.2.2.2.2.2.2.2.2.1⟩
set_option maxHeartbeats 8000000
set_option maxRecDepth 100000
/- Mk10 -/
structure Z21 (u : World) (z : Nat) : Prop where
 lt : z < u.heap.size
 c0 : u.cell? ⟨z, 0, none⟩ = some (.int .i64 0)
 c1 : u.cell? ⟨z, 1, none⟩ = some (.int .i64 0)
 c2 : u.cell? ⟨z, 2, none⟩ = some (.bool false)
 c3 : u.cell? ⟨z, 3, none⟩ = some (.bool false)
 c4 : u.cell? ⟨z, 4, none⟩ = some (.bool false)
 c5 : u.cell? ⟨z, 5, none⟩ = some (.bool false)
 c6 : u.cell? ⟨z, 6, none⟩ = some (.bool false)
 c7 : u.cell? ⟨z, 7, none⟩ = some (.int .i64 0)
 c8 : u.cell? ⟨z, 8, none⟩ = some (.int .i64 0)
 c9 : u.cell? ⟨z, 9, none⟩ = some (.int .i64 0)
 c10 : u.cell? ⟨z, 10, none⟩ = some (.slice none 0 0)
 c11 : u.cell? ⟨z, 11, none⟩ = some (.slice none 0 0)
 c12 : u.cell? ⟨z, 12, none⟩ = some (.int .i64 0)
 c13 : u.cell? ⟨z, 13, none⟩ = some (.int .i64 0)
 c14 : u.cell? ⟨z, 14, none⟩ = some (.slice none 0 0)
 c15 : u.cell? ⟨z, 15, none⟩ = some (.slice none 0 0)
 c16 : u.cell? ⟨z, 16, none⟩ = some (.int .i64 0)
 c17 : u.cell? ⟨z, 17, none⟩ = some (.slice none 0 0)
 c18 : u.cell? ⟨z, 18, none⟩ = some (.slice none 0 0)
 c19 : u.cell? ⟨z, 19, none⟩ = some (.int .i64 0)
 c20 : u.cell? ⟨z, 20, none⟩ = some (.int .i64 0)
 fr : ∀ o, u.frozen? ⟨z, o, none⟩ = false
theorem Z21.below {u v : World} {z : Nat} (h : Z21 u z) (k : Below u.heap.size u v) : Z21 v z := by
 have e := fun o => k.cell (p := ⟨z, o, none⟩) h.lt
 exact ⟨Nat.lt_of_lt_of_le h.lt k.size, (e _).trans h.c0, (e _).trans h.c1, (e _).trans h.c2, (e _).trans h.c3, (e _).trans h.c4, (e _).trans h.c5, (e _).trans h.c6, (e _).trans h.c7, (e _).trans h.c8, (e _).trans h.c9, (e _).trans h.c10, (e _).trans h.c11, (e _).trans h.c12, (e _).trans h.c13, (e _).trans h.c14, (e _).trans h.c15, (e _).trans h.c16, (e _).trans h.c17, (e _).trans h.c18, (e _).trans h.c19, (e _).trans h.c20, fun o => (k.frozen (p := ⟨z, o, none⟩) h.lt).trans (h.fr o)⟩
theorem Z21.drew {u : World} {z : Nat} (h : Z21 u z) : Z21 u.drew z := h.below (Below.refl _ _).drew
theorem wpList_load_want {P : Program} {ops : Array Oper} {rest : List Oper} {op : Oper} {a : Act} {w : World} {Q : Exit → Act → World → Prop} (hw : Region.wanted op (yielded ops a.tmps) = true) (ty : TypeId) (x : Operand) (ho : op.op = .load ty x)
  (b o : Nat) (hx : a.eval x = .pointer (some ⟨b, o, none⟩)) (cs : List Value) (d : TypeDesc) (hc : w.rangeAt b o cs)
  (hu : P.underlying ty = some d) (hd : d.isRow = true) (hi : (P.info? ty).map (·.size) = some cs.length)
  (h : wpList P ops Q rest (a.put op.dst (.agg cs.toArray)) w) : wpList P ops Q (op :: rest) a w :=
 BigFrame.wpList_want hw fun K hK => wp_load_mid ty x ho b o hx cs d hc hu hd hi (hK _ _ h)
theorem but_sc (b : Nat) : ∀ (vs : List Value) (o : Nat) (u : World), But b u (u.setCells b o vs)
 | [], _, u => But.refl b u
 | v :: r, o, u => ((But.refl b u).setCell (p := ⟨b, o, none⟩) rfl v).trans (but_sc b r (o + 1) _)
theorem mm_one (p s c l : Int) (st sk re fe ag : Bool) (player : Int) (s1 s2 : Option Addr) (sn1 sc1 sn2 sc2 : Nat) (sp sq : Int) (p1 p2 : Option Addr) (pn1 pc1 pn2 pc2 : Nat) (pp : Int) (t1 t2 : Option Addr) (tn1 tc1 tn2 tc2 : Nat) (tp tq : Int) : (List.toArray ([.int .i64 p, .int .i64 s, .bool st, .bool sk, .bool re, .bool fe, .bool ag, .int .i64 c, .int .i64 l, .int .i64 player, .slice s1 sn1 sc1, .slice s2 sn2 sc2, .int .i64 sp, .int .i64 sq, .slice p1 pn1 pc1, .slice p2 pn2 pc2, .int .i64 pp, .slice t1 tn1 tc1, .slice t2 tn2 tc2, .int .i64 tp, .int .i64 tq] : List Value)).all (·.oneCell') = true := all_oneCell_toArray (by simp [Value.oneCell'])
theorem size_sc (b : Nat) : ∀ (vs : List Value) (o : Nat) (u : World), (u.setCells b o vs).heap.size = u.heap.size
 | [], _, _ => rfl
 | v :: r, o, u => by rw [World.setCells, size_sc b r]; simp
theorem range14 {u : World} {C : Nat} {x0 x1 x2 x3 x4 x5 x6 x7 x8 x9 x10 x11 x12 x13 : Value} (h : C < u.heap.size ∧ u.cell? ⟨C, 0, none⟩ = some x0 ∧ u.cell? ⟨C, 1, none⟩ = some x1 ∧ u.cell? ⟨C, 2, none⟩ = some x2 ∧ u.cell? ⟨C, 3, none⟩ = some x3 ∧ u.cell? ⟨C, 4, none⟩ = some x4 ∧ u.cell? ⟨C, 5, none⟩ = some x5 ∧ u.cell? ⟨C, 6, none⟩ = some x6 ∧ u.cell? ⟨C, 7, none⟩ = some x7 ∧ u.cell? ⟨C, 8, none⟩ = some x8 ∧ u.cell? ⟨C, 9, none⟩ = some x9 ∧ u.cell? ⟨C, 10, none⟩ = some x10 ∧ u.cell? ⟨C, 11, none⟩ = some x11 ∧ u.cell? ⟨C, 12, none⟩ = some x12 ∧ u.cell? ⟨C, 13, none⟩ = some x13) : u.rangeAt C 0 [x0, x1, x2, x3, x4, x5, x6, x7, x8, x9, x10, x11, x12, x13] := by
 obtain ⟨_, m0, m1, m2, m3, m4, m5, m6, m7, m8, m9, m10, m11, m12, m13⟩ := h
 intro j v hj
 match j, hj with
 | 0, hj => cases hj; exact m0
 | 1, hj => cases hj; exact m1
 | 2, hj => cases hj; exact m2
 | 3, hj => cases hj; exact m3
 | 4, hj => cases hj; exact m4
 | 5, hj => cases hj; exact m5
 | 6, hj => cases hj; exact m6
 | 7, hj => cases hj; exact m7
 | 8, hj => cases hj; exact m8
 | 9, hj => cases hj; exact m9
 | 10, hj => cases hj; exact m10
 | 11, hj => cases hj; exact m11
 | 12, hj => cases hj; exact m12
 | 13, hj => cases hj; exact m13
 | n + 14, hj => simp at hj
theorem range3 {u : World} {C : Nat} {x0 x1 x2 : Value} (h : C < u.heap.size ∧ u.cell? ⟨C, 0, none⟩ = some x0 ∧ u.cell? ⟨C, 1, none⟩ = some x1 ∧ u.cell? ⟨C, 2, none⟩ = some x2) : u.rangeAt C 0 [x0, x1, x2] := by
 obtain ⟨_, m0, m1, m2⟩ := h
 intro j v hj
 match j, hj with
 | 0, hj => cases hj; exact m0
 | 1, hj => cases hj; exact m1
 | 2, hj => cases hj; exact m2
 | n + 3, hj => simp at hj
def CkAt (w U : World) (C : Nat) (p s c l : Int) (st sk re fe ag : Bool) (player : Int) (s1 s2 : Option Addr) (sn1 sc1 sn2 sc2 : Nat) (sp sq : Int) (p1 p2 : Option Addr) (pn1 pc1 pn2 pc2 : Nat) (pp : Int) (u : World) : Prop := (C < u.heap.size ∧ u.cell? ⟨C, 0, none⟩ = some (.int .i64 p) ∧ u.cell? ⟨C, 1, none⟩ = some (.int .i64 s) ∧ u.cell? ⟨C, 2, none⟩ = some (.bool st) ∧ u.cell? ⟨C, 3, none⟩ = some (.bool sk) ∧ u.cell? ⟨C, 4, none⟩ = some (.bool re) ∧ u.cell? ⟨C, 5, none⟩ = some (.bool fe) ∧ u.cell? ⟨C, 6, none⟩ = some (.bool ag) ∧ u.cell? ⟨C, 7, none⟩ = some (.int .i64 c) ∧ u.cell? ⟨C, 8, none⟩ = some (.int .i64 l) ∧ u.cell? ⟨C, 9, none⟩ = some (.int .i64 player) ∧ u.cell? ⟨C, 10, none⟩ = some (.slice s1 sn1 sc1) ∧ u.cell? ⟨C, 11, none⟩ = some (.slice s2 sn2 sc2) ∧ u.cell? ⟨C, 12, none⟩ = some (.int .i64 sp) ∧ u.cell? ⟨C, 13, none⟩ = some (.int .i64 sq)) ∧ (w.heap.size + 1 < u.heap.size ∧ u.cell? ⟨w.heap.size + 1, 0, none⟩ = some (.slice p1 pn1 pc1) ∧ u.cell? ⟨w.heap.size + 1, 1, none⟩ = some (.slice p2 pn2 pc2) ∧ u.cell? ⟨w.heap.size + 1, 2, none⟩ = some (.int .i64 pp)) ∧ Below U.heap.size U u
section
variable {w U u v : World} {C : Nat} {p s c l player : Int} {st sk re fe ag : Bool} {s1 s2 : Option Addr} {sn1 sc1 sn2 sc2 : Nat} {sp sq : Int} {p1 p2 : Option Addr} {pn1 pc1 pn2 pc2 : Nat} {pp : Int}
theorem CkAt.below (h : CkAt w U C p s c l st sk re fe ag player s1 s2 sn1 sc1 sn2 sc2 sp sq p1 p2 pn1 pc1 pn2 pc2 pp u) (k : Below u.heap.size u v) : CkAt w U C p s c l st sk re fe ag player s1 s2 sn1 sc1 sn2 sc2 sp sq p1 p2 pn1 pc1 pn2 pc2 pp v := by
 obtain ⟨⟨hb, h⟩, h2, hw⟩ := h
 have e := fun o => k.cell (p := ⟨C, o, none⟩) hb
 exact ⟨⟨Nat.lt_of_lt_of_le hb k.size, by rw [e, e, e, e, e, e, e, e, e, e, e, e, e, e]; exact h⟩, PoAt.below (show PoAt u (w.heap.size + 1) p1 p2 pn1 pc1 pn2 pc2 pp from h2) k, hw.trans (k.mono hw.size)⟩
theorem CkAt.drew (h : CkAt w U C p s c l st sk re fe ag player s1 s2 sn1 sc1 sn2 sc2 sp sq p1 p2 pn1 pc1 pn2 pc2 pp u) : CkAt w U C p s c l st sk re fe ag player s1 s2 sn1 sc1 sn2 sc2 sp sq p1 p2 pn1 pc1 pn2 pc2 pp u.drew := h.below (Below.refl _ _).drew
theorem CkAt.sc {b : Nat} (h : CkAt w U C p s c l st sk re fe ag player s1 s2 sn1 sc1 sn2 sc2 sp sq p1 p2 pn1 pc1 pn2 pc2 pp u) (h1 : C ≠ b) (h2 : w.heap.size + 1 ≠ b) (hb : U.heap.size ≤ b) (vs : List Value) (o : Nat) : CkAt w U C p s c l st sk re fe ag player s1 s2 sn1 sc1 sn2 sc2 sp sq p1 p2 pn1 pc1 pn2 pc2 pp (u.setCells b o vs) := by
 obtain ⟨⟨hc, h⟩, h3, hw⟩ := h
 have k := but_sc b vs o u
 have e := fun o' => k.cell (c := C) (o := o') hc h1
 exact ⟨⟨Nat.lt_of_lt_of_le hc k.size, by rw [e, e, e, e, e, e, e, e, e, e, e, e, e, e]; exact h⟩, PoAt.but (show PoAt u (w.heap.size + 1) p1 p2 pn1 pc1 pn2 pc2 pp from h3) k h2, But.lift hw k hb⟩
theorem CkAt.be (h : CkAt w U C p s c l st sk re fe ag player s1 s2 sn1 sc1 sn2 sc2 sp sq p1 p2 pn1 pc1 pn2 pc2 pp u) : OnW U u := h.2.2
end
structure MkF (w U : World) (p s c l : Int) (st sk re fe ag : Bool) (pp : Int) (s1 s2 : Option Addr) (pn1 sc1 sc2 : Nat) (p1 p2 : Option Addr) (pc1 pc2 : Nat) (m : Res) (M g1 k1 g2 k2 : Nat) (W : World) : Prop where
 rg : W.rangeAt M 0 [.int .i64 p, .int .i64 s, .bool st, .bool sk, .bool re, .bool fe, .bool ag, .int .i64 c, .int .i64 l, .int .i64 pp, .slice s1 pn1 sc1, .slice s2 2 sc2, .int .i64 m.last, .int .i64 m.laps, .slice p1 pn1 pc1, .slice p2 2 pc2, .int .i64 pp, .slice (some ⟨g1, 0, none⟩) pn1 k1, .slice (some ⟨g2, 0, none⟩) 2 k2, .int .i64 m.last, .int .i64 m.laps]
 lt : M < W.heap.size
 ge : U.heap.size ≤ M
 be : OnW U W
 ho : PosO W U.heap.size (some ⟨g1, 0, none⟩) (some ⟨g2, 0, none⟩) g1 g2 pn1 2 (tkX c l p pp m.last m.xs) (tkY c l p pp m.last m.xs m.ys)
 l1 : g1 < W.heap.size
 l2 : g2 < W.heap.size
 h1 : pn1 ≤ k1
 h2 : 2 ≤ k2
theorem range_below {u v : World} {b : Nat} {cs : List Value} (h : u.rangeAt b 0 cs) (hb : b < u.heap.size) (k : Below u.heap.size u v) : v.rangeAt b 0 cs := fun j x hj => (k.cell (p := ⟨b, 0 + j, none⟩) hb).trans (h j x hj)
theorem MkF.below {w U u v : World} {p s c l : Int} {st sk re fe ag : Bool} {pp : Int} {s1 s2 : Option Addr} {pn1 sc1 sc2 : Nat} {p1 p2 : Option Addr} {pc1 pc2 : Nat} {m : Res} {M g1 k1 g2 k2 : Nat} (h : MkF w U p s c l st sk re fe ag pp s1 s2 pn1 sc1 sc2 p1 p2 pc1 pc2 m M g1 k1 g2 k2 u) (k : Below u.heap.size u v) : MkF w U p s c l st sk re fe ag pp s1 s2 pn1 sc1 sc2 p1 p2 pc1 pc2 m M g1 k1 g2 k2 v :=
 ⟨range_below h.rg h.lt k, Nat.lt_of_lt_of_le h.lt k.size, h.ge, Below.trans h.be (k.mono h.be.size), h.ho.below k, Nat.lt_of_lt_of_le h.l1 k.size, Nat.lt_of_lt_of_le h.l2 k.size, h.h1, h.h2⟩
def MkL (p s c l : Int) (st sk re fe ag : Bool) (pp : Int) (pn1 : Nat) (p1 p2 : Option Addr) (pc1 pc2 : Nat) (m : Res) (b : Bool) (w : World) (e : Ending) (w' : World) : Prop :=
 if b = true then e = .returned (.tuple #[.agg zero21.toArray, .int .i64 9]) ∧ Below w.heap.size w w' else
 ∃ s1 s2 sc1 sc2 g1 k1 g2 k2, e = .returned (.tuple #[.agg #[.int .i64 p, .int .i64 s, .bool st, .bool sk, .bool re, .bool fe, .bool ag, .int .i64 c, .int .i64 l, .int .i64 pp, .slice s1 pn1 sc1, .slice s2 2 sc2, .int .i64 m.last, .int .i64 m.laps, .slice p1 pn1 pc1, .slice p2 2 pc2, .int .i64 pp, .slice (some ⟨g1, 0, none⟩) pn1 k1, .slice (some ⟨g2, 0, none⟩) 2 k2, .int .i64 m.last, .int .i64 m.laps], .int .i64 0]) ∧
  PosO w' w.heap.size (some ⟨g1, 0, none⟩) (some ⟨g2, 0, none⟩) g1 g2 pn1 2 (tkX c l p pp m.last m.xs) (tkY c l p pp m.last m.xs m.ys) ∧ g1 < w'.heap.size ∧ g2 < w'.heap.size ∧ pn1 ≤ k1 ∧ 2 ≤ k2 ∧ Below w.heap.size w w'
section
variable {p s c l : Int} {st sk re fe ag : Bool} {pp : Int} {pn1 : Nat} {p1 p2 : Option Addr} {pc1 pc2 : Nat} {m : Res} {w u : World}
theorem mkL_ill (h : Below w.heap.size w u) : MkL p s c l st sk re fe ag pp pn1 p1 p2 pc1 pc2 m true w (.returned (.tuple #[.agg zero21.toArray, .int .i64 9])) u := by
 unfold MkL
 rw [if_pos rfl]
 exact ⟨rfl, h⟩
theorem mkL_leg {s1 s2 : Option Addr} {sc1 sc2 g1 k1 g2 k2 : Nat} (ho : PosO u w.heap.size (some ⟨g1, 0, none⟩) (some ⟨g2, 0, none⟩) g1 g2 pn1 2 (tkX c l p pp m.last m.xs) (tkY c l p pp m.last m.xs m.ys)) (h1 : g1 < u.heap.size) (h2 : g2 < u.heap.size) (h3 : pn1 ≤ k1) (h4 : 2 ≤ k2) (h : Below w.heap.size w u) :
  MkL p s c l st sk re fe ag pp pn1 p1 p2 pc1 pc2 m false w (.returned (.tuple #[.agg #[.int .i64 p, .int .i64 s, .bool st, .bool sk, .bool re, .bool fe, .bool ag, .int .i64 c, .int .i64 l, .int .i64 pp, .slice s1 pn1 sc1, .slice s2 2 sc2, .int .i64 m.last, .int .i64 m.laps, .slice p1 pn1 pc1, .slice p2 2 pc2, .int .i64 pp, .slice (some ⟨g1, 0, none⟩) pn1 k1, .slice (some ⟨g2, 0, none⟩) 2 k2, .int .i64 m.last, .int .i64 m.laps], .int .i64 0])) u := by
 unfold MkL
 rw [if_neg Bool.false_ne_true]
 exact ⟨s1, s2, sc1, sc2, g1, k1, g2, k2, rfl, ho, h1, h2, h3, h4, h⟩
end
theorem makeL_some (p s c l : Int) (st sk re fe ag : Bool) (p1 p2 : Option Addr) (pn1 pc1 pc2 : Nat) (pp move : Int) (xs ys : List Int) (m : Res) (w : World) (h : PosR w p1 p2 pn1 2 xs ys) (hk : okP (okR p s c l st ag) p pn1 2 pp xs ys = true) (hcap : pn1 ≤ pc1) (fin : Fin ⟨p, pp, st, sk, re⟩ (tot xs + tot ys) ys m)
  (hC : ∀ u, Below w.heap.size w u → Calls Try.prog 73 #[.agg #[.int .i64 p, .int .i64 s, .bool st, .bool sk, .bool re, .bool fe, .bool ag, .int .i64 c, .int .i64 l], .agg #[.slice p1 pn1 pc1, .slice p2 2 pc2, .int .i64 pp], .int .i64 move] u (SoZ pn1 2 m.last m.laps 0 m.xs m.ys u)) :
  Calls Try.prog 62 #[.agg #[.int .i64 p, .int .i64 s, .bool st, .bool sk, .bool re, .bool fe, .bool ag, .int .i64 c, .int .i64 l], .agg #[.slice p1 pn1 pc1, .slice p2 2 pc2, .int .i64 pp], .int .i64 move] w (MkL p s c l st sk re fe ag pp pn1 p1 p2 pc1 pc2 m (illB c l p pp fe xs m) w) := by
 have HC := Lib.hid hC
 have H0 := Lib.hid h
 have Hk := Lib.hid hk
 have Hfin := Lib.hid fin
 have HS := Lib.hid ((rp_new p s c l st sk re fe ag p1 p2 pn1 pc1 2 pc2 pp w 31 32).below (al1 _ (.cells zero21.toArray 79)))
 have HZ := Lib.hid (show ThN 21 _ (w.heap.size + 1 + 1) from by have := thN_new ((w.alloc (.cells #[.int .i64 p, .int .i64 s, .bool st, .bool sk, .bool re, .bool fe, .bool ag, .int .i64 c, .int .i64 l] 31)).alloc (.cells #[.slice p1 pn1 pc1, .slice p2 2 pc2, .int .i64 pp] 32)) 79; simpa using this)
 clear hC h hk fin
 go_enter Try.func62, Try.ntmps62
 go_wp2_with fail
 change Calls _ _ _ (((w.alloc (.cells #[.int .i64 p, .int .i64 s, .bool st, .bool sk, .bool re, .bool fe, .bool ag, .int .i64 c, .int .i64 l] 31)).alloc (.cells #[.slice p1 pn1 pc1, .slice p2 2 pc2, .int .i64 pp] 32)).alloc (.cells zero21.toArray 79)) _
 refine (HC.out _ HS.out.2.2).mono ?_
 generalize ((w.alloc (.cells #[.int .i64 p, .int .i64 s, .bool st, .bool sk, .bool re, .bool fe, .bool ag, .int .i64 c, .int .i64 l] 31)).alloc (.cells #[.slice p1 pn1 pc1, .slice p2 2 pc2, .int .i64 pp] 32)).alloc (.cells zero21.toArray 79) = u at *
 rintro e u2 ⟨s1, sc1, e1, s2, sc2, e2, rfl, ho, hl1, hl2, hc1, hc2, hb⟩
 have HS := Lib.hid (HS.out.below hb)
 have HZ := Lib.hid (HZ.out.below hb)
 have HR := Lib.hid ho.r
 obtain ⟨⟨_, r0, r1, r2, r3, r4, r5, r6, r7, r8⟩, ⟨_, g0, g1, g2⟩, -⟩ := HS.out
 clear hb
 go_wp2_with fail
 have HG := Lib.hid (good_fin (t := 0) p s c l st sk re fe ag Hk.out Hfin.out)
 have hu2 : w.heap.size + 1 + 1 < u2.heap.size := HZ.out.lt
 have HK := Lib.hid (show CkAt w ((u2.alloc (.cells #[.slice s1 pn1 sc1, .slice s2 2 sc2, .int .i64 m.last, .int .i64 m.laps] 75)).alloc (.cells #[.int .i64 p, .int .i64 s, .bool st, .bool sk, .bool re, .bool fe, .bool ag, .int .i64 c, .int .i64 l, .int .i64 pp, .slice s1 pn1 sc1, .slice s2 2 sc2, .int .i64 m.last, .int .i64 m.laps] 77)) (u2.heap.size + 1) p s c l st sk re fe ag pp s1 s2 pn1 sc1 2 sc2 m.last m.laps p1 p2 pn1 pc1 2 pc2 pp _ from ⟨⟨by simp, by go_simp, by go_simp, by go_simp, by go_simp, by go_simp, by go_simp, by go_simp, by go_simp, by go_simp, by go_simp, by go_simp, by go_simp, by go_simp, by go_simp⟩, (HS.out.2.1.below (al1 _ _)).below (al1 _ _), Below.refl _ _⟩)
 have HZ := Lib.hid ((HZ.out.below (al1 _ (.cells #[.slice s1 pn1 sc1, .slice s2 2 sc2, .int .i64 m.last, .int .i64 m.laps] 75))).below (al1 _ (.cells #[.int .i64 p, .int .i64 s, .bool st, .bool sk, .bool re, .bool fe, .bool ag, .int .i64 c, .int .i64 l, .int .i64 pp, .slice s1 pn1 sc1, .slice s2 2 sc2, .int .i64 m.last, .int .i64 m.laps] 77)))
 have HS := Lib.hid ((HS.out.below (al1 _ (.cells #[.slice s1 pn1 sc1, .slice s2 2 sc2, .int .i64 m.last, .int .i64 m.laps] 75))).below (al1 _ (.cells #[.int .i64 p, .int .i64 s, .bool st, .bool sk, .bool re, .bool fe, .bool ag, .int .i64 c, .int .i64 l, .int .i64 pp, .slice s1 pn1 sc1, .slice s2 2 sc2, .int .i64 m.last, .int .i64 m.laps] 77)))
 have HR := Lib.hid ((HR.out.alloc (.cells #[.slice s1 pn1 sc1, .slice s2 2 sc2, .int .i64 m.last, .int .i64 m.laps] 75)).alloc (.cells #[.int .i64 p, .int .i64 s, .bool st, .bool sk, .bool re, .bool fe, .bool ag, .int .i64 c, .int .i64 l, .int .i64 pp, .slice s1 pn1 sc1, .slice s2 2 sc2, .int .i64 m.last, .int .i64 m.laps] 77))
 generalize hC : u2.heap.size + 1 = C at *
 clear ho hl1 hl2 r0 r1 r2 r3 r4 r5 r6 r7 r8 g0 g1 g2
 generalize (u2.alloc (.cells #[.slice s1 pn1 sc1, .slice s2 2 sc2, .int .i64 m.last, .int .i64 m.laps] 75)).alloc (.cells #[.int .i64 p, .int .i64 s, .bool st, .bool sk, .bool re, .bool fe, .bool ag, .int .i64 c, .int .i64 l, .int .i64 pp, .slice s1 pn1 sc1, .slice s2 2 sc2, .int .i64 m.last, .int .i64 m.laps] 77) = U at *
 have HTk : Hid (∀ u, OnW U u → Calls Try.prog 74 #[.agg #[.int .i64 p, .int .i64 s, .bool st, .bool sk, .bool re, .bool fe, .bool ag, .int .i64 c, .int .i64 l, .int .i64 pp, .slice s1 pn1 sc1, .slice s2 2 sc2, .int .i64 m.last, .int .i64 m.laps]] u (SoP pn1 2 m.last m.laps (tkX c l p pp m.last m.xs) (tkY c l p pp m.last m.xs m.ys) u)) := Lib.hid (fun u hu => capTake_any p s c l st sk re fe ag pp s1 s2 pn1 sc1 sc2 m.last m.laps m.xs m.ys u (HR.out.below hu) HG.out.1 hc1)
 have HT : Hid (∀ u : World, CkAt w U C p s c l st sk re fe ag pp s1 s2 pn1 sc1 2 sc2 m.last m.laps p1 p2 pn1 pc1 2 pc2 pp u → (C < u.heap.size ∧ u.cell? ⟨C, 0, none⟩ = some (.int .i64 p) ∧ u.cell? ⟨C, 1, none⟩ = some (.int .i64 s) ∧ u.cell? ⟨C, 2, none⟩ = some (.bool st) ∧ u.cell? ⟨C, 3, none⟩ = some (.bool sk) ∧ u.cell? ⟨C, 4, none⟩ = some (.bool re) ∧ u.cell? ⟨C, 5, none⟩ = some (.bool fe) ∧ u.cell? ⟨C, 6, none⟩ = some (.bool ag) ∧ u.cell? ⟨C, 7, none⟩ = some (.int .i64 c) ∧ u.cell? ⟨C, 8, none⟩ = some (.int .i64 l) ∧ u.cell? ⟨C, 9, none⟩ = some (.int .i64 pp) ∧ u.cell? ⟨C, 10, none⟩ = some (.slice s1 pn1 sc1) ∧ u.cell? ⟨C, 11, none⟩ = some (.slice s2 2 sc2) ∧ u.cell? ⟨C, 12, none⟩ = some (.int .i64 m.last) ∧ u.cell? ⟨C, 13, none⟩ = some (.int .i64 m.laps)) ∧ (w.heap.size + 1 < u.heap.size ∧ u.cell? ⟨w.heap.size + 1, 0, none⟩ = some (.slice p1 pn1 pc1) ∧ u.cell? ⟨w.heap.size + 1, 1, none⟩ = some (.slice p2 2 pc2) ∧ u.cell? ⟨w.heap.size + 1, 2, none⟩ = some (.int .i64 pp)) ∧ Below U.heap.size U u) := Lib.hid (fun u h => h)
 have hCU := HK.out.1.1
 have HRgC : Hid (∀ u, ((C < u.heap.size ∧ u.cell? ⟨C, 0, none⟩ = some (.int .i64 p) ∧ u.cell? ⟨C, 1, none⟩ = some (.int .i64 s) ∧ u.cell? ⟨C, 2, none⟩ = some (.bool st) ∧ u.cell? ⟨C, 3, none⟩ = some (.bool sk) ∧ u.cell? ⟨C, 4, none⟩ = some (.bool re) ∧ u.cell? ⟨C, 5, none⟩ = some (.bool fe) ∧ u.cell? ⟨C, 6, none⟩ = some (.bool ag) ∧ u.cell? ⟨C, 7, none⟩ = some (.int .i64 c) ∧ u.cell? ⟨C, 8, none⟩ = some (.int .i64 l) ∧ u.cell? ⟨C, 9, none⟩ = some (.int .i64 pp) ∧ u.cell? ⟨C, 10, none⟩ = some (.slice s1 pn1 sc1) ∧ u.cell? ⟨C, 11, none⟩ = some (.slice s2 2 sc2) ∧ u.cell? ⟨C, 12, none⟩ = some (.int .i64 m.last) ∧ u.cell? ⟨C, 13, none⟩ = some (.int .i64 m.laps)) ∧ (w.heap.size + 1 < u.heap.size ∧ u.cell? ⟨w.heap.size + 1, 0, none⟩ = some (.slice p1 pn1 pc1) ∧ u.cell? ⟨w.heap.size + 1, 1, none⟩ = some (.slice p2 2 pc2) ∧ u.cell? ⟨w.heap.size + 1, 2, none⟩ = some (.int .i64 pp)) ∧ Below U.heap.size U u) → u.rangeAt C 0 [.int .i64 p, .int .i64 s, .bool st, .bool sk, .bool re, .bool fe, .bool ag, .int .i64 c, .int .i64 l, .int .i64 pp, .slice s1 pn1 sc1, .slice s2 2 sc2, .int .i64 m.last, .int .i64 m.laps]) := Lib.hid (fun u h => range14 h.1)
 have HRgP : Hid (∀ u, ((C < u.heap.size ∧ u.cell? ⟨C, 0, none⟩ = some (.int .i64 p) ∧ u.cell? ⟨C, 1, none⟩ = some (.int .i64 s) ∧ u.cell? ⟨C, 2, none⟩ = some (.bool st) ∧ u.cell? ⟨C, 3, none⟩ = some (.bool sk) ∧ u.cell? ⟨C, 4, none⟩ = some (.bool re) ∧ u.cell? ⟨C, 5, none⟩ = some (.bool fe) ∧ u.cell? ⟨C, 6, none⟩ = some (.bool ag) ∧ u.cell? ⟨C, 7, none⟩ = some (.int .i64 c) ∧ u.cell? ⟨C, 8, none⟩ = some (.int .i64 l) ∧ u.cell? ⟨C, 9, none⟩ = some (.int .i64 pp) ∧ u.cell? ⟨C, 10, none⟩ = some (.slice s1 pn1 sc1) ∧ u.cell? ⟨C, 11, none⟩ = some (.slice s2 2 sc2) ∧ u.cell? ⟨C, 12, none⟩ = some (.int .i64 m.last) ∧ u.cell? ⟨C, 13, none⟩ = some (.int .i64 m.laps)) ∧ (w.heap.size + 1 < u.heap.size ∧ u.cell? ⟨w.heap.size + 1, 0, none⟩ = some (.slice p1 pn1 pc1) ∧ u.cell? ⟨w.heap.size + 1, 1, none⟩ = some (.slice p2 2 pc2) ∧ u.cell? ⟨w.heap.size + 1, 2, none⟩ = some (.int .i64 pp)) ∧ Below U.heap.size U u) → u.rangeAt (w.heap.size + 1) 0 [.slice p1 pn1 pc1, .slice p2 2 pc2, .int .i64 pp]) := Lib.hid (fun u h => range3 h.2.1)
 have hU1 : C < U.heap.size := HK.out.1.1
 have hU2 : w.heap.size + 1 < U.heap.size := HK.out.2.1.1
 go_cut [11] (fun s11 wx => ∃ M g1 k1 g2 k2 : Nat, s11 = .pointer (some ⟨M, 0, none⟩) ∧ MkF w U p s c l st sk re fe ag pp s1 s2 pn1 sc1 sc2 p1 p2 pc1 pc2 m M g1 k1 g2 k2 wx)
 case first =>
  refine wp_region_held_drew (S := fun u => (C < u.heap.size ∧ u.cell? ⟨C, 0, none⟩ = some (.int .i64 p) ∧ u.cell? ⟨C, 1, none⟩ = some (.int .i64 s) ∧ u.cell? ⟨C, 2, none⟩ = some (.bool st) ∧ u.cell? ⟨C, 3, none⟩ = some (.bool sk) ∧ u.cell? ⟨C, 4, none⟩ = some (.bool re) ∧ u.cell? ⟨C, 5, none⟩ = some (.bool fe) ∧ u.cell? ⟨C, 6, none⟩ = some (.bool ag) ∧ u.cell? ⟨C, 7, none⟩ = some (.int .i64 c) ∧ u.cell? ⟨C, 8, none⟩ = some (.int .i64 l) ∧ u.cell? ⟨C, 9, none⟩ = some (.int .i64 pp) ∧ u.cell? ⟨C, 10, none⟩ = some (.slice s1 pn1 sc1) ∧ u.cell? ⟨C, 11, none⟩ = some (.slice s2 2 sc2) ∧ u.cell? ⟨C, 12, none⟩ = some (.int .i64 m.last) ∧ u.cell? ⟨C, 13, none⟩ = some (.int .i64 m.laps)) ∧ (w.heap.size + 1 < u.heap.size ∧ u.cell? ⟨w.heap.size + 1, 0, none⟩ = some (.slice p1 pn1 pc1) ∧ u.cell? ⟨w.heap.size + 1, 1, none⟩ = some (.slice p2 2 pc2) ∧ u.cell? ⟨w.heap.size + 1, 2, none⟩ = some (.int .i64 pp)) ∧ Below U.heap.size U u) (by kernel_rfl) (HT.out _ HK.out.drew) (fun hHeld => ?_)
  refine wpAnyH_take (i := 0) rfl (by kernel_rfl) (by kernel_rfl) (by kernel_rfl) (fun _ _ _ h => h) (yieldsIf_load_mid (by rfl) 77 _ rfl C 0 rfl [.int .i64 p, .int .i64 s, .bool st, .bool sk, .bool re, .bool fe, .bool ag, .int .i64 c, .int .i64 l, .int .i64 pp, .slice s1 pn1 sc1, .slice s2 2 sc2, .int .i64 m.last, .int .i64 m.laps] _ HRgC.out Try.underlying77 rfl (by kernel_rfl)) hHeld ?_
  simp only [Act.put, List.setIfInBounds_toArray]
  refine wpAnyH_take (i := 1) rfl (by kernel_rfl) (by kernel_rfl) (by kernel_rfl) (fun _ _ _ h => h) (yieldsIf_load_mid (by rfl) 32 _ rfl (w.heap.size + 1) 0 rfl [.slice p1 pn1 pc1, .slice p2 2 pc2, .int .i64 pp] _ HRgP.out Try.underlying32 rfl (by kernel_rfl)) hHeld ?_
  simp only [Act.put]
  refine wpAnyH_take (i := 2) rfl (by kernel_rfl) (by kernel_rfl) (by kernel_rfl) (fun _ _ _ h => h) (yieldsIf_load_mid (by rfl) 77 _ rfl C 0 rfl [.int .i64 p, .int .i64 s, .bool st, .bool sk, .bool re, .bool fe, .bool ag, .int .i64 c, .int .i64 l, .int .i64 pp, .slice s1 pn1 sc1, .slice s2 2 sc2, .int .i64 m.last, .int .i64 m.laps] _ HRgC.out Try.underlying77 rfl (by kernel_rfl)) hHeld ?_
  simp only [Act.put]
  refine wpAnyH_ready (rs := [3, 5]) (by kernel_rfl) (by simp) ?_
  refine AllReadyH.cons rfl (fun K hK => ?_) (AllReadyH.cons rfl (fun K hK => ?_) AllReadyH.nil)
  ·rw [if_pos (by rfl)]
   go_simp
   go_at_call 74
   refine (HTk.out _ HK.out.drew.be).mono ?_
   rintro e w5 ⟨g1, k1, g2, k2, rfl, hto, htl1, htl2, htc1, htc2, hb5⟩
   have HK5 := Lib.hid (show CkAt w U C p s c l st sk re fe ag pp s1 s2 pn1 sc1 2 sc2 m.last m.laps p1 p2 pn1 pc1 2 pc2 pp w5 from HK.out.drew.below hb5)
   have HO := Lib.hid (show PosO w5 U.heap.size (some ⟨g1, 0, none⟩) (some ⟨g2, 0, none⟩) g1 g2 pn1 2 (tkX c l p pp m.last m.xs) (tkY c l p pp m.last m.xs m.ys) from hto)
   have hUw : U.heap.size ≤ w5.heap.size := HK5.out.be.size
   clear hb5 hto
   dsimp only
   refine hK.out _ _ (HT.out _ HK5.out) (fun hHeld => ?_)
   clear hK K
   refine wpAnyH_take (i := 4) (oi := { dst := some 32, op := Op.build 79 #[(0, Operand.tmp 28), (1, Operand.tmp 29), (2, Operand.tmp 31)], type := 79, pos := "l07_moves.go:31", after := #[{ on := 0, ground := Ground.data }, { on := 1, ground := Ground.data }, { on := 3, ground := Ground.data }], guard := none }) (v := .agg #[.int .i64 p, .int .i64 s, .bool st, .bool sk, .bool re, .bool fe, .bool ag, .int .i64 c, .int .i64 l, .int .i64 pp, .slice s1 pn1 sc1, .slice s2 2 sc2, .int .i64 m.last, .int .i64 m.laps, .slice p1 pn1 pc1, .slice p2 2 pc2, .int .i64 pp, .slice (some ⟨g1, 0, none⟩) pn1 k1, .slice (some ⟨g2, 0, none⟩) 2 k2, .int .i64 m.last, .int .i64 m.laps]) rfl (by kernel_rfl) (by kernel_rfl) (by kernel_rfl) (fun _ _ _ h => h) (.inl ⟨by rfl, fun u hu => by go_simp⟩) hHeld ?_
   simp only [Act.put, List.setIfInBounds_toArray, List.set_cons_zero, List.set_cons_succ]
   refine wpAnyH_ready (rs := [5]) (by kernel_rfl) (by simp) ?_
   refine AllReadyH.cons rfl (fun K hK => ?_) AllReadyH.nil
   rw [if_pos (by rfl)]
   go_simp
   have HTh := Lib.hid (thN_new w5 79)
   have HK6 := Lib.hid (show CkAt w U C p s c l st sk re fe ag pp s1 s2 pn1 sc1 2 sc2 m.last m.laps p1 p2 pn1 pc1 2 pc2 pp _ from HK5.out.below (al1 w5 (.cells zero21.toArray 79)))
   have HO6 := Lib.hid (PosO.below HO.out (al1 w5 (.cells zero21.toArray 79)))
   change K _ (w5.alloc (.cells zero21.toArray 79))
   refine hK.out _ _ (HT.out _ HK6.out) (fun hHeld => ?_)
   clear hK K
   (try simp only [Act.put, List.setIfInBounds_toArray, List.set_cons_zero, List.set_cons_succ])
   refine wpAnyH_ready (rs := [6]) (by kernel_rfl) (by simp) ?_
   refine AllReadyH.cons rfl (fun K hK => ?_) AllReadyH.nil
   rw [if_pos (by rfl)]
   refine wp_store_mid 79 _ _ rfl w5.heap.size 0 (List.toArray [.int .i64 p, .int .i64 s, .bool st, .bool sk, .bool re, .bool fe, .bool ag, .int .i64 c, .int .i64 l, .int .i64 pp, .slice s1 pn1 sc1, .slice s2 2 sc2, .int .i64 m.last, .int .i64 m.laps, .slice p1 pn1 pc1, .slice p2 2 pc2, .int .i64 pp, .slice (some ⟨g1, 0, none⟩) pn1 k1, .slice (some ⟨g2, 0, none⟩) 2 k2, .int .i64 m.last, .int .i64 m.laps]) rfl rfl HTh.out.th (by kernel_rfl) (mm_one p s c l st sk re fe ag pp s1 s2 pn1 sc1 2 sc2 m.last m.laps p1 p2 pn1 pc1 2 pc2 pp (some ⟨g1, 0, none⟩) (some ⟨g2, 0, none⟩) pn1 k1 2 k2 m.last m.laps) ?_
   simp only [Act.put, List.setIfInBounds_toArray]
   refine hK.out _ _ (HT.out _ (HK6.out.sc (by omega) (by omega) (by omega) _ _)) (fun hHeld => ?_)
   clear hK K
   (try simp only [Act.put, List.setIfInBounds_toArray, List.set_cons_zero, List.set_cons_succ])
   refine wpAnyH_done (by kernel_rfl) ?_ _
   go_wp2_with fail
   go_meet
   exact ⟨w5.heap.size, g1, k1, g2, k2, rfl, ⟨World.rangeAt_setCells_same _ _ 0 _ HTh.out.th, by rw [size_sc]; exact HTh.out.lt, by omega, (HK6.out.sc (by omega) (by omega) (by omega) _ _).be, PosO.but HO6.out (but_sc _ _ _ _) (by omega) (by omega), by rw [size_sc]; simp; omega, by rw [size_sc]; simp; omega, htc1, htc2⟩⟩
  ·rw [if_pos (by rfl)]
   go_simp
   have HK6 := Lib.hid (show CkAt w U C p s c l st sk re fe ag pp s1 s2 pn1 sc1 2 sc2 m.last m.laps p1 p2 pn1 pc1 2 pc2 pp _ from (HK.out.below (al1 U (.cells zero21.toArray 79))).drew)
   change K _ (U.alloc (.cells zero21.toArray 79)).drew
   refine hK.out _ _ (HT.out _ HK6.out) (fun hHeld => ?_)
   clear hK K
   (try simp only [Act.put, List.setIfInBounds_toArray, List.set_cons_zero, List.set_cons_succ])
   refine wpAnyH_ready (rs := [3]) (by kernel_rfl) (by simp) ?_
   refine AllReadyH.cons rfl (fun K hK => ?_) AllReadyH.nil
   rw [if_pos (by rfl)]
   go_simp
   go_at_call 74
   refine (HTk.out _ HK6.out.be).mono ?_
   rintro e w5 ⟨g1, k1, g2, k2, rfl, hto, htl1, htl2, htc1, htc2, hb5⟩
   have HK7 := Lib.hid (show CkAt w U C p s c l st sk re fe ag pp s1 s2 pn1 sc1 2 sc2 m.last m.laps p1 p2 pn1 pc1 2 pc2 pp w5 from HK6.out.below hb5)
   have HO := Lib.hid (show PosO w5 (U.heap.size + 1) (some ⟨g1, 0, none⟩) (some ⟨g2, 0, none⟩) g1 g2 pn1 2 (tkX c l p pp m.last m.xs) (tkY c l p pp m.last m.xs m.ys) from by have h := hto; simpa using h)
   have HTh := Lib.hid (show ThN 21 w5 U.heap.size from ThN.below (ThN.below (thN_new U 79) (Below.refl _ _).drew) hb5)
   have hUw : U.heap.size ≤ w5.heap.size := HK7.out.be.size
   have ng1 := HO.out.o1.new
   have ng2 := HO.out.o2.new
   clear hb5 hto
   dsimp only
   refine hK.out _ _ (HT.out _ HK7.out) (fun hHeld => ?_)
   clear hK K
   (try simp only [Act.put, List.setIfInBounds_toArray, List.set_cons_zero, List.set_cons_succ])
   refine wpAnyH_take (i := 4) (oi := { dst := some 32, op := Op.build 79 #[(0, Operand.tmp 28), (1, Operand.tmp 29), (2, Operand.tmp 31)], type := 79, pos := "l07_moves.go:31", after := #[{ on := 0, ground := Ground.data }, { on := 1, ground := Ground.data }, { on := 3, ground := Ground.data }], guard := none }) (v := .agg #[.int .i64 p, .int .i64 s, .bool st, .bool sk, .bool re, .bool fe, .bool ag, .int .i64 c, .int .i64 l, .int .i64 pp, .slice s1 pn1 sc1, .slice s2 2 sc2, .int .i64 m.last, .int .i64 m.laps, .slice p1 pn1 pc1, .slice p2 2 pc2, .int .i64 pp, .slice (some ⟨g1, 0, none⟩) pn1 k1, .slice (some ⟨g2, 0, none⟩) 2 k2, .int .i64 m.last, .int .i64 m.laps]) rfl (by kernel_rfl) (by kernel_rfl) (by kernel_rfl) (fun _ _ _ h => h) (.inl ⟨by rfl, fun u hu => by go_simp⟩) hHeld ?_
   simp only [Act.put, List.setIfInBounds_toArray, List.set_cons_zero, List.set_cons_succ]
   refine wpAnyH_ready (rs := [6]) (by kernel_rfl) (by simp) ?_
   refine AllReadyH.cons rfl (fun K hK => ?_) AllReadyH.nil
   rw [if_pos (by rfl)]
   refine wp_store_mid 79 _ _ rfl U.heap.size 0 (List.toArray [.int .i64 p, .int .i64 s, .bool st, .bool sk, .bool re, .bool fe, .bool ag, .int .i64 c, .int .i64 l, .int .i64 pp, .slice s1 pn1 sc1, .slice s2 2 sc2, .int .i64 m.last, .int .i64 m.laps, .slice p1 pn1 pc1, .slice p2 2 pc2, .int .i64 pp, .slice (some ⟨g1, 0, none⟩) pn1 k1, .slice (some ⟨g2, 0, none⟩) 2 k2, .int .i64 m.last, .int .i64 m.laps]) rfl rfl HTh.out.th (by kernel_rfl) (mm_one p s c l st sk re fe ag pp s1 s2 pn1 sc1 2 sc2 m.last m.laps p1 p2 pn1 pc1 2 pc2 pp (some ⟨g1, 0, none⟩) (some ⟨g2, 0, none⟩) pn1 k1 2 k2 m.last m.laps) ?_
   simp only [Act.put, List.setIfInBounds_toArray]
   refine hK.out _ _ (HT.out _ (HK7.out.sc (by omega) (by omega) (by omega) _ _)) (fun hHeld => ?_)
   clear hK K
   (try simp only [Act.put, List.setIfInBounds_toArray, List.set_cons_zero, List.set_cons_succ])
   refine wpAnyH_done (by kernel_rfl) ?_ _
   go_wp2_with fail
   go_meet
   exact ⟨U.heap.size, g1, k1, g2, k2, rfl, ⟨World.rangeAt_setCells_same _ _ 0 _ HTh.out.th, by rw [size_sc]; exact HTh.out.lt, by omega, (HK7.out.sc (by omega) (by omega) (by omega) _ _).be, PosO.but (HO.out.lower (Nat.le_succ _)) (but_sc _ _ _ _) (by omega) (by omega), by rw [size_sc]; exact htl1, by rw [size_sc]; exact htl2, htc1, htc2⟩⟩
 case rest =>
  obtain ⟨M, g1, k1, g2, k2, rfl, hM⟩ := hcut
  have HM := Lib.hid hM
  have HZc := Lib.hid (show ThN 21 wc (w.heap.size + 1 + 1) from ThN.below HZ.out hM.be)
  have HSc := Lib.hid (show OnW w wc from Below.trans HS.out.2.2 (Below.mono hM.be HS.out.2.2.size))
  have hρU : w.heap.size + 1 + 1 < U.heap.size := by omega
  clear hM HT HTk HK hU1 hU2
  go_wp2_with (refine wpList_load_mid rfl 79 _ rfl M 0 rfl _ _ HM.out.rg Try.underlying79 rfl (by kernel_rfl) ?_)
  refine (fbS_any p s c l st sk re fe ag pp s1 s2 pn1 sc1 2 sc2 m.last m.laps p1 p2 pn1 pc1 2 pc2 pp (some ⟨g1, 0, none⟩) (some ⟨g2, 0, none⟩) pn1 k1 2 k2 m.last m.laps m.xs m.ys wc (HR.out.below HM.out.be) HG.out.1 hc1).mono ?_
  rintro e w6 ⟨rfl, hb6⟩
  have HM := Lib.hid (HM.out.below hb6)
  have HZ6 := Lib.hid (show ThN 21 w6 (w.heap.size + 1 + 1) from ThN.below HZc.out hb6)
  have HS6 := Lib.hid (show OnW w w6 from Below.trans HSc.out (Below.mono hb6 HSc.out.size))
  have HIll : Hid (illB c l p pp fe xs m = ((decide (l = 1) && slamF c p pp m.last m.xs) || fbF c l p pp fe xs m)) := Lib.hid rfl
  clear hb6 HZc HSc
  rcases hS : (decide (l = 1) && slamF c p pp m.last m.xs) with _ | _
  ·rw [hS, Bool.false_or] at HIll
   clear hS
   go_wp2_with (first | (refine wpList_load_mid rfl 79 _ rfl M 0 rfl _ _ HM.out.rg Try.underlying79 rfl (by kernel_rfl) ?_) | (refine wpList_load_want (by rfl) 79 _ rfl M 0 rfl _ _ HM.out.rg Try.underlying79 rfl (by kernel_rfl) ?_) | (refine wpList_store_mid rfl 79 _ _ rfl (w.heap.size + 1 + 1) 0 zero21.toArray rfl rfl HZ6.out.th (by kernel_rfl) zero21_one ?_))
   have hsum := HG.out.1.sum HG.out.2.1
   have ht1 := HG.out.1.t1
   refine (fbF_any p s c l st sk re fe ag pp s1 s2 pn1 sc1 2 sc2 m.last m.laps p1 p2 pn1 pc1 2 pc2 pp (some ⟨g1, 0, none⟩) (some ⟨g2, 0, none⟩) pn1 k1 2 k2 m.last m.laps xs ys (tkX c l p pp m.last m.xs) w6 (H0.out.below HS6.out) Hk.out hcap HM.out.ho.o1.row (tkX_len.trans HG.out.2.1) HG.out.1.n1 (HG.out.1.tk HG.out.2.1 HG.out.2.2).1 (by omega) HM.out.h1 rfl).mono ?_
   rintro e w7 ⟨rfl, hb7⟩
   have HM := Lib.hid (HM.out.below hb7)
   have HZ7 := Lib.hid (show ThN 21 w7 (w.heap.size + 1 + 1) from ThN.below HZ6.out hb7)
   have HS7 := Lib.hid (show OnW w w7 from Below.trans HS6.out (Below.mono hb7 HS6.out.size))
   have HIl2 : Hid (illB c l p pp fe xs m = ((fe && noneO p pp xs) && noneO p pp (tkX c l p pp m.last m.xs))) := Lib.hid HIll.out
   clear hb7 HZ6 HS6 hsum ht1 HIll
   rcases hF : ((fe && noneO p pp xs) && noneO p pp (tkX c l p pp m.last m.xs)) with _ | _
   ·have HIll := Lib.hid (HIl2.out.trans hF)
    clear hF HIl2
    go_wp2_with (first | (refine wpList_load_mid rfl 79 _ rfl M 0 rfl _ _ HM.out.rg Try.underlying79 rfl (by kernel_rfl) ?_) | (refine wpList_load_want (by rfl) 79 _ rfl M 0 rfl _ _ HM.out.rg Try.underlying79 rfl (by kernel_rfl) ?_) | (refine wpList_store_mid rfl 79 _ _ rfl (w.heap.size + 1 + 1) 0 zero21.toArray rfl rfl HZ7.out.th (by kernel_rfl) zero21_one ?_) | (refine wpList_store_mid rfl 79 _ _ rfl (w.heap.size + 1 + 1) 0 (List.toArray [.int .i64 p, .int .i64 s, .bool st, .bool sk, .bool re, .bool fe, .bool ag, .int .i64 c, .int .i64 l, .int .i64 pp, .slice s1 pn1 sc1, .slice s2 2 sc2, .int .i64 m.last, .int .i64 m.laps, .slice p1 pn1 pc1, .slice p2 2 pc2, .int .i64 pp, .slice (some ⟨g1, 0, none⟩) pn1 k1, .slice (some ⟨g2, 0, none⟩) 2 k2, .int .i64 m.last, .int .i64 m.laps]) rfl rfl HZ7.out.th (by kernel_rfl) (mm_one p s c l st sk re fe ag pp s1 s2 pn1 sc1 2 sc2 m.last m.laps p1 p2 pn1 pc1 2 pc2 pp (some ⟨g1, 0, none⟩) (some ⟨g2, 0, none⟩) pn1 k1 2 k2 m.last m.laps) ?_))
    have hrun := run_loadVar_mid (P := Try.prog) _ (w.heap.size + 1 + 1) 0 79 [.int .i64 p, .int .i64 s, .bool st, .bool sk, .bool re, .bool fe, .bool ag, .int .i64 c, .int .i64 l, .int .i64 pp, .slice s1 pn1 sc1, .slice s2 2 sc2, .int .i64 m.last, .int .i64 m.laps, .slice p1 pn1 pc1, .slice p2 2 pc2, .int .i64 pp, .slice (some ⟨g1, 0, none⟩) pn1 k1, .slice (some ⟨g2, 0, none⟩) 2 k2, .int .i64 m.last, .int .i64 m.laps] _ (World.rangeAt_setCells_same w7 (w.heap.size + 1 + 1) 0 [.int .i64 p, .int .i64 s, .bool st, .bool sk, .bool re, .bool fe, .bool ag, .int .i64 c, .int .i64 l, .int .i64 pp, .slice s1 pn1 sc1, .slice s2 2 sc2, .int .i64 m.last, .int .i64 m.laps, .slice p1 pn1 pc1, .slice p2 2 pc2, .int .i64 pp, .slice (some ⟨g1, 0, none⟩) pn1 k1, .slice (some ⟨g2, 0, none⟩) 2 k2, .int .i64 m.last, .int .i64 m.laps] HZ7.out.th) Try.underlying79 rfl (by kernel_rfl)
    refine bodyPost_ret (v := .tuple #[.agg #[.int .i64 p, .int .i64 s, .bool st, .bool sk, .bool re, .bool fe, .bool ag, .int .i64 c, .int .i64 l, .int .i64 pp, .slice s1 pn1 sc1, .slice s2 2 sc2, .int .i64 m.last, .int .i64 m.laps, .slice p1 pn1 pc1, .slice p2 2 pc2, .int .i64 pp, .slice (some ⟨g1, 0, none⟩) pn1 k1, .slice (some ⟨g2, 0, none⟩) 2 k2, .int .i64 m.last, .int .i64 m.laps], .int .i64 0]) (by simp [results, Try.results62, Result.andThen_ok, asAddr, hrun]) rfl ?_
    rw [HIll.out]
    have n1 := HM.out.ho.o1.new
    have n2 := HM.out.ho.o2.new
    have hUw := HM.out.be.size
    exact mkL_leg ((PosO.but HM.out.ho (but_sc _ _ _ _) (by omega) (by omega)).lower (by omega)) (by rw [size_sc]; exact HM.out.l1) (by rw [size_sc]; exact HM.out.l2) HM.out.h1 HM.out.h2 (below_sc (w.heap.size + 1 + 1) (by omega) _ 0 HS7.out)
   ·have HIll := Lib.hid (HIl2.out.trans hF)
    clear hF HIl2
    go_wp2_with (first | (refine wpList_load_mid rfl 79 _ rfl M 0 rfl _ _ HM.out.rg Try.underlying79 rfl (by kernel_rfl) ?_) | (refine wpList_load_want (by rfl) 79 _ rfl M 0 rfl _ _ HM.out.rg Try.underlying79 rfl (by kernel_rfl) ?_) | (refine wpList_store_mid rfl 79 _ _ rfl (w.heap.size + 1 + 1) 0 zero21.toArray rfl rfl HZ7.out.th (by kernel_rfl) zero21_one ?_))
    have hrun := run_loadVar_mid (P := Try.prog) _ (w.heap.size + 1 + 1) 0 79 zero21 _ (World.rangeAt_setCells_same w7 (w.heap.size + 1 + 1) 0 zero21 HZ7.out.th) Try.underlying79 rfl (by kernel_rfl)
    refine bodyPost_ret (v := .tuple #[.agg zero21.toArray, .int .i64 9]) (by simp [results, Try.results62, Result.andThen_ok, asAddr, hrun]) rfl ?_
    rw [HIll.out]
    exact mkL_ill (below_sc (w.heap.size + 1 + 1) (by omega) zero21 0 HS7.out)
  ·rw [hS, Bool.true_or] at HIll
   clear hS
   go_wp2_with (first | (refine wpList_load_mid rfl 79 _ rfl M 0 rfl _ _ HM.out.rg Try.underlying79 rfl (by kernel_rfl) ?_) | (refine wpList_load_want (by rfl) 79 _ rfl M 0 rfl _ _ HM.out.rg Try.underlying79 rfl (by kernel_rfl) ?_) | (refine wpList_store_mid rfl 79 _ _ rfl (w.heap.size + 1 + 1) 0 zero21.toArray rfl rfl HZ6.out.th (by kernel_rfl) zero21_one ?_))
   have hrun := run_loadVar_mid (P := Try.prog) _ (w.heap.size + 1 + 1) 0 79 zero21 _ (World.rangeAt_setCells_same w6 (w.heap.size + 1 + 1) 0 zero21 HZ6.out.th) Try.underlying79 rfl (by kernel_rfl)
   refine bodyPost_ret (v := .tuple #[.agg zero21.toArray, .int .i64 9]) (by simp [results, Try.results62, Result.andThen_ok, asAddr, hrun]) rfl ?_
   rw [HIll.out]
   exact mkL_ill (below_sc (w.heap.size + 1 + 1) (by omega) zero21 0 HS6.out)
/- Mk11 -/
def MkQ (p s c l : Int) (st sk re fe ag : Bool) (pp : Int) (pn1 : Nat) (p1 p2 : Option Addr) (pc1 pc2 : Nat) (LV : Option Res) (cd : Int) (w : World) (e : Ending) (w' : World) : Prop :=
 match LV with
 | none => e = .returned (.tuple #[.agg zero21.toArray, .int .i64 cd]) ∧ Below w.heap.size w w'
 | some m => ∃ s1 s2 sc1 sc2 g1 k1 g2 k2, e = .returned (.tuple #[.agg #[.int .i64 p, .int .i64 s, .bool st, .bool sk, .bool re, .bool fe, .bool ag, .int .i64 c, .int .i64 l, .int .i64 pp, .slice s1 pn1 sc1, .slice s2 2 sc2, .int .i64 m.last, .int .i64 m.laps, .slice p1 pn1 pc1, .slice p2 2 pc2, .int .i64 pp, .slice (some ⟨g1, 0, none⟩) pn1 k1, .slice (some ⟨g2, 0, none⟩) 2 k2, .int .i64 m.last, .int .i64 m.laps], .int .i64 cd]) ∧
  PosO w' w.heap.size (some ⟨g1, 0, none⟩) (some ⟨g2, 0, none⟩) g1 g2 pn1 2 (tkX c l p pp m.last m.xs) (tkY c l p pp m.last m.xs m.ys) ∧ g1 < w'.heap.size ∧ g2 < w'.heap.size ∧ pn1 ≤ k1 ∧ 2 ≤ k2 ∧ Below w.heap.size w w'
def MkD (cd : Int) (w : World) (e : Ending) (w' : World) : Prop :=
 ∃ (p s c l : Int) (st sk re fe ag : Bool) (player : Int) (s1 s2 : Option Addr) (sn1 sc1 sn2 sc2 : Nat) (sp sq : Int) (p1 p2 : Option Addr) (pn1 pc1 pn2 pc2 : Nat) (pp : Int) (t1 t2 : Option Addr) (tn1 tc1 tn2 tc2 : Nat) (tp tq : Int), e = .returned (.tuple #[.agg #[.int .i64 p, .int .i64 s, .bool st, .bool sk, .bool re, .bool fe, .bool ag, .int .i64 c, .int .i64 l, .int .i64 player, .slice s1 sn1 sc1, .slice s2 sn2 sc2, .int .i64 sp, .int .i64 sq, .slice p1 pn1 pc1, .slice p2 pn2 pc2, .int .i64 pp, .slice t1 tn1 tc1, .slice t2 tn2 tc2, .int .i64 tp, .int .i64 tq], .int .i64 cd]) ∧ Below w.heap.size w w'
theorem MkQ.d (p s c l : Int) (st sk re fe ag : Bool) {pp : Int} {pn1 : Nat} {p1 p2 : Option Addr} {pc1 pc2 : Nat} {LV : Option Res} {cd : Int} {w : World} {e : Ending} {w' : World} (h : MkQ p s c l st sk re fe ag pp pn1 p1 p2 pc1 pc2 LV cd w e w') : MkD cd w e w' := by
 cases LV with
 | none => exact ⟨_, _, _, _, _, _, _, _, _, _, _, _, _, _, _, _, _, _, _, _, _, _, _, _, _, _, _, _, _, _, _, _, _, h.1, h.2⟩
 | some m =>
  obtain ⟨s1, s2, sc1, sc2, g1, k1, g2, k2, he, -, -, -, -, -, hb⟩ := h
  exact ⟨_, _, _, _, _, _, _, _, _, _, _, _, _, _, _, _, _, _, _, _, _, _, _, _, _, _, _, _, _, _, _, _, _, he, hb⟩
theorem makeL_any (p s c l : Int) (st sk re fe ag : Bool) (p1 p2 : Option Addr) (pn1 pc1 pn2 pc2 : Nat) (pp : Int) (xs ys : List Int) (move : Int) (w : World) (h : PosR w p1 p2 pn1 pn2 xs ys) (hcap : pn1 ≤ pc1) (k : Bool) (hk : okP (okR p s c l st ag) p pn1 pn2 pp xs ys = k) :
  Calls Try.prog 62 #[.agg #[.int .i64 p, .int .i64 s, .bool st, .bool sk, .bool re, .bool fe, .bool ag, .int .i64 c, .int .i64 l], .agg #[.slice p1 pn1 pc1, .slice p2 pn2 pc2, .int .i64 pp], .int .i64 move] w (MkQ p s c l st sk re fe ag pp pn1 p1 p2 pc1 pc2 (lgV c l p pp fe xs (mvV k p pp st sk re xs ys move)) (lgC c l p pp fe xs (mvCd k p pp st sk re xs ys move) (mvV k p pp st sk re xs ys move)) w) := by
 have hC := fun u (hu : Below w.heap.size w u) => implMove_any p s c l st sk re fe ag p1 p2 pn1 pc1 pn2 pc2 pp xs ys move u (h.below hu) k hk
 cases hm : mvV k p pp st sk re xs ys move with
 | none =>
  rw [hm] at hC
  have h0 : (mvCd k p pp st sk re xs ys move == 0) = false := by
   rcases mvV_none hk h.l1 hm with e | e | e | e <;> rw [e] <;> rfl
  exact makeL_err p s c l st sk re fe ag p1 p2 pn1 pc1 pn2 pc2 pp move _ h0 w hC
 | some m =>
  obtain ⟨rfl, m0, m1, hc0, fin⟩ := mvV_fin hk h.l1 h.l2 hm
  obtain ⟨rfl, hpl⟩ := pl_of_ok hk
  rw [hm, hc0] at hC
  have hX := makeL_some p s c l st sk re fe ag p1 p2 pn1 pc1 pc2 pp move xs ys m w h hk hcap fin hC
  rw [hc0]
  have e1 : lgV c l p pp fe xs (some m) = if illB c l p pp fe xs m then none else some m := rfl
  have e2 : lgC c l p pp fe xs 0 (some m) = if illB c l p pp fe xs m then 9 else 0 := rfl
  rw [e1, e2]
  generalize illB c l p pp fe xs m = b at *
  cases b
  ·exact hX.mono (fun e w' q => by unfold MkL at q; rw [if_neg (by decide)] at q; exact q)
  ·exact hX.mono (fun e w' q => by unfold MkL at q; rw [if_pos rfl] at q; exact q)
/- Res7 -/
structure R7 where
 mv : Int
 gn : Int
 ag : Bool
 nx : Int
 xs : List Int
 ys : List Int
structure Q7 where
 g1 : Nat
 g2 : Nat
 n1 : Nat
 k1 : Nat
 k2 : Nat
def cells7 (x : R7 × Q7) : List Value := [.int .i64 x.1.mv, .int .i64 x.1.gn, .bool x.1.ag, .slice (some ⟨x.2.g1, 0, none⟩) x.2.n1 x.2.k1, .slice (some ⟨x.2.g2, 0, none⟩) 2 x.2.k2, .int .i64 x.1.nx]
def flat7 (L : List (R7 × Q7)) : List Value := L.flatMap cells7
theorem flat7_snoc (L : List (R7 × Q7)) (x : R7 × Q7) : flat7 (L ++ [x]) = flat7 L ++ cells7 x := by simp [flat7]
theorem flat7_at : ∀ (L : List (R7 × Q7)) (i : Nat) (x : R7 × Q7), L[i]? = some x → ∀ o, o < 6 → (flat7 L)[i * 6 + o]? = (cells7 x)[o]?
 | [], _, _, h, _, _ => by cases h
 | y :: r, 0, x, h, o, ho => by
  cases h
  have e : flat7 (y :: r) = cells7 y ++ flat7 r := by simp [flat7]
  rw [e, Nat.zero_mul, Nat.zero_add, List.getElem?_append_left (by show o < 6; exact ho)]
 | y :: r, i + 1, x, h, o, ho => by
  have e : flat7 (y :: r) = cells7 y ++ flat7 r := by simp [flat7]
  rw [e, List.getElem?_append_right (by show 6 ≤ _; omega)]
  have := flat7_at r i x (by simpa using h) o ho
  rw [← this]
  congr 1
  show (i + 1) * 6 + o - 6 = _
  omega
structure It7 (u : World) (B : Nat) (x : R7 × Q7) : Prop where
 o : PosO u B (some ⟨x.2.g1, 0, none⟩) (some ⟨x.2.g2, 0, none⟩) x.2.g1 x.2.g2 x.2.n1 2 x.1.xs x.1.ys
 l1 : x.2.g1 < u.heap.size
 l2 : x.2.g2 < u.heap.size
 k1 : x.2.n1 ≤ x.2.k1
 k2 : 2 ≤ x.2.k2
def Far7 (x y : R7 × Q7) : Prop := x.2.g1 ≠ y.2.g1 ∧ x.2.g1 ≠ y.2.g2 ∧ x.2.g2 ≠ y.2.g1 ∧ x.2.g2 ≠ y.2.g2
structure Rs7 (u : World) (B : Nat) (v : Value) (L : List (R7 × Q7)) : Prop where
 own : u.ownsRow B 94 6 v L.length (flat7 L)
 it : ∀ x ∈ L, It7 u B x
 ne : ∀ x ∈ L, ∀ k, v.ownBlock = some k → k ≠ x.2.g1 ∧ k ≠ x.2.g2
 pw : L.Pairwise Far7
theorem own_keepS {w w' : World} {B e s n : Nat} {v : Value} {xs : List Value} (h : w.ownsRow B e s v n xs) (k : Below w.heap.size w w') : w'.ownsRow B e s v n xs := by
 obtain ⟨h1, h2 | ⟨g, cap, cur, hv, hb, hg, hr⟩⟩ := h
 ·exact ⟨h1, .inl h2⟩
 ·exact ⟨h1, .inr ⟨g, cap, cur, hv, hb, by rw [k.block g (Array.getElem?_eq_some_iff.1 hg).1]; exact hg, hr⟩⟩
theorem own_lt {w : World} {B e s n : Nat} {v : Value} {xs : List Value} (h : w.ownsRow B e s v n xs) (k : Nat) (hk : v.ownBlock = some k) : B ≤ k ∧ k < w.heap.size := by
 obtain ⟨h1, ⟨rfl, -⟩ | ⟨g, cap, cur, rfl, hb, hg, hr⟩⟩ := h
 ·cases hk
 ·simp only [Value.ownBlock, Option.some.injEq] at hk
  subst hk
  exact ⟨hb, (Array.getElem?_eq_some_iff.1 hg).1⟩
theorem PosO.grown {u v : World} {B b1 b2 n1 n2 : Nat} {a1 a2 : Option Addr} {xs ys : List Int} {row : Option Nat} (h : PosO u B a1 a2 b1 b2 n1 n2 xs ys) (hg : u.grownBy v row) (h1 : ∀ k, row = some k → k ≠ b1) (h2 : ∀ k, row = some k → k ≠ b2) : PosO v B a1 a2 b1 b2 n1 n2 xs ys :=
 ⟨h.o1.grown hg h1, h.o2.grown hg h2, h.ne, h.l1, h.l2⟩
theorem It7.below {u v : World} {B : Nat} {x : R7 × Q7} (h : It7 u B x) (k : Below u.heap.size u v) : It7 v B x :=
 ⟨h.o.below k, Nat.lt_of_lt_of_le h.l1 k.size, Nat.lt_of_lt_of_le h.l2 k.size, h.k1, h.k2⟩
theorem It7.grown {u v : World} {B : Nat} {x : R7 × Q7} {row : Option Nat} (h : It7 u B x) (hg : u.grownBy v row) (hr : ∀ k, row = some k → k ≠ x.2.g1 ∧ k ≠ x.2.g2) : It7 v B x :=
 ⟨h.o.grown hg (fun k hk => (hr k hk).1) (fun k hk => (hr k hk).2), Nat.lt_of_lt_of_le h.l1 hg.size, Nat.lt_of_lt_of_le h.l2 hg.size, h.k1, h.k2⟩
theorem Rs7.below {u v : World} {B : Nat} {x : Value} {L : List (R7 × Q7)} (h : Rs7 u B x L) (k : Below u.heap.size u v) : Rs7 v B x L :=
 ⟨own_keepS h.own k, fun y hy => (h.it y hy).below k, h.ne, h.pw⟩
theorem Rs7.drew {u : World} {B : Nat} {x : Value} {L : List (R7 × Q7)} (h : Rs7 u B x L) : Rs7 u.drew B x L := h.below (Below.refl _ _).drew
theorem Rs7.snoc {u u' w1 : World} {B H0 g cap : Nat} {v : Value} {L : List (R7 × Q7)} {x : R7 × Q7} (h : Rs7 u B v L) (hx : It7 u B x) (hf : ∀ y ∈ L, y.2.g1 < H0 ∧ y.2.g2 < H0) (hv : ∀ k, v.ownBlock = some k → k < H0) (hx1 : H0 ≤ x.2.g1) (hx2 : H0 ≤ x.2.g2) (hu : Below u.heap.size u u')
  (hown : w1.ownsRow B 94 6 (.slice (some ⟨g, 0, none⟩) (L.length + 1) cap) (L.length + 1) (flat7 L ++ cells7 x)) (hg : u'.grownBy w1 v.ownBlock) (hat : v.ownBlock = some g ∨ g = u'.heap.size) :
  Rs7 w1 B (.slice (some ⟨g, 0, none⟩) (L.length + 1) cap) (L ++ [x]) := by
 have hgx : g ≠ x.2.g1 ∧ g ≠ x.2.g2 := by
  rcases hat with e | e
  ·have := hv _ e
   omega
  ·have h1 := Nat.lt_of_lt_of_le hx.l1 hu.size
   have h2 := Nat.lt_of_lt_of_le hx.l2 hu.size
   omega
 have hgy : ∀ y ∈ L, g ≠ y.2.g1 ∧ g ≠ y.2.g2 := by
  intro y hy
  rcases hat with e | e
  ·exact h.ne y hy g e
  ·have h1 := Nat.lt_of_lt_of_le (h.it y hy).l1 hu.size
   have h2 := Nat.lt_of_lt_of_le (h.it y hy).l2 hu.size
   omega
 refine ⟨by rw [List.length_append, List.length_singleton, flat7_snoc]; exact hown, fun y hy => ?_, fun y hy k hk => ?_, ?_⟩
 ·rcases List.mem_append.1 hy with hy | hy
  ·exact ((h.it y hy).below hu).grown hg (fun k hk => h.ne y hy k hk)
  ·rw [List.mem_singleton] at hy
   subst hy
   exact (hx.below hu).grown hg (fun k hk => by have := hv k hk; omega)
 ·have hk' : g = k := by simpa [Value.ownBlock] using hk
  subst hk'
  rcases List.mem_append.1 hy with hy | hy
  ·exact hgy y hy
  ·rw [List.mem_singleton] at hy
   subst hy
   exact hgx
 ·rw [List.pairwise_append]
  refine ⟨h.pw, List.pairwise_singleton _ _, fun y hy z hz => ?_⟩
  rw [List.mem_singleton] at hz
  subst hz
  have := hf y hy
  unfold Far7
  omega
theorem Rs7.cell {u : World} {B g n cap : Nat} {L : List (R7 × Q7)} (h : Rs7 u B (.slice (some ⟨g, 0, none⟩) n cap) L) {i : Nat} {x : R7 × Q7} (hi : L[i]? = some x) {o : Nat} (ho : o < 6) : u.cell? ⟨g, i * 6 + o, none⟩ = (cells7 x)[o]? := by
 obtain ⟨h1, ⟨e, -⟩ | ⟨g', cap', cur, hv, hb, hg, hn, hc, hs, ht⟩⟩ := h.own
 ·cases e
 ·simp only [Value.slice.injEq, Option.some.injEq, Addr.mk.injEq] at hv
  obtain ⟨⟨rfl, -⟩, -, rfl⟩ := hv
  have e := flat7_at L i x hi o ho
  rw [← ht, List.getElem?_take] at e
  have hL : i < L.length := (List.getElem?_eq_some_iff.1 hi).1
  rw [if_pos (by omega)] at e
  rw [← e]
  simp [World.cell?, hg]
def r7V (c l p pp : Int) (ag : Bool) (ys : List Int) (move : Int) (m : Res) : R7 := ⟨move, gnV c l p pp ys m, agV ag m, nxV ag pp m, tkX c l p pp m.last m.xs, tkY c l p pp m.last m.xs m.ys⟩
def f7 (p c l pp : Int) (st sk re fe ag : Bool) (xs ys : List Int) (j : Nat) : Option R7 :=
 (lgV c l p pp fe xs (mvV true p pp st sk re xs ys (j : Int))).map (r7V c l p pp ag ys (j : Int))
def agL (ag : Bool) (LV : Option Res) : Bool := match LV with | none => false | some m => agV ag m
theorem lg_none {p s c l pp : Int} {st sk re fe ag : Bool} {n1 n2 : Nat} {xs ys : List Int} {k : Bool} (hk : okP (okR p s c l st ag) p n1 n2 pp xs ys = k) (l1 : xs.length = n1) {move : Int} (h : lgV c l p pp fe xs (mvV k p pp st sk re xs ys move) = none) :
  (lgC c l p pp fe xs (mvCd k p pp st sk re xs ys move) (mvV k p pp st sk re xs ys move) == 0) = false := by
 cases hm : mvV k p pp st sk re xs ys move with
 | none =>
  show (mvCd k p pp st sk re xs ys move == 0) = false
  rcases mvV_none hk l1 hm with e | e | e | e <;> rw [e] <;> rfl
 | some m =>
  rw [hm] at h
  unfold lgV at h
  unfold lgC
  simp only at h ⊢
  split at h
  ·rename_i hb
   rw [if_pos hb]
   rfl
  ·cases h
theorem lg_some {p c l pp : Int} {fe : Bool} {xs : List Int} {cd : Int} {MV : Option Res} {m : Res} (h : lgV c l p pp fe xs MV = some m) : MV = some m ∧ lgC c l p pp fe xs cd MV = 0 := by
 cases MV with
 | none => cases h
 | some m0 =>
  unfold lgV at h
  unfold lgC
  simp only at h ⊢
  split at h
  ·cases h
  ·rename_i hb
   rw [if_neg hb]
   exact ⟨h, rfl⟩
/- Run8 -/
structure Ps where
 pl : Int
 xs : List Int
 ys : List Int
def R7.ps (r : R7) : Ps := ⟨r.nx, r.xs, r.ys⟩
def stp (p c l : Int) (st sk re fe ag : Bool) (q : Ps) (move : Int) : Option R7 := (lgV c l p q.pl fe q.xs (mvV true p q.pl st sk re q.xs q.ys move)).map (r7V c l p q.pl ag q.ys move)
def runO (f : Ps → Int → Option R7) : Ps → List Int → Option (List R7)
 | _, [] => some []
 | q, m :: ms => match f q m with
  | none => none
  | some r => (runO f r.ps ms).map (r :: ·)
def lastP (q : Ps) : List R7 → Ps
 | [] => q
 | r :: rs => lastP r.ps rs
theorem lastP_snoc (q : Ps) (rs : List R7) (r : R7) : lastP q (rs ++ [r]) = r.ps := by
 induction rs generalizing q with
 | nil => rfl
 | cons x rs ih => exact ih x.ps
theorem runO_snoc (f : Ps → Int → Option R7) (q : Ps) (ms : List Int) (m : Int) : runO f q (ms ++ [m]) = (runO f q ms).bind (fun rs => (f (lastP q rs) m).map (fun r => rs ++ [r])) := by
 induction ms generalizing q with
 | nil =>
  show (match f q m with | none => none | some r => (runO f r.ps []).map (r :: ·)) = _
  cases h : f q m <;> simp [runO, lastP, h]
 | cons a ms ih =>
  show (match f q a with | none => none | some r => (runO f r.ps (ms ++ [m])).map (r :: ·)) = (match f q a with | none => none | some r => (runO f r.ps ms).map (r :: ·)).bind _
  cases h : f q a with
  | none => rfl
  | some r =>
   show (runO f r.ps (ms ++ [m])).map (r :: ·) = ((runO f r.ps ms).map (r :: ·)).bind _
   rw [ih]
   cases h2 : runO f r.ps ms with
   | none => rfl
   | some rs =>
    show ((f (lastP r.ps rs) m).map (fun r' => rs ++ [r'])).map (r :: ·) = (f (lastP q (r :: rs)) m).map (fun r' => (r :: rs) ++ [r'])
    rw [Option.map_map]
    rfl
theorem runO_len {f : Ps → Int → Option R7} : ∀ {ms : List Int} {q : Ps} {rs : List R7}, runO f q ms = some rs → rs.length = ms.length
 | [], q, rs, h => by
  cases h
  rfl
 | a :: ms, q, rs, h => by
  unfold runO at h
  cases hf : f q a with
  | none => rw [hf] at h; cases h
  | some r =>
   rw [hf] at h
   simp only at h
   cases h2 : runO f r.ps ms with
   | none => rw [h2] at h; cases h
   | some rs' =>
    rw [h2] at h
    cases h
    simp [runO_len h2]
theorem runO_fail {f : Ps → Int → Option R7} (q : Ps) (ms ms' : List Int) (h : runO f q ms = none) : runO f q (ms ++ ms') = none := by
 induction ms' generalizing ms with
 | nil => rw [List.append_nil]; exact h
 | cons m ms' ih =>
  have e : ms ++ m :: ms' = (ms ++ [m]) ++ ms' := by simp
  rw [e]
  exact ih _ (by rw [runO_snoc, h]; rfl)
theorem runO_yes {f : Ps → Int → Option R7} {q : Ps} {ms : List Int} {k : Nat} {m : Int} {rs : List R7} {r : R7} (hm : ms[k]? = some m) (h : runO f q (ms.take k) = some rs) (hr : f (lastP q rs) m = some r) : runO f q (ms.take (k + 1)) = some (rs ++ [r]) := by
 rw [take_next hm, runO_snoc, h]
 show (f (lastP q rs) m).map _ = _
 rw [hr]
 rfl
theorem runO_no {f : Ps → Int → Option R7} {q : Ps} {ms : List Int} {k : Nat} {m : Int} {rs : List R7} (hm : ms[k]? = some m) (h : runO f q (ms.take k) = some rs) (hr : f (lastP q rs) m = none) : runO f q ms = none := by
 have e : runO f q (ms.take (k + 1)) = none := by
  rw [take_next hm, runO_snoc, h]
  show (f (lastP q rs) m).map _ = _
  rw [hr]
  rfl
 have := runO_fail q (ms.take (k + 1)) (ms.drop (k + 1)) e
 rwa [List.take_append_drop] at this
structure OkQ (p s c l : Int) (st ag : Bool) (n1 : Nat) (q : Ps) : Prop where
 ok : okP (okR p s c l st ag) p n1 2 q.pl q.xs q.ys = true
 l1 : q.xs.length = n1
 l2 : q.ys.length = 2
theorem stp_ok {p s c l : Int} {st sk re fe ag : Bool} {n1 : Nat} {q : Ps} {move : Int} {r : R7} (h : OkQ p s c l st ag n1 q) (hr : stp p c l st sk re fe ag q move = some r) : OkQ p s c l st ag n1 r.ps := by
 unfold stp at hr
 cases hl : lgV c l p q.pl fe q.xs (mvV true p q.pl st sk re q.xs q.ys move) with
 | none => rw [hl] at hr; cases hr
 | some m =>
  rw [hl] at hr
  cases hr
  obtain ⟨hm, -⟩ := lg_some (cd := 0) hl
  obtain ⟨-, -, -, -, fin⟩ := mvV_fin h.ok h.l1 h.l2 hm
  obtain ⟨g, x1, x2⟩ := good_fin (t := 0) p s c l st sk re fe ag h.ok fin
  obtain ⟨t1, t2, t3⟩ := g.tk x1 x2
  obtain ⟨k1, k2, -, k4, k5⟩ := okP_parts h.ok
  obtain ⟨-, -, s3⟩ := seedB_parts k5
  have ht := fin.brd.tot
  refine ⟨?_, by show (tkX c l p q.pl m.last m.xs).length = n1; rw [tkX_len]; exact x1, by show (tkY c l p q.pl m.last m.xs m.ys).length = 2; rw [tkY_len]; exact x2⟩
  show okP (okR p s c l st ag) p n1 2 (nxV ag q.pl m) (tkX c l p q.pl m.last m.xs) (tkY c l p q.pl m.last m.xs m.ys) = true
  have hn : 0 ≤ nxV ag q.pl m ∧ nxV ag q.pl m ≤ 1 := by
   unfold nxV
   split <;> omega
  unfold okP seedB
  have e3 : decide (tot (tkX c l p q.pl m.last m.xs) + tot (tkY c l p q.pl m.last m.xs m.ys) ≤ 96) = true := decide_eq_true (by omega)
  rw [k1, t1, t2, e3, decide_eq_true k2, decide_eq_true hn.1, decide_eq_true hn.2]
  rfl
theorem run_ok {p s c l : Int} {st sk re fe ag : Bool} {n1 : Nat} : ∀ {ms : List Int} {q : Ps} {rs : List R7}, OkQ p s c l st ag n1 q → runO (stp p c l st sk re fe ag) q ms = some rs → OkQ p s c l st ag n1 (lastP q rs)
 | [], q, rs, h, hr => by
  cases hr
  exact h
 | a :: ms, q, rs, h, hr => by
  unfold runO at hr
  cases hf : stp p c l st sk re fe ag q a with
  | none => rw [hf] at hr; cases hr
  | some r =>
   rw [hf] at hr
   simp only at hr
   cases h2 : runO (stp p c l st sk re fe ag) r.ps ms with
   | none => rw [h2] at hr; cases hr
   | some rs' =>
    rw [h2] at hr
    cases hr
    show OkQ p s c l st ag n1 (lastP r.ps rs')
    exact run_ok (q := r.ps) (stp_ok h hf) h2
/- Ps8 -/
def cells3 (x : Ps × Q7) : List Value := [.slice (some ⟨x.2.g1, 0, none⟩) x.2.n1 x.2.k1, .slice (some ⟨x.2.g2, 0, none⟩) 2 x.2.k2, .int .i64 x.1.pl]
def flat3 (L : List (Ps × Q7)) : List Value := L.flatMap cells3
theorem cells3_one (x : Ps × Q7) : ∀ u ∈ cells3 x, u.oneCell' = true := by
 intro u hu
 simp only [cells3, List.mem_cons, List.not_mem_nil, or_false] at hu
 rcases hu with rfl | rfl | rfl <;> rfl
theorem flat3_snoc (L : List (Ps × Q7)) (x : Ps × Q7) : flat3 (L ++ [x]) = flat3 L ++ cells3 x := by simp [flat3]
theorem flat3_at : ∀ (L : List (Ps × Q7)) (i : Nat) (x : Ps × Q7), L[i]? = some x → ∀ o, o < 3 → (flat3 L)[i * 3 + o]? = (cells3 x)[o]?
 | [], _, _, h, _, _ => by cases h
 | y :: r, 0, x, h, o, ho => by
  cases h
  have e : flat3 (y :: r) = cells3 y ++ flat3 r := by simp [flat3]
  rw [e, Nat.zero_mul, Nat.zero_add, List.getElem?_append_left (by show o < 3; exact ho)]
 | y :: r, i + 1, x, h, o, ho => by
  have e : flat3 (y :: r) = cells3 y ++ flat3 r := by simp [flat3]
  rw [e, List.getElem?_append_right (by show 3 ≤ _; omega)]
  have := flat3_at r i x (by simpa using h) o ho
  rw [← this]
  congr 1
  show (i + 1) * 3 + o - 3 = _
  omega
structure It3 (u : World) (B : Nat) (x : Ps × Q7) : Prop where
 o : PosO u B (some ⟨x.2.g1, 0, none⟩) (some ⟨x.2.g2, 0, none⟩) x.2.g1 x.2.g2 x.2.n1 2 x.1.xs x.1.ys
 l1 : x.2.g1 < u.heap.size
 l2 : x.2.g2 < u.heap.size
 k1 : x.2.n1 ≤ x.2.k1
 k2 : 2 ≤ x.2.k2
def Far3 (x y : Ps × Q7) : Prop := x.2.g1 ≠ y.2.g1 ∧ x.2.g1 ≠ y.2.g2 ∧ x.2.g2 ≠ y.2.g1 ∧ x.2.g2 ≠ y.2.g2
structure Rs3 (u : World) (B : Nat) (v : Value) (L : List (Ps × Q7)) : Prop where
 own : u.ownsRow B 32 3 v L.length (flat3 L)
 it : ∀ x ∈ L, It3 u B x
 ne : ∀ x ∈ L, ∀ k, v.ownBlock = some k → k ≠ x.2.g1 ∧ k ≠ x.2.g2
 pw : L.Pairwise Far3
theorem It3.below {u v : World} {B : Nat} {x : Ps × Q7} (h : It3 u B x) (k : Below u.heap.size u v) : It3 v B x :=
 ⟨h.o.below k, Nat.lt_of_lt_of_le h.l1 k.size, Nat.lt_of_lt_of_le h.l2 k.size, h.k1, h.k2⟩
theorem It3.grown {u v : World} {B : Nat} {x : Ps × Q7} {row : Option Nat} (h : It3 u B x) (hg : u.grownBy v row) (hr : ∀ k, row = some k → k ≠ x.2.g1 ∧ k ≠ x.2.g2) : It3 v B x :=
 ⟨h.o.grown hg (fun k hk => (hr k hk).1) (fun k hk => (hr k hk).2), Nat.lt_of_lt_of_le h.l1 hg.size, Nat.lt_of_lt_of_le h.l2 hg.size, h.k1, h.k2⟩
theorem Rs3.below {u v : World} {B : Nat} {x : Value} {L : List (Ps × Q7)} (h : Rs3 u B x L) (k : Below u.heap.size u v) : Rs3 v B x L :=
 ⟨own_keepS h.own k, fun y hy => (h.it y hy).below k, h.ne, h.pw⟩
theorem Rs3.drew {u : World} {B : Nat} {x : Value} {L : List (Ps × Q7)} (h : Rs3 u B x L) : Rs3 u.drew B x L := h.below (Below.refl _ _).drew
theorem Rs3.snoc {u u' w1 : World} {B H0 g cap : Nat} {v : Value} {L : List (Ps × Q7)} {x : Ps × Q7} (h : Rs3 u B v L) (hx : It3 u B x) (hf : ∀ y ∈ L, y.2.g1 < H0 ∧ y.2.g2 < H0) (hv : ∀ k, v.ownBlock = some k → k < H0) (hx1 : H0 ≤ x.2.g1) (hx2 : H0 ≤ x.2.g2) (hu : Below u.heap.size u u')
  (hown : w1.ownsRow B 32 3 (.slice (some ⟨g, 0, none⟩) (L.length + 1) cap) (L.length + 1) (flat3 L ++ cells3 x)) (hg : u'.grownBy w1 v.ownBlock) (hat : v.ownBlock = some g ∨ g = u'.heap.size) :
  Rs3 w1 B (.slice (some ⟨g, 0, none⟩) (L.length + 1) cap) (L ++ [x]) := by
 have hgx : g ≠ x.2.g1 ∧ g ≠ x.2.g2 := by
  rcases hat with e | e
  ·have := hv _ e
   omega
  ·have h1 := Nat.lt_of_lt_of_le hx.l1 hu.size
   have h2 := Nat.lt_of_lt_of_le hx.l2 hu.size
   omega
 have hgy : ∀ y ∈ L, g ≠ y.2.g1 ∧ g ≠ y.2.g2 := by
  intro y hy
  rcases hat with e | e
  ·exact h.ne y hy g e
  ·have h1 := Nat.lt_of_lt_of_le (h.it y hy).l1 hu.size
   have h2 := Nat.lt_of_lt_of_le (h.it y hy).l2 hu.size
   omega
 refine ⟨by rw [List.length_append, List.length_singleton, flat3_snoc]; exact hown, fun y hy => ?_, fun y hy k hk => ?_, ?_⟩
 ·rcases List.mem_append.1 hy with hy | hy
  ·exact ((h.it y hy).below hu).grown hg (fun k hk => h.ne y hy k hk)
  ·rw [List.mem_singleton] at hy
   subst hy
   exact (hx.below hu).grown hg (fun k hk => by have := hv k hk; omega)
 ·have hk' : g = k := by simpa [Value.ownBlock] using hk
  subst hk'
  rcases List.mem_append.1 hy with hy | hy
  ·exact hgy y hy
  ·rw [List.mem_singleton] at hy
   subst hy
   exact hgx
 ·rw [List.pairwise_append]
  refine ⟨h.pw, List.pairwise_singleton _ _, fun y hy z hz => ?_⟩
  rw [List.mem_singleton] at hz
  subst hz
  have := hf y hy
  unfold Far3
  omega
theorem Rs3.cell {u : World} {B g n cap : Nat} {L : List (Ps × Q7)} (h : Rs3 u B (.slice (some ⟨g, 0, none⟩) n cap) L) {i : Nat} {x : Ps × Q7} (hi : L[i]? = some x) {o : Nat} (ho : o < 3) : u.cell? ⟨g, i * 3 + o, none⟩ = (cells3 x)[o]? := by
 obtain ⟨h1, ⟨e, -⟩ | ⟨g', cap', cur, hv, hb, hg, hn, hc, hs, ht⟩⟩ := h.own
 ·cases e
 ·simp only [Value.slice.injEq, Option.some.injEq, Addr.mk.injEq] at hv
  obtain ⟨⟨rfl, -⟩, -, rfl⟩ := hv
  have e := flat3_at L i x hi o ho
  rw [← ht, List.getElem?_take] at e
  have hL : i < L.length := (List.getElem?_eq_some_iff.1 hi).1
  rw [if_pos (by omega)] at e
  rw [← e]
  simp [World.cell?, hg]
theorem infoPo : (Try.prog.info? 32).map (fun i => (i.zero, i.size, i.bytes)) = some (some (.agg #[.slice none 0 0, .slice none 0 0, .int .i64 0]), 3, 56) := by kernel_rfl
theorem cells3_news (u : World) (T : TypeId) (x : Ps × Q7) (H : Nat) (hH : u.heap.size = H) : ∀ j v, (cells3 x)[j]? = some v → (u.alloc (.cells #[.slice (some ⟨x.2.g1, 0, none⟩) x.2.n1 x.2.k1, .slice (some ⟨x.2.g2, 0, none⟩) 2 x.2.k2, .int .i64 x.1.pl] T)).cell? ((⟨H, 0, none⟩ : Addr).add j) = some v := by
 subst hH
 intro j v hj
 have e : ((⟨u.heap.size, 0, none⟩ : Addr).add j) = ⟨u.heap.size, 0 + j, none⟩ := by
  by_cases h : j = 0 <;> simp [Addr.add, h]
 rw [e, Nat.zero_add]
 match j, hj with
 | 0, hj => cases hj; go_simp
 | 1, hj => cases hj; go_simp
 | 2, hj => cases hj; go_simp
 | n + 3, hj => cases hj
/- Rm8 -/
def MrQ (c l p pp : Int) (ag : Bool) (pn1 : Nat) (xs ys : List Int) (move : Int) (LV : Option Res) (cd : Int) (w : World) (e : Ending) (w' : World) : Prop :=
 match LV with
 | none => MrE cd w e w'
 | some m => ∃ g1 k1 g2 k2, e = .returned (.tuple #[.agg #[.int .i64 move, .int .i64 (gnV c l p pp ys m), .bool (agV ag m), .slice (some ⟨g1, 0, none⟩) pn1 k1, .slice (some ⟨g2, 0, none⟩) 2 k2, .int .i64 (nxV ag pp m)], .int .i64 cd]) ∧
  PosO w' w.heap.size (some ⟨g1, 0, none⟩) (some ⟨g2, 0, none⟩) g1 g2 pn1 2 (tkX c l p pp m.last m.xs) (tkY c l p pp m.last m.xs m.ys) ∧ g1 < w'.heap.size ∧ g2 < w'.heap.size ∧ pn1 ≤ k1 ∧ 2 ≤ k2 ∧ Below w.heap.size w w'
def MrD (b : Bool) (cd : Int) (w : World) (e : Ending) (w' : World) : Prop :=
 ∃ (mv gn : Int) (s1 : Option Addr) (n1 c1 : Nat) (s2 : Option Addr) (n2 c2 : Nat) (nx : Int), e = .returned (.tuple #[.agg #[.int .i64 mv, .int .i64 gn, .bool b, .slice s1 n1 c1, .slice s2 n2 c2, .int .i64 nx], .int .i64 cd]) ∧ Below w.heap.size w w'
theorem MrQ.d {c l p pp : Int} {ag : Bool} {pn1 : Nat} {xs ys : List Int} {move : Int} {LV : Option Res} {cd : Int} {w w' : World} {e : Ending} (h : MrQ c l p pp ag pn1 xs ys move LV cd w e w') : MrD (agL ag LV) cd w e w' := by
 cases LV with
 | none => exact ⟨_, _, _, _, _, _, _, _, _, h.1, h.2⟩
 | some m =>
  obtain ⟨g1, k1, g2, k2, he, -, -, -, -, -, hb⟩ := h
  exact ⟨_, _, _, _, _, _, _, _, _, he, hb⟩
theorem l07Make_any (p s c l : Int) (st sk re fe ag : Bool) (p1 p2 : Option Addr) (pn1 pc1 pn2 pc2 : Nat) (pp : Int) (xs ys : List Int) (rb pb : Nat) (move : Int) (w : World) (hr : RuAt w rb p s c l st sk re fe ag) (hq : PoAt w pb p1 p2 pn1 pc1 pn2 pc2 pp) (h : PosR w p1 p2 pn1 pn2 xs ys) (k : Bool) (hk : okP (okR p s c l st ag) p pn1 pn2 pp xs ys = k) :
  Calls Try.prog 60 #[.pointer (some ⟨rb, 0, none⟩), .pointer (some ⟨pb, 0, none⟩), .int .i64 move] w (MrQ c l p pp ag pn1 xs ys move (lgV c l p pp fe xs (mvV k p pp st sk re xs ys move)) (lgC c l p pp fe xs (mvCd k p pp st sk re xs ys move) (mvV k p pp st sk re xs ys move)) w) := by
 have hC := fun u (hu : Below w.heap.size w u) => l05Move_any p s c l st sk re fe ag p1 p2 pn1 pc1 pn2 pc2 pp xs ys rb pb move u (hr.below hu) (hq.below hu) (h.below hu) k hk
 cases hm : mvV k p pp st sk re xs ys move with
 | none =>
  rw [hm] at hC
  have h0 : (mvCd k p pp st sk re xs ys move == 0) = false := by
   rcases mvV_none hk h.l1 hm with e | e | e | e <;> rw [e] <;> rfl
  exact l07Make_err p s c l st sk re fe ag rb pb pn1 move _ h0 w hC
 | some m =>
  obtain ⟨rfl, m0, m1, hc0, fin⟩ := mvV_fin hk h.l1 h.l2 hm
  obtain ⟨rfl, hpl⟩ := pl_of_ok hk
  rw [hm, hc0] at hC
  have hX := l07Make_some p s c l st sk re fe ag p1 p2 pn1 pc1 pc2 pp move xs ys rb pb m w hr hq h hk fin hC
  rw [hc0]
  have e1 : lgV c l p pp fe xs (some m) = if illB c l p pp fe xs m then none else some m := rfl
  have e2 : lgC c l p pp fe xs 0 (some m) = if illB c l p pp fe xs m then 9 else 0 := rfl
  rw [e1, e2]
  generalize illB c l p pp fe xs m = b at *
  cases b
  ·exact hX.mono (fun e w' q => by unfold MrL at q; rw [if_neg (by decide)] at q; exact q)
  ·exact hX.mono (fun e w' q => by unfold MrL at q; rw [if_pos rfl] at q; exact q)
/- Rn8 -/
theorem own_butS {w w' : World} {B e s n b : Nat} {v : Value} {xs : List Value} (h : w.ownsRow B e s v n xs) (k : But b w w') (hb : ∀ i, v.ownBlock = some i → i ≠ b) : w'.ownsRow B e s v n xs := by
 obtain ⟨h1, h2 | ⟨g, cap, cur, hv, hB, hg, hr⟩⟩ := h
 ·exact ⟨h1, .inl h2⟩
 ·have hgb : g ≠ b := hb g (by rw [hv]; rfl)
  exact ⟨h1, .inr ⟨g, cap, cur, hv, hB, by rw [k.block g (Array.getElem?_eq_some_iff.1 hg).1 hgb]; exact hg, hr⟩⟩
theorem own_grownS {w w' : World} {B e s n : Nat} {v : Value} {xs : List Value} {row : Option Nat} (h : w.ownsRow B e s v n xs) (hg : w.grownBy w' row) (hb : ∀ i j, v.ownBlock = some i → row = some j → i ≠ j) : w'.ownsRow B e s v n xs := by
 obtain ⟨h1, h2 | ⟨g, cap, cur, hv, hB, hc, hr⟩⟩ := h
 ·exact ⟨h1, .inl h2⟩
 ·exact ⟨h1, .inr ⟨g, cap, cur, hv, hB, by rw [hg.block g (Array.getElem?_eq_some_iff.1 hc).1 (fun e => hb g g (by rw [hv]; rfl) e.symm rfl)]; exact hc, hr⟩⟩
theorem Rs3.but {u v : World} {B b : Nat} {x : Value} {L : List (Ps × Q7)} (h : Rs3 u B x L) (k : But b u v) (h1 : ∀ i, x.ownBlock = some i → i ≠ b) (h2 : ∀ y ∈ L, y.2.g1 ≠ b ∧ y.2.g2 ≠ b) : Rs3 v B x L :=
 ⟨own_butS h.own k h1, fun y hy => ⟨(h.it y hy).o.but k (h2 y hy).1 (h2 y hy).2, Nat.lt_of_lt_of_le (h.it y hy).l1 k.size, Nat.lt_of_lt_of_le (h.it y hy).l2 k.size, (h.it y hy).k1, (h.it y hy).k2⟩, h.ne, h.pw⟩
theorem Rs3.grown {u v : World} {B : Nat} {x : Value} {L : List (Ps × Q7)} {row : Option Nat} (h : Rs3 u B x L) (hg : u.grownBy v row) (h1 : ∀ i j, x.ownBlock = some i → row = some j → i ≠ j) (h2 : ∀ y ∈ L, ∀ j, row = some j → j ≠ y.2.g1 ∧ j ≠ y.2.g2) : Rs3 v B x L :=
 ⟨own_grownS h.own hg h1, fun y hy => (h.it y hy).grown hg (fun j hj => h2 y hy j hj), h.ne, h.pw⟩
theorem PoAt.grown {u v : World} {d : Nat} {p1 p2 : Option Addr} {pn1 pc1 pn2 pc2 : Nat} {pp : Int} {row : Option Nat} (h : PoAt u d p1 p2 pn1 pc1 pn2 pc2 pp) (hg : u.grownBy v row) (hr : ∀ j, row = some j → j ≠ d) : PoAt v d p1 p2 pn1 pc1 pn2 pc2 pp := by
 have hb := hg.block d h.1 (fun e => hr d e.symm rfl)
 have e : ∀ o, v.cell? ⟨d, o, none⟩ = u.cell? ⟨d, o, none⟩ := fun o => World.cell?_of_block (a := ⟨d, o, none⟩) hb
 exact ⟨Nat.lt_of_lt_of_le h.1 hg.size, (e 0).trans h.2.1, (e 1).trans h.2.2.1, (e 2).trans h.2.2.2⟩
structure RnK (w : World) (nb n1 : Nat) (v1 v2 : Value) (L : List (Ps × Q7)) (gs : List Int) (h1 h2 d1 d2 : Nat) (q : Ps) (u : World) : Prop where
 rs : Rs3 u w.heap.size v1 L
 gn : u.ownsRow w.heap.size 2 1 v2 gs.length (nvs gs)
 po : PoAt u nb (some ⟨h1, 0, none⟩) (some ⟨h2, 0, none⟩) n1 d1 2 d2 q.pl
 fr : ∀ o, u.frozen? ⟨nb, o, none⟩ = false
 o : PosO u w.heap.size (some ⟨h1, 0, none⟩) (some ⟨h2, 0, none⟩) h1 h2 n1 2 q.xs q.ys
 l1 : h1 < u.heap.size
 l2 : h2 < u.heap.size
 k1 : n1 ≤ d1
 k2 : 2 ≤ d2
 nbm : w.heap.size ≤ nb
 sa : ∀ i, v1.ownBlock = some i → i ≠ nb ∧ i ≠ h1 ∧ i ≠ h2
 sv : ∀ i j, v1.ownBlock = some i → v2.ownBlock = some j → i ≠ j
 sb : ∀ j, v2.ownBlock = some j → j ≠ nb ∧ j ≠ h1 ∧ j ≠ h2
 sx : ∀ x ∈ L, (∀ j, v2.ownBlock = some j → j ≠ x.2.g1 ∧ j ≠ x.2.g2) ∧ x.2.g1 ≠ nb ∧ x.2.g2 ≠ nb
 sc : h1 ≠ nb ∧ h2 ≠ nb
 be : Below w.heap.size w u
section
variable {w u v : World} {nb n1 : Nat} {v1 v2 : Value} {L : List (Ps × Q7)} {gs : List Int} {h1 h2 d1 d2 : Nat} {q : Ps}
theorem RnK.below (h : RnK w nb n1 v1 v2 L gs h1 h2 d1 d2 q u) (k : Below u.heap.size u v) : RnK w nb n1 v1 v2 L gs h1 h2 d1 d2 q v :=
 ⟨h.rs.below k, own_keepS h.gn k, h.po.below k, fun o => (k.frozen (p := ⟨nb, o, none⟩) h.po.1).trans (h.fr o), h.o.below k, Nat.lt_of_lt_of_le h.l1 k.size, Nat.lt_of_lt_of_le h.l2 k.size, h.k1, h.k2, h.nbm, h.sa, h.sv, h.sb, h.sx, h.sc, h.be.trans (k.mono h.be.size)⟩
theorem RnK.now (h : RnK w nb n1 v1 v2 L gs h1 h2 d1 d2 q u) {H0 g1 g2 c1 c2 : Nat} {q' : Ps} (hH : w.heap.size ≤ H0) (hv1 : ∀ i, v1.ownBlock = some i → i < H0) (hv2 : ∀ i, v2.ownBlock = some i → i < H0) (hnb : nb < H0)
  (ho : PosO u H0 (some ⟨g1, 0, none⟩) (some ⟨g2, 0, none⟩) g1 g2 n1 2 q'.xs q'.ys) (l1 : g1 < u.heap.size) (l2 : g2 < u.heap.size) (k1 : n1 ≤ c1) (k2 : 2 ≤ c2) :
  RnK w nb n1 v1 v2 L gs g1 g2 c1 c2 q' (((u.setCell ⟨nb, 0, none⟩ (.slice (some ⟨g1, 0, none⟩) n1 c1)).setCell ⟨nb, 1, none⟩ (.slice (some ⟨g2, 0, none⟩) 2 c2)).setCell ⟨nb, 2, none⟩ (.int .i64 q'.pl)) := by
 have k : But nb u (((u.setCell ⟨nb, 0, none⟩ (.slice (some ⟨g1, 0, none⟩) n1 c1)).setCell ⟨nb, 1, none⟩ (.slice (some ⟨g2, 0, none⟩) 2 c2)).setCell ⟨nb, 2, none⟩ (.int .i64 q'.pl)) := (((But.refl nb u).setCell (p := ⟨nb, 0, none⟩) rfl _).setCell (p := ⟨nb, 1, none⟩) rfl _).setCell (p := ⟨nb, 2, none⟩) rfl _
 have n1' := ho.o1.new
 have n2' := ho.o2.new
 obtain ⟨pl, p0, p1, p2⟩ := h.po
 have f0 := h.fr 0
 have f1 := h.fr 1
 have f2 := h.fr 2
 have hbe := h.be
 refine ⟨h.rs.but k (fun i hi => (h.sa i hi).1) (fun y hy => (h.sx y hy).2), own_butS h.gn k (fun i hi => (h.sb i hi).1), ⟨by simpa using pl, by go_simp, by go_simp, by go_simp⟩, fun o => by have := h.fr o; go_simp, (ho.but k (by omega) (by omega)).lower hH, by simpa using l1, by simpa using l2, k1, k2, h.nbm, fun i hi => ?_, h.sv, fun j hj => ?_, h.sx, ⟨by omega, by omega⟩, OnW.set3 (show OnW w u from h.be) h.nbm _ _ _⟩
 ·have := hv1 i hi
  exact ⟨(h.sa i hi).1, by omega, by omega⟩
 ·have := hv2 j hj
  exact ⟨(h.sb j hj).1, by omega, by omega⟩
theorem RnK.push1 (h : RnK w nb n1 v1 v2 L gs h1 h2 d1 d2 q u) {u' w1 : World} {H0 g cap : Nat} {x : Ps × Q7} (hx : It3 u w.heap.size x) (hf : ∀ y ∈ L, y.2.g1 < H0 ∧ y.2.g2 < H0) (hv : ∀ i, v1.ownBlock = some i → i < H0) (hv2 : ∀ i, v2.ownBlock = some i → i < H0) (hnb : nb < H0) (hx1 : H0 ≤ x.2.g1) (hx2 : H0 ≤ x.2.g2) (hu : Below u.heap.size u u')
  (hown : w1.ownsRow w.heap.size 32 3 (.slice (some ⟨g, 0, none⟩) (L.length + 1) cap) (L.length + 1) (flat3 L ++ cells3 x)) (hg : u'.grownBy w1 v1.ownBlock) (hat : v1.ownBlock = some g ∨ g = u'.heap.size) :
  RnK w nb n1 (.slice (some ⟨g, 0, none⟩) (L.length + 1) cap) v2 (L ++ [x]) gs h1 h2 d1 d2 q w1 := by
 have hk := h.below hu
 have s1 : ∀ j, v1.ownBlock = some j → w.heap.size ≤ j := fun j hj => (own_lt h.rs.own j hj).1
 have hl1 := hk.l1
 have hl2 := hk.l2
 have hpo := hk.po.1
 refine ⟨Rs3.snoc h.rs hx hf hv hx1 hx2 hu hown hg hat, own_grownS hk.gn hg (fun i j hi hj => fun e => h.sv j i hj hi e.symm), hk.po.grown hg (fun j hj => (h.sa j hj).1), fun o => ?_, hk.o.grown hg (fun j hj => (h.sa j hj).2.1) (fun j hj => (h.sa j hj).2.2), Nat.lt_of_lt_of_le hk.l1 hg.size, Nat.lt_of_lt_of_le hk.l2 hg.size, h.k1, h.k2, h.nbm, fun i hi => ?_, fun i j hi hj => ?_, h.sb, fun y hy => ?_, h.sc, hk.be.grown hg (by have := hk.be.size; omega) s1⟩
 ·exact (World.frozen?_of_block (a := ⟨nb, o, none⟩) (hg.block nb hpo (fun e => (h.sa nb e.symm).1 rfl))).trans (hk.fr o)
 ·have hi' : g = i := by simpa [Value.ownBlock] using hi
  subst hi'
  rcases hat with e | e
  ·exact h.sa g e
  ·exact ⟨by omega, by omega, by omega⟩
 ·have hi' : g = i := by simpa [Value.ownBlock] using hi
  subst hi'
  rcases hat with e | e
  ·exact h.sv g j e hj
  ·have h3 := (own_lt hk.gn j hj).2
   omega
 ·rcases List.mem_append.1 hy with hy | hy
  ·exact h.sx y hy
  ·rw [List.mem_singleton] at hy
   subst hy
   exact ⟨fun j hj => by have := hv2 j hj; exact ⟨by omega, by omega⟩, by omega, by omega⟩
theorem RnK.push2 (h : RnK w nb n1 v1 v2 L gs h1 h2 d1 d2 q u) {w1 : World} {g cap : Nat} {x : Int}
  (hown : w1.ownsRow w.heap.size 2 1 (.slice (some ⟨g, 0, none⟩) (gs.length + 1) cap) (gs.length + 1) (nvs gs ++ nvs [x])) (hg : u.grownBy w1 v2.ownBlock) (hat : v2.ownBlock = some g ∨ g = u.heap.size) :
  RnK w nb n1 v1 (.slice (some ⟨g, 0, none⟩) (gs.length + 1) cap) L (gs ++ [x]) h1 h2 d1 d2 q w1 := by
 have s1 : ∀ j, v2.ownBlock = some j → w.heap.size ≤ j := fun j hj => (own_lt h.gn j hj).1
 have hl1 := h.l1
 have hl2 := h.l2
 have hpo := h.po.1
 refine ⟨h.rs.grown hg (fun i j hi hj => h.sv i j hi hj) (fun y hy j hj => (h.sx y hy).1 j hj), by rw [List.length_append, List.length_singleton, nvs_app]; exact hown, h.po.grown hg (fun j hj => (h.sb j hj).1), fun o => ?_, h.o.grown hg (fun j hj => (h.sb j hj).2.1) (fun j hj => (h.sb j hj).2.2), Nat.lt_of_lt_of_le h.l1 hg.size, Nat.lt_of_lt_of_le h.l2 hg.size, h.k1, h.k2, h.nbm, h.sa, fun i j hi hj => ?_, fun j hj => ?_, fun y hy => ⟨fun j hj => ?_, (h.sx y hy).2⟩, h.sc, h.be.grown hg (by have := h.be.size; omega) s1⟩
 ·exact (World.frozen?_of_block (a := ⟨nb, o, none⟩) (hg.block nb hpo (fun e => (h.sb nb e.symm).1 rfl))).trans (h.fr o)
 ·have hj' : g = j := by simpa [Value.ownBlock] using hj
  subst hj'
  rcases hat with e | e
  ·exact h.sv i g hi e
  ·have h3 := (own_lt h.rs.own i hi).2
   omega
 ·have hj' : g = j := by simpa [Value.ownBlock] using hj
  subst hj'
  rcases hat with e | e
  ·exact h.sb g e
  ·exact ⟨by omega, by omega, by omega⟩
 ·have hj' : g = j := by simpa [Value.ownBlock] using hj
  subst hj'
  rcases hat with e | e
  ·exact (h.sx y hy).1 g e
  ·have h3 := (h.rs.it y hy).l1
   have h4 := (h.rs.it y hy).l2
   exact ⟨by omega, by omega⟩
end
theorem own_one3 (u : World) (x : Ps × Q7) (B : Nat) (hB : B ≤ u.heap.size) : (u.alloc (.cells #[.slice (some ⟨x.2.g1, 0, none⟩) x.2.n1 x.2.k1, .slice (some ⟨x.2.g2, 0, none⟩) 2 x.2.k2, .int .i64 x.1.pl] 32)).ownsRow B 32 3 (.slice (some ⟨u.heap.size, 0, none⟩) 1 1) 1 (flat3 [x]) :=
 ⟨rfl, .inr ⟨u.heap.size, 1, _, rfl, hB, heap_alloc_new u _, Nat.le_refl _, by decide, rfl, by simp [flat3, cells3]⟩⟩
/- Rn9 -/
def RunR (f : Ps → Int → Option R7) (q : Ps) (ms : List Int) (L : List (Ps × Q7)) (gs : List Int) : Prop :=
 match runO f q ms with
 | none => gs.length < ms.length
 | some rs => L.map Prod.fst = q :: rs.map R7.ps ∧ gs = rs.map R7.gn
def RunP (f : Ps → Int → Option R7) (q : Ps) (ms : List Int) (w : World) (e : Ending) (w' : World) : Prop :=
 ∃ v1 v2 L gs, e = .returned (.tuple #[v1, v2]) ∧ Rs3 w' w.heap.size v1 L ∧ w'.ownsRow w.heap.size 2 1 v2 gs.length (nvs gs) ∧ L.length = gs.length + 1 ∧ gs.length ≤ ms.length ∧ RunR f q ms L gs ∧ Below w.heap.size w w'
def RnJ (w : World) (gb nb n1 : Nat) (p s c l : Int) (st sk re fe ag : Bool) (f : Ps → Int → Option R7) (q : Ps) (ms : List Int) (k : Nat) (v1 v2 : Value) (u : World) : Prop :=
 RuAt u gb p s c l st sk re fe ag ∧ ∃ L rs h1 h2 d1 d2, RnK w nb n1 v1 v2 L (rs.map R7.gn) h1 h2 d1 d2 (lastP q rs) u ∧ runO f q (ms.take k) = some rs ∧ L.map Prod.fst = q :: rs.map R7.ps ∧ rs.length = k
theorem slice_own {u : World} {B e s n : Nat} {v : Value} {xs : List Value} (h : u.ownsRow B e s v n xs) : ∃ a c, v = .slice a n c := by
 obtain ⟨_, ⟨rfl, rfl⟩ | ⟨g, cap, cur, rfl, -⟩⟩ := h
 ·exact ⟨_, _, rfl⟩
 ·exact ⟨_, _, rfl⟩
theorem rnk_start {w w1 w4 : World} {n1 g1 g2 c1 c2 h1 h2 d1 d2 : Nat} {q : Ps} (T : TypeId) (hb1 : Below w.heap.size w w1) (hi : It3 w1 w.heap.size (q, ⟨g1, g2, n1, c1, c2⟩)) (X : World) (hX : X = (w1.alloc (.cells #[.slice (some ⟨g1, 0, none⟩) n1 c1, .slice (some ⟨g2, 0, none⟩) 2 c2, .int .i64 q.pl] 32)).alloc (.cells #[] 2)) (hb4 : Below X.heap.size X w4)
  (ho : PosO w4 X.heap.size (some ⟨h1, 0, none⟩) (some ⟨h2, 0, none⟩) h1 h2 n1 2 q.xs q.ys) (l1 : h1 < w4.heap.size) (l2 : h2 < w4.heap.size) (k1 : n1 ≤ d1) (k2 : 2 ≤ d2) :
  RnK w w4.heap.size n1 (.slice (some ⟨w1.heap.size, 0, none⟩) 1 1) (.slice (some ⟨w1.heap.size + 1, 0, none⟩) 0 0) [(q, ⟨g1, g2, n1, c1, c2⟩)] [] h1 h2 d1 d2 q (w4.alloc (.cells #[.slice (some ⟨h1, 0, none⟩) n1 d1, .slice (some ⟨h2, 0, none⟩) 2 d2, .int .i64 q.pl] T)) := by
 have hs : X.heap.size = w1.heap.size + 1 + 1 := by rw [hX]; simp
 have hXb : Below w1.heap.size w1 X := by rw [hX]; exact Below.alloc (al1 _ _) (by simp) _
 have hb5 : Below w1.heap.size w1 (w4.alloc (.cells #[.slice (some ⟨h1, 0, none⟩) n1 d1, .slice (some ⟨h2, 0, none⟩) 2 d2, .int .i64 q.pl] T)) := (hXb.trans (hb4.mono hXb.size)).alloc (by have := hb4.size; omega) _
 have o1 := own_one3 w1 (q, ⟨g1, g2, n1, c1, c2⟩) w.heap.size hb1.size
 have o2 := World.ownsRow_made (base := w.heap.size) (e := 2) (size := 1) (w1.alloc (.cells #[.slice (some ⟨g1, 0, none⟩) n1 c1, .slice (some ⟨g2, 0, none⟩) 2 c2, .int .i64 q.pl] 32)) #[] 0 (by have := hb1.size; simp; omega) (by decide) rfl
 rw [World.size_alloc, ← hX] at o2
 have o1' := own_keepS o1 (al1 _ (.cells #[] 2))
 rw [← hX] at o1'
 have hs4 := hb4.size
 have hm1 : g1 < w1.heap.size := hi.l1
 have hm2 : g2 < w1.heap.size := hi.l2
 have hm3 : w.heap.size ≤ g1 := hi.o.o1.new
 have hm4 : w.heap.size ≤ g2 := hi.o.o2.new
 have n1' := ho.o1.new
 have n2' := ho.o2.new
 have hz := hb1.size
 refine ⟨⟨own_keepS (own_keepS o1' hb4) (al1 _ _), fun y hy => ?_, fun y hy i hh => ?_, List.pairwise_singleton _ _⟩, own_keepS (own_keepS o2 hb4) (al1 _ _), po_new _ _ _ _ _ _ _ w4 T, fun o => by go_simp, (ho.below (al1 _ _)).lower (by omega), by simp; omega, by simp; omega, k1, k2, by omega, fun i hh => ?_, fun i j hh hj => ?_, fun j hj => ?_, fun y hy => ⟨fun j hj => ?_, ?_⟩, ⟨by omega, by omega⟩, hb1.trans (hb5.mono hz)⟩
 ·rw [List.mem_singleton] at hy
  subst hy
  exact hi.below hb5
 ·rw [List.mem_singleton] at hy
  subst hy
  have hi' : w1.heap.size = i := by simpa [Value.ownBlock] using hh
  simp only
  omega
 ·have hi' : w1.heap.size = i := by simpa [Value.ownBlock] using hh
  omega
 ·have hi' : w1.heap.size = i := by simpa [Value.ownBlock] using hh
  have hj' : w1.heap.size + 1 = j := by simpa [Value.ownBlock] using hj
  omega
 ·have hj' : w1.heap.size + 1 = j := by simpa [Value.ownBlock] using hj
  omega
 ·rw [List.mem_singleton] at hy
  subst hy
  have hj' : w1.heap.size + 1 = j := by simpa [Value.ownBlock] using hj
  simp only
  omega
 ·rw [List.mem_singleton] at hy
  subst hy
  simp only
  omega
theorem l08Run_any (p s c l : Int) (st sk re fe ag : Bool) (p1 p2 : Option Addr) (pn1 pc1 pc2 : Nat) (pp : Int) (xs ys ms : List Int) (gb : Nat) (mm : Option Addr) (mn mc : Nat) (w : World) (hr : RuAt w gb p s c l st sk re fe ag) (hq : Po9 w gb p1 p2 pn1 pc1 2 pc2 pp) (h : PosR w p1 p2 pn1 2 xs ys) (hm : RowN w mm ms) (lm : ms.length = mn) (hmn : mn ≤ 1000000) (hk : OkQ p s c l st ag pn1 ⟨pp, xs, ys⟩) :
  Calls Try.prog 41 #[.pointer (some ⟨gb, 0, none⟩), .pointer (some ⟨gb, 9, none⟩), .slice mm mn mc] w (RunP (stp p c l st sk re fe ag) ⟨pp, xs, ys⟩ ms w) := by
 obtain ⟨i0, hi, hz0, hz1, hz2⟩ := info_parts infoPo
 obtain ⟨i1, hi1, hy0, hy1, hy2⟩ := info_parts infoN
 obtain ⟨okr, ok2, -, -, -⟩ := okP_parts hk.ok
 have hp2 := (okR_bd okr).1
 have ne1 : xs ≠ [] := by intro e; have h1 := hk.l1; simp only at h1; rw [e] at h1; simp at h1; omega
 have ne2 : ys ≠ [] := by intro e; have h1 := hk.l2; simp only at h1; rw [e] at h1; simp at h1
 have HQ0 := Lib.hid hq
 have HR0 := Lib.hid hr
 have H := Lib.hid h
 have HM := Lib.hid hm
 have Hlm := Lib.hid lm
 have HK := Lib.hid hk
 have NE := Lib.hid (And.intro ne1 ne2)
 clear okr ok2 hp2 ne1 ne2 hq h hm lm hk hr
 go_enter Try.func41, Try.ntmps41
 go_wp2_with fail
 refine (l04Own9_any p1 p2 pn1 pc1 2 pc2 pp xs ys gb w HQ0.out H.out NE.out.1 NE.out.2).mono ?_
 rintro e w1 ⟨g1, c1, g2, c2, rfl, ho, l1, l2, k1, k2, hb⟩
 have hb1 := Lib.hid hb
 have O1 := Lib.hid (show It3 w1 w.heap.size (⟨pp, xs, ys⟩, ⟨g1, g2, pn1, c1, c2⟩) from ⟨ho, l1, l2, k1, k2⟩)
 clear ho l1 l2 k1 k2 hb
 go_wp2_with fail
 obtain ⟨X, hX⟩ : ∃ X, X = (w1.alloc (.cells #[.slice (some ⟨g1, 0, none⟩) pn1 c1, .slice (some ⟨g2, 0, none⟩) 2 c2, .int .i64 pp] 32)).alloc (.cells #[] 2) := ⟨_, rfl⟩
 rw [← hX]
 have hbX : Below w.heap.size w X := by rw [hX]; exact hb1.out.trans ((Below.alloc (al1 _ _) (by simp) _).mono hb1.out.size)
 refine (l04Own9_any p1 p2 pn1 pc1 2 pc2 pp xs ys gb X (HQ0.out.below hbX) (H.out.below hbX) NE.out.1 NE.out.2).mono ?_
 rintro e w4 ⟨h1, d1, h2, d2, rfl, ho, l1, l2, k1, k2, hb⟩
 have HK0 := Lib.hid (rnk_start (w := w) 32 hb1.out O1.out X hX hb ho l1 l2 k1 k2)
 have HR := Lib.hid (HR0.out.below HK0.out.be)
 clear hb1 O1 hX hbX ho l1 l2 k1 k2 hb
 go_wp2_with fail
 generalize w4.alloc (.cells #[.slice (some ⟨h1, 0, none⟩) pn1 d1, .slice (some ⟨h2, 0, none⟩) 2 d2, .int .i64 pp] 32) = w5 at *
 generalize hnb : w4.heap.size = nb at *
 clear hnb
 generalize hv1 : (Value.slice (some ⟨w1.heap.size, 0, none⟩) 1 1) = v1 at *
 generalize hv2 : (Value.slice (some ⟨w1.heap.size + 1, 0, none⟩) 0 0) = v2 at *
 clear hv1 hv2
 go_loopw [8, 9, 11] (fun v1 v2 i wr => ∃ k : Nat, i = .int .i64 k ∧ k ≤ mn ∧ RnJ w gb nb pn1 p s c l st sk re fe ag (stp p c l st sk re fe ag) ⟨pp, xs, ys⟩ ms k v1 v2 wr) (fun _ _ i _ => mn - (intOf i).toNat)
 case atStart => exact ⟨0, rfl, Nat.zero_le _, HR.out, _, [], h1, h2, d1, d2, HK0.out, rfl, rfl, rfl⟩
 case round =>
  clear HK0 HR
  obtain ⟨k, rfl, hkn, hru, L, rs, h1', h2', d1', d2', hK, hrun, hmap, hlen⟩ := hrel
  have HJ := Lib.hid hK
  have HRu := Lib.hid hru
  have HRun := Lib.hid (And.intro hrun (And.intro hmap hlen))
  clear hK hru hrun hmap hlen
  by_cases hlt : k < mn
  ·obtain ⟨m, hm⟩ : ∃ m, ms[k]? = some m := ⟨ms[k]'(by rw [Hlm.out]; exact hlt), List.getElem?_eq_getElem _⟩
   have hne : ms ≠ [] := by intro e; subst e; cases hm
   obtain ⟨ga, oa, hga, hgl, hca⟩ := (HM.out.below HJ.out.be).2.resolve_left hne
   have y1 := hca k _ hm
   subst hga
   have HMk := Lib.hid hm
   have k0 : (0 : Int) ≤ (k : Int) := by omega
   have kq : (k : Int) < (mn : Int) := by omega
   have hok := run_ok HK.out HRun.out.1
   have HOk := Lib.hid hok
   have hMk := l07Make_any p s c l st sk re fe ag (some ⟨h1', 0, none⟩) (some ⟨h2', 0, none⟩) pn1 d1' 2 d2' (lastP ⟨pp, xs, ys⟩ rs).pl (lastP ⟨pp, xs, ys⟩ rs).xs (lastP ⟨pp, xs, ys⟩ rs).ys gb nb m wr HRu.out HJ.out.po HJ.out.o.r true hok.ok
   have hst : stp p c l st sk re fe ag (lastP ⟨pp, xs, ys⟩ rs) m = (lgV c l p (lastP ⟨pp, xs, ys⟩ rs).pl fe (lastP ⟨pp, xs, ys⟩ rs).xs (mvV true p (lastP ⟨pp, xs, ys⟩ rs).pl st sk re (lastP ⟨pp, xs, ys⟩ rs).xs (lastP ⟨pp, xs, ys⟩ rs).ys m)).map (r7V c l p (lastP ⟨pp, xs, ys⟩ rs).pl ag (lastP ⟨pp, xs, ys⟩ rs).ys m) := rfl
   have HMM := Lib.hid hMk
   clear hm hne hgl hca hok hMk
   cases hl : lgV c l p (lastP ⟨pp, xs, ys⟩ rs).pl fe (lastP ⟨pp, xs, ys⟩ rs).xs (mvV true p (lastP ⟨pp, xs, ys⟩ rs).pl st sk re (lastP ⟨pp, xs, ys⟩ rs).xs (lastP ⟨pp, xs, ys⟩ rs).ys m) with
   | none =>
    have d := lg_none (s := s) (ag := ag) HOk.out.ok HOk.out.l1 hl
    rw [hl] at HMM hst
    have HNo := Lib.hid (runO_no HMk.out HRun.out.1 hst)
    generalize lgC c l p (lastP ⟨pp, xs, ys⟩ rs).pl fe (lastP ⟨pp, xs, ys⟩ rs).xs (mvCd true p (lastP ⟨pp, xs, ys⟩ rs).pl st sk re (lastP ⟨pp, xs, ys⟩ rs).xs (lastP ⟨pp, xs, ys⟩ rs).ys m) (mvV true p (lastP ⟨pp, xs, ys⟩ rs).pl st sk re (lastP ⟨pp, xs, ys⟩ rs).xs (lastP ⟨pp, xs, ys⟩ rs).ys m) = cd at *
    clear hl hst
    go_wp2_with fail
    refine HMM.out.mono ?_
    rintro e w6 ⟨rfl, hb⟩
    have HJ6 := Lib.hid (HJ.out.below (Below.alloc hb hb.size (.cells #[.int .i64 0, .int .i64 0, .bool false, .slice none 0 0, .slice none 0 0, .int .i64 0] 94)))
    clear hb y1
    go_wp2_with fail
    go_ret2
    have hlg : (rs.map R7.gn).length = k := by rw [List.length_map]; exact HRun.out.2.2
    have hll : L.length = k + 1 := by have := congrArg List.length HRun.out.2.1; simp [HRun.out.2.2] at this; exact this
    refine ⟨_, _, L, rs.map R7.gn, rfl, HJ6.out.rs, HJ6.out.gn, by omega, by have := Hlm.out; omega, ?_, HJ6.out.be⟩
    unfold RunR
    rw [HNo.out]
    simp only
    have := Hlm.out
    omega
   | some m7 =>
    obtain ⟨r, hr⟩ : ∃ r, r = r7V c l p (lastP ⟨pp, xs, ys⟩ rs).pl ag (lastP ⟨pp, xs, ys⟩ rs).ys m m7 := ⟨_, rfl⟩
    rw [hl] at HMM hst
    have hc0 := (lg_some (cd := mvCd true p (lastP ⟨pp, xs, ys⟩ rs).pl st sk re (lastP ⟨pp, xs, ys⟩ rs).xs (lastP ⟨pp, xs, ys⟩ rs).ys m) hl).2
    rw [hc0] at HMM
    have HYes := Lib.hid (runO_yes HMk.out HRun.out.1 (hst.trans (congrArg some hr.symm)))
    have HMM2 : Hid (Calls Try.prog 60 #[.pointer (some ⟨gb, 0, none⟩), .pointer (some ⟨nb, 0, none⟩), .int .i64 m] wr fun e w' => ∃ g1 k1 g2 k2, e = .returned (.tuple #[.agg #[.int .i64 r.mv, .int .i64 r.gn, .bool r.ag, .slice (some ⟨g1, 0, none⟩) pn1 k1, .slice (some ⟨g2, 0, none⟩) 2 k2, .int .i64 r.nx], .int .i64 0]) ∧ PosO w' wr.heap.size (some ⟨g1, 0, none⟩) (some ⟨g2, 0, none⟩) g1 g2 pn1 2 r.xs r.ys ∧ g1 < w'.heap.size ∧ g2 < w'.heap.size ∧ pn1 ≤ k1 ∧ 2 ≤ k2 ∧ Below wr.heap.size wr w') := Lib.hid (by rw [hr]; exact HMM.out)
    have HOr := Lib.hid (stp_ok HOk.out (hst.trans (congrArg some hr.symm)))
    clear hl hst hc0 HMM hr
    have hrne1 : r.xs ≠ [] := by intro e; have h3 := HOr.out.l1; have h4 := HK.out.l1; have h5 := NE.out.1; unfold R7.ps at h3; simp only at h3 h4; rw [e] at h3; simp at h3; exact h5 (List.eq_nil_of_length_eq_zero (by omega))
    have hrne2 : r.ys ≠ [] := by intro e; have h3 := HOr.out.l2; unfold R7.ps at h3; simp only at h3; rw [e] at h3; simp at h3
    have HNE := Lib.hid (And.intro hrne1 hrne2)
    clear hrne1 hrne2
    go_wp2_with fail
    refine HMM2.out.mono ?_
    rintro e w6 ⟨g5, c5, g6, c6, rfl, ho, l5, l6, k5, k6, hb⟩
    have hsz := hb.size
    have hnbl : nb < wr.heap.size := HJ.out.po.1
    have HNow0 := (HJ.out.below hb).now (H0 := wr.heap.size) (q' := r.ps) HJ.out.be.size (fun i hi => (own_lt HJ.out.rs.own i hi).2) (fun i hi => (own_lt HJ.out.gn i hi).2) hnbl ho l5 l6 k5 k6
    have HNow : Hid (RnK w nb pn1 u8 u9 L (rs.map R7.gn) g5 g6 c5 c6 r.ps ((((w6.setCell ⟨nb, 0, none⟩ (.slice (some ⟨g5, 0, none⟩) pn1 c5)).setCell ⟨nb, 1, none⟩ (.slice (some ⟨g6, 0, none⟩) 2 c6)).setCell ⟨nb, 2, none⟩ (.int .i64 r.nx)).alloc (.cells #[.int .i64 r.mv, .int .i64 r.gn, .bool r.ag, .slice (some ⟨g5, 0, none⟩) pn1 c5, .slice (some ⟨g6, 0, none⟩) 2 c6, .int .i64 r.nx] 94))) := Lib.hid (HNow0.below (al1 _ (.cells #[.int .i64 r.mv, .int .i64 r.gn, .bool r.ag, .slice (some ⟨g5, 0, none⟩) pn1 c5, .slice (some ⟨g6, 0, none⟩) 2 c6, .int .i64 r.nx] 94)))
    have HRu6 := Lib.hid (HRu.out.below (Below.alloc hb hb.size (.cells #[.int .i64 r.mv, .int .i64 r.gn, .bool r.ag, .slice (some ⟨g5, 0, none⟩) pn1 c5, .slice (some ⟨g6, 0, none⟩) 2 c6, .int .i64 r.nx] 94)))
    obtain ⟨-, z0, z1, z2⟩ := HJ.out.po.below hb
    have f0 := (hb.frozen (p := ⟨nb, 0, none⟩) hnbl).trans (HJ.out.fr 0)
    have f1 := (hb.frozen (p := ⟨nb, 1, none⟩) hnbl).trans (HJ.out.fr 1)
    have f2 := (hb.frozen (p := ⟨nb, 2, none⟩) hnbl).trans (HJ.out.fr 2)
    have nb6 : nb < w6.heap.size := by omega
    clear ho l5 l6 k5 k6 hb HNow0 y1
    go_wp2_with fail
    have hgc : (((((w6.setCell ⟨nb, 0, none⟩ (.slice (some ⟨g5, 0, none⟩) pn1 c5)).setCell ⟨nb, 1, none⟩ (.slice (some ⟨g6, 0, none⟩) 2 c6)).setCell ⟨nb, 2, none⟩ (.int .i64 r.nx)).alloc (.cells #[.int .i64 r.mv, .int .i64 r.gn, .bool r.ag, .slice (some ⟨g5, 0, none⟩) pn1 c5, .slice (some ⟨g6, 0, none⟩) 2 c6, .int .i64 r.nx] 94)).cell? ⟨w6.heap.size, 1, none⟩ = some (.int .i64 r.gn)) := by go_simp
    have hW : (((((w6.setCell ⟨nb, 0, none⟩ (.slice (some ⟨g5, 0, none⟩) pn1 c5)).setCell ⟨nb, 1, none⟩ (.slice (some ⟨g6, 0, none⟩) 2 c6)).setCell ⟨nb, 2, none⟩ (.int .i64 r.nx)).alloc (.cells #[.int .i64 r.mv, .int .i64 r.gn, .bool r.ag, .slice (some ⟨g5, 0, none⟩) pn1 c5, .slice (some ⟨g6, 0, none⟩) 2 c6, .int .i64 r.nx] 94)).heap.size) = w6.heap.size + 1 := by simp
    generalize hW' : ((((w6.setCell ⟨nb, 0, none⟩ (.slice (some ⟨g5, 0, none⟩) pn1 c5)).setCell ⟨nb, 1, none⟩ (.slice (some ⟨g6, 0, none⟩) 2 c6)).setCell ⟨nb, 2, none⟩ (.int .i64 r.nx)).alloc (.cells #[.int .i64 r.mv, .int .i64 r.gn, .bool r.ag, .slice (some ⟨g5, 0, none⟩) pn1 c5, .slice (some ⟨g6, 0, none⟩) 2 c6, .int .i64 r.nx] 94)) = W6 at *
    have Hgc := Lib.hid (And.intro hgc (show w6.heap.size < W6.heap.size by omega))
    clear hW' hW hgc z0 z1 z2 f0 f1 f2
    refine (l04Own_any (some ⟨g5, 0, none⟩) (some ⟨g6, 0, none⟩) pn1 c5 2 c6 r.nx r.xs r.ys nb W6 HNow.out.po HNow.out.o.r HNE.out.1 HNE.out.2).mono ?_
    rintro e w7 ⟨g3, c3, g4, c4, rfl, ho, l3, l4, k3, k4, hb⟩
    have HIt := Lib.hid (show It3 w7 w.heap.size (r.ps, ⟨g3, g4, pn1, c3, c4⟩) from ⟨ho.lower HNow.out.be.size, l3, l4, k3, k4⟩)
    have hx3 := ho.o1.new
    have hx4 := ho.o2.new
    have HN7 := Lib.hid (HNow.out.below hb)
    have Hg7 := Lib.hid ((hb.cell (p := ⟨w6.heap.size, 1, none⟩) Hgc.out.2).trans Hgc.out.1)
    have hs7 := hb.size
    have hl6 := Hgc.out.2
    have hln : L.length = k + 1 := by have := congrArg List.length HRun.out.2.1; simp [HRun.out.2.2] at this; exact this
    have Hln := Lib.hid hln
    have hlg : (rs.map R7.gn).length = k := by rw [List.length_map]; exact HRun.out.2.2
    have Hlg := Lib.hid hlg
    have hbase7 := HN7.out.be.size
    clear ho l3 l4 k3 k4 hb hln hlg
    go_upto_region 12 with (at_builtin; refine wpList_append_lies _ rfl _ _ 68 rfl w.heap.size 32 i0 (.agg #[.slice none 0 0, .slice none 0 0, .int .i64 0]) 3 56 Try.underlying68 hi hz0 hz1 hz2 rfl (by decide) u8 L.length (flat3 L) rfl (own_keepS HN7.out.rs.own (al1 _ _)) ⟨w7.heap.size, 0, none⟩ 1 1 (cells3 (r.ps, ⟨g3, g4, pn1, c3, c4⟩)) rfl rfl (cells3_news w7 32 (r.ps, ⟨g3, g4, pn1, c3, c4⟩) w7.heap.size rfl) (cells3_one _) (by decide) (by have := Hln.out; unfold maxLen; omega) (by have := Hln.out; omega) (by simp; omega) _ rfl ?_; intro g cap w8 hown8 hgrow8 hat8 hlt8)
    have HN8 := Lib.hid (HN7.out.push1 (H0 := W6.heap.size) HIt.out (fun y hy => ⟨(HNow.out.rs.it y hy).l1, (HNow.out.rs.it y hy).l2⟩) (fun i hi => (own_lt HNow.out.rs.own i hi).2) (fun i hi => (own_lt HNow.out.gn i hi).2) HNow.out.po.1 hx3 hx4 (al1 w7 _) hown8 hgrow8 (by simpa using hat8))
    have hg8 : w8.cell? ⟨w6.heap.size, 1, none⟩ = some (.int .i64 r.gn) := (World.cell?_of_block (a := ⟨w6.heap.size, 1, none⟩) (hgrow8.block w6.heap.size (by simp; omega) (fun e => by have := (own_lt HJ.out.rs.own _ e.symm).2; omega))).trans (((al1 w7 _).cell (p := ⟨w6.heap.size, 1, none⟩) (by show w6.heap.size < w7.heap.size; omega)).trans Hg7.out)
    have hbase8 := HN8.out.be.size
    clear hown8 hgrow8 hat8 hlt8 HN7 HNow
    go_wp2_with (at_builtin; refine wpList_append_lies _ rfl _ _ 24 rfl w.heap.size 2 i1 (.int .i64 0) 1 8 Try.underlying24 hi1 hy0 hy1 hy2 rfl (by decide) u9 (rs.map R7.gn).length (nvs (rs.map R7.gn)) rfl (own_keepS HN8.out.gn (al1 _ _)) ⟨w8.heap.size, 0, none⟩ 1 1 (nvs [r.gn]) rfl (by simp [nvs]) (row_news (row_oneL w8 r.gn 2)) (nvs_cell _) (by decide) (by have := Hlg.out; unfold maxLen; omega) (by have := Hlg.out; omega) (by simp; omega) _ rfl ?_; intro g' cap' w9 hown9 hgrow9 hat9 hlt9)
    have HN9 := Lib.hid ((HN8.out.below (al1 w8 _)).push2 hown9 hgrow9 (by simpa using hat9))
    clear hown9 hgrow9 hat9 hlt9 HN8 hg8
    go_wp2_with fail
    go_roundw
    case rel =>
     refine ⟨k + 1, by go_num, by omega, HR0.out.below HN9.out.be, L ++ [(r.ps, ⟨g3, g4, pn1, c3, c4⟩)], rs ++ [r], g5, g6, c5, c6, ?_, HYes.out, ?_, ?_⟩
     ·rw [List.map_append, lastP_snoc]
      have e := HN9.out
      rw [List.length_map] at e
      exact e
     ·rw [List.map_append, HRun.out.2.1]
      simp
     ·rw [List.length_append, HRun.out.2.2]
      rfl
    case measure => simp [intOf]; omega
  ·obtain rfl : k = mn := by omega
   go_wp2_with fail
   go_ret2
   have hlg : (rs.map R7.gn).length = k := by rw [List.length_map]; exact HRun.out.2.2
   have hll : L.length = k + 1 := by have := congrArg List.length HRun.out.2.1; simp [HRun.out.2.2] at this; exact this
   refine ⟨_, _, L, rs.map R7.gn, rfl, HJ.out.rs, HJ.out.gn, by omega, by have := Hlm.out; omega, ?_, HJ.out.be⟩
   unfold RunR
   have hrun := HRun.out.1
   rw [List.take_of_length_le (Nat.le_of_eq Hlm.out)] at hrun
   rw [hrun]
   exact ⟨HRun.out.2.1, rfl⟩
/- Ok8 -/
def runB (f : Ps → Int → Option R7) (q : Ps) (ms : List Int) (bp : Int) (nx ny : List Int) : Bool :=
 match runO f q ms with
 | none => false
 | some rs => sameB (lastP q rs).xs nx (lastP q rs).ys ny (lastP q rs).pl bp
def okG (p s c l : Int) (st sk re fe ag : Bool) (n1 n2 : Nat) (pp : Int) (xs ys ms : List Int) (bp : Int) (nx ny : List Int) (rg : Int) : Bool :=
 okP (okR p s c l st ag) p n1 n2 pp xs ys && decide (ms.length ≤ 120) && (decide (-1 ≤ rg) && decide (rg ≤ 1)) && runB (stp p c l st sk re fe ag) ⟨pp, xs, ys⟩ ms bp nx ny
theorem last_at (q : Ps) : ∀ (rs : List R7), (q :: rs.map R7.ps)[rs.length]? = some (lastP q rs)
 | [] => rfl
 | r :: rs => by
  have := last_at r.ps rs
  simpa [lastP] using this
def BelP (v : Value) (w : World) (e : Ending) (w' : World) : Prop := e = .returned v ∧ Below w.heap.size w w'
def GmB (w : World) (gb : Nat) (Jp Js Jc Jl : Int) (Jst Jsk Jre Jfe Jag : Bool) (Ja1 Ja2 : Option Addr) (Jan1 Jac1 Jan2 Jac2 : Nat) (Jap : Int) (Jm : Option Addr) (Jmn Jmc : Nat) (Jb1 Jb2 : Option Addr) (Jbn1 Jbc1 Jbn2 Jbc2 : Nat) (Jbp Jrg : Int) (u : World) : Prop := GmAt u gb Jp Js Jc Jl Jst Jsk Jre Jfe Jag Ja1 Ja2 Jan1 Jac1 Jan2 Jac2 Jap Jm Jmn Jmc Jb1 Jb2 Jbn1 Jbc1 Jbn2 Jbc2 Jbp Jrg ∧ Below w.heap.size w u
theorem GmB.below {w u v : World} {gb : Nat} {Jp Js Jc Jl : Int} {Jst Jsk Jre Jfe Jag : Bool} {Ja1 Ja2 : Option Addr} {Jan1 Jac1 Jan2 Jac2 : Nat} {Jap : Int} {Jm : Option Addr} {Jmn Jmc : Nat} {Jb1 Jb2 : Option Addr} {Jbn1 Jbc1 Jbn2 Jbc2 : Nat} {Jbp Jrg : Int} (h : GmB w gb Jp Js Jc Jl Jst Jsk Jre Jfe Jag Ja1 Ja2 Jan1 Jac1 Jan2 Jac2 Jap Jm Jmn Jmc Jb1 Jb2 Jbn1 Jbc1 Jbn2 Jbc2 Jbp Jrg u) (k : Below u.heap.size u v) : GmB w gb Jp Js Jc Jl Jst Jsk Jre Jfe Jag Ja1 Ja2 Jan1 Jac1 Jan2 Jac2 Jap Jm Jmn Jmc Jb1 Jb2 Jbn1 Jbc1 Jbn2 Jbc2 Jbp Jrg v := ⟨h.1.below k, h.2.trans (k.mono h.2.size)⟩
theorem GmB.drew {w u : World} {gb : Nat} {Jp Js Jc Jl : Int} {Jst Jsk Jre Jfe Jag : Bool} {Ja1 Ja2 : Option Addr} {Jan1 Jac1 Jan2 Jac2 : Nat} {Jap : Int} {Jm : Option Addr} {Jmn Jmc : Nat} {Jb1 Jb2 : Option Addr} {Jbn1 Jbc1 Jbn2 Jbc2 : Nat} {Jbp Jrg : Int} (h : GmB w gb Jp Js Jc Jl Jst Jsk Jre Jfe Jag Ja1 Ja2 Jan1 Jac1 Jan2 Jac2 Jap Jm Jmn Jmc Jb1 Jb2 Jbn1 Jbc1 Jbn2 Jbc2 Jbp Jrg u) : GmB w gb Jp Js Jc Jl Jst Jsk Jre Jfe Jag Ja1 Ja2 Jan1 Jac1 Jan2 Jac2 Jap Jm Jmn Jmc Jb1 Jb2 Jbn1 Jbc1 Jbn2 Jbc2 Jbp Jrg u.drew := h.below (Below.refl _ _).drew
theorem slice_some {u : World} {B e s n : Nat} {v : Value} {xs : List Value} (h : u.ownsRow B e s v n xs) (hn : 0 < n) : ∃ g c, v = .slice (some ⟨g, 0, none⟩) n c := by
 obtain ⟨_, ⟨rfl, rfl⟩ | ⟨g, cap, cur, rfl, -⟩⟩ := h
 ·omega
 ·exact ⟨_, _, rfl⟩
theorem gm_mv {w u : World} {gb : Nat} {Jp Js Jc Jl : Int} {Jst Jsk Jre Jfe Jag : Bool} {Ja1 Ja2 : Option Addr} {Jan1 Jac1 Jan2 Jac2 : Nat} {Jap : Int} {Jm : Option Addr} {Jmn Jmc : Nat} {Jb1 Jb2 : Option Addr} {Jbn1 Jbc1 Jbn2 Jbc2 : Nat} {Jbp Jrg : Int} (h : GmB w gb Jp Js Jc Jl Jst Jsk Jre Jfe Jag Ja1 Ja2 Jan1 Jac1 Jan2 Jac2 Jap Jm Jmn Jmc Jb1 Jb2 Jbn1 Jbc1 Jbn2 Jbc2 Jbp Jrg u) : (gb < u.heap.size ∧ u.cell? ⟨gb, 12, none⟩ = some (.slice Jm Jmn Jmc)) ∧ Below w.heap.size w u := ⟨⟨h.1.1, h.1.2.2.2.2.2.2.2.2.2.2.2.2.2.1⟩, h.2⟩
theorem l08Ok_any (Jp Js Jc Jl : Int) (Jst Jsk Jre Jfe Jag : Bool) (Ja1 Ja2 : Option Addr) (Jan1 Jac1 Jan2 Jac2 : Nat) (Jap : Int) (Jm : Option Addr) (Jmn Jmc : Nat) (Jb1 Jb2 : Option Addr) (Jbn1 Jbc1 Jbn2 Jbc2 : Nat) (Jbp Jrg : Int) (sx sy ms nx ny : List Int) (gb : Nat) (w : World) (hg : GmAt w gb Jp Js Jc Jl Jst Jsk Jre Jfe Jag Ja1 Ja2 Jan1 Jac1 Jan2 Jac2 Jap Jm Jmn Jmc Jb1 Jb2 Jbn1 Jbc1 Jbn2 Jbc2 Jbp Jrg) (h : GamR w Ja1 Ja2 Jan1 Jan2 Jm Jmn Jb1 Jb2 Jbn1 Jbn2 sx sy ms nx ny) :
  Calls Try.prog 32 #[.pointer (some ⟨gb, 0, none⟩)] w (BelP (.bool (okG Jp Js Jc Jl Jst Jsk Jre Jfe Jag Jan1 Jan2 Jap sx sy ms Jbp nx ny Jrg)) w) := by
 obtain ⟨_, m0, m1, m2, m3, m4, m5, m6, m7, m8, m9, m10, m11, m12, m13, m14, m15, m16⟩ := hg
 have hlm := h.lm
 have hmx : Jmn ≤ 1000000000000 := by rw [← h.lm]; exact h.m.1
 rcases hk : okP (okR Jp Js Jc Jl Jst Jag) Jp Jan1 Jan2 Jap sx sy with _ | _
 ·have HO : Hid (∀ q, Calls Try.prog 36 #[.pointer (some ⟨gb, 0, none⟩), .pointer (some ⟨gb, 9, none⟩)] (w.drewN q) (Still (.bool false) (w.drewN q))) := Lib.hid (fun q => by
   have k := fun o => Below.cell (below_dn (Below.refl w.heap.size w) q) (p := ⟨gb, o, none⟩) (by assumption)
   have := l04Ok9_any Jp Js Jc Jl Jst Jsk Jre Jfe Jag Ja1 Ja2 Jan1 Jac1 Jan2 Jac2 Jap sx sy gb gb (w.drewN q) ((k _).trans m0) ((k _).trans m1) ((k _).trans m2) ((k _).trans m3) ((k _).trans m4) ((k _).trans m5) ((k _).trans m6) ((k _).trans m7) ((k _).trans m8) ((k _).trans m9) ((k _).trans m10) ((k _).trans m11) (h.s.drewN q)
   rwa [hk] at this)
  have e : okG Jp Js Jc Jl Jst Jsk Jre Jfe Jag Jan1 Jan2 Jap sx sy ms Jbp nx ny Jrg = false := by unfold okG; rw [hk]; rfl
  rw [e]
  clear e hk hlm hmx h
  go_enter Try.func32, Try.ntmps32
  go_wp2_with fail
  go_quiet ((go_at_call 36; with_reducible exact quiet_s (HO.out _) ⟨_, rfl⟩))
  go_wp2_with fail
  go_ret
  exact ⟨rfl, by first | exact Below.refl _ _ | exact below_dn (Below.refl _ _) _⟩
 ·have HO : Hid (∀ q, Calls Try.prog 36 #[.pointer (some ⟨gb, 0, none⟩), .pointer (some ⟨gb, 9, none⟩)] (w.drewN q) (Still (.bool true) (w.drewN q))) := Lib.hid (fun q => by
   have k := fun o => Below.cell (below_dn (Below.refl w.heap.size w) q) (p := ⟨gb, o, none⟩) (by assumption)
   have := l04Ok9_any Jp Js Jc Jl Jst Jsk Jre Jfe Jag Ja1 Ja2 Jan1 Jac1 Jan2 Jac2 Jap sx sy gb gb (w.drewN q) ((k _).trans m0) ((k _).trans m1) ((k _).trans m2) ((k _).trans m3) ((k _).trans m4) ((k _).trans m5) ((k _).trans m6) ((k _).trans m7) ((k _).trans m8) ((k _).trans m9) ((k _).trans m10) ((k _).trans m11) (h.s.drewN q)
   rwa [hk] at this)
  have Hlm := Lib.hid hlm
  clear hlm
  by_cases hbig : 120 < (Jmn : Int)
  ·have e : okG Jp Js Jc Jl Jst Jsk Jre Jfe Jag Jan1 Jan2 Jap sx sy ms Jbp nx ny Jrg = false := by unfold okG; rw [hk, decide_eq_false (show ¬ ms.length ≤ 120 by have := Hlm.out; omega)]; rfl
   rw [e]
   clear e hk hmx h
   go_enter Try.func32, Try.ntmps32
   go_wp2_with fail
   go_quiet ((go_at_call 36; with_reducible exact quiet_s (HO.out _) ⟨_, rfl⟩))
   go_wp2_with fail
   go_ret
   exact ⟨rfl, by first | exact Below.refl _ _ | exact below_dn (Below.refl _ _) _⟩
  ·rcases hrg : (decide (-1 ≤ Jrg) && decide (Jrg ≤ 1)) with _ | _
   ·have e : okG Jp Js Jc Jl Jst Jsk Jre Jfe Jag Jan1 Jan2 Jap sx sy ms Jbp nx ny Jrg = false := by unfold okG; rw [hrg]; simp
    rw [e]
    have Hrg := Lib.hid hrg
    clear e hk hmx h hrg
    go_enter Try.func32, Try.ntmps32
    go_wp2_with fail
    go_quiet ((first | (go_at_call 36; with_reducible exact quiet_s (HO.out _) ⟨_, rfl⟩) | (go_at_call 47; with_reducible exact quiet_w (in_b _ _ _ _ Hrg.out _) ⟨_, rfl⟩)))
    go_wp2_with fail
    go_ret
    exact ⟨rfl, by first | exact Below.refl _ _ | exact below_dn (Below.refl _ _) _⟩
   ·have e : okG Jp Js Jc Jl Jst Jsk Jre Jfe Jag Jan1 Jan2 Jap sx sy ms Jbp nx ny Jrg = runB (stp Jp Jc Jl Jst Jsk Jre Jfe Jag) ⟨Jap, sx, sy⟩ ms Jbp nx ny := by unfold okG; rw [hk, hrg, decide_eq_true (show ms.length ≤ 120 by have := Hlm.out; omega)]; simp
    rw [e]
    obtain ⟨-, -, e2, -, -⟩ := okP_parts hk
    subst e2
    have HG := Lib.hid (show GmAt w gb Jp Js Jc Jl Jst Jsk Jre Jfe Jag Ja1 Ja2 Jan1 Jac1 2 Jac2 Jap Jm Jmn Jmc Jb1 Jb2 Jbn1 Jbc1 Jbn2 Jbc2 Jbp Jrg from ⟨by assumption, m0, m1, m2, m3, m4, m5, m6, m7, m8, m9, m10, m11, m12, m13, m14, m15, m16⟩)
    have HOk := Lib.hid (show OkQ Jp Js Jc Jl Jst Jag Jan1 ⟨Jap, sx, sy⟩ from ⟨hk, h.s.l1, h.s.l2⟩)
    have H := Lib.hid h
    have Hrg := Lib.hid hrg
    clear e hk h hrg
    go_enter Try.func32, Try.ntmps32
    go_wp2_with fail
    go_quiet ((first | (go_at_call 36; with_reducible exact quiet_s (HO.out _) ⟨_, rfl⟩) | (go_at_call 47; with_reducible exact quiet_w (in_b _ _ _ _ Hrg.out _) ⟨_, rfl⟩)))
    go_upto_region 3 with fail
    have HS := Lib.hid (show GmB w gb Jp Js Jc Jl Jst Jsk Jre Jfe Jag Ja1 Ja2 Jan1 Jac1 2 Jac2 Jap Jm Jmn Jmc Jb1 Jb2 Jbn1 Jbc1 Jbn2 Jbc2 Jbp Jrg (w.drewN nq) from ⟨HG.out.below (below_dn (Below.refl _ _) nq), below_dn (Below.refl _ _) nq⟩)
    generalize w.drewN nq = wq at *
    have HRn : Hid (∀ u, GmB w gb Jp Js Jc Jl Jst Jsk Jre Jfe Jag Ja1 Ja2 Jan1 Jac1 2 Jac2 Jap Jm Jmn Jmc Jb1 Jb2 Jbn1 Jbc1 Jbn2 Jbc2 Jbp Jrg u → Calls Try.prog 41 #[.pointer (some ⟨gb, 0, none⟩), .pointer (some ⟨gb, 9, none⟩), .slice Jm Jmn Jmc] u (RunP (stp Jp Jc Jl Jst Jsk Jre Jfe Jag) ⟨Jap, sx, sy⟩ ms u)) := Lib.hid (fun u hu => l08Run_any Jp Js Jc Jl Jst Jsk Jre Jfe Jag Ja1 Ja2 Jan1 Jac1 Jac2 Jap sx sy ms gb Jm Jmn Jmc u hu.1.ru hu.1.p9 (H.out.s.below hu.2) (H.out.m.below hu.2) Hlm.out (by omega) HOk.out)
    have HTT : Hid (∀ u : World, GmB w gb Jp Js Jc Jl Jst Jsk Jre Jfe Jag Ja1 Ja2 Jan1 Jac1 2 Jac2 Jap Jm Jmn Jmc Jb1 Jb2 Jbn1 Jbc1 Jbn2 Jbc2 Jbp Jrg u → (gb < u.heap.size ∧ u.cell? ⟨gb, 12, none⟩ = some (.slice Jm Jmn Jmc)) ∧ Below w.heap.size w u) := Lib.hid (fun u h => gm_mv h)
    clear m0 m1 m2 m3 m4 m5 m6 m7 m8 m9 m10 m11 m12 m13 m14 m15 m16
    go_region_held3 (fun u => (gb < u.heap.size ∧ u.cell? ⟨gb, 12, none⟩ = some (.slice Jm Jmn Jmc)) ∧ Below w.heap.size w u) (first | with_reducible exact HTT.out _ HS.out | with_reducible exact HTT.out _ HS.out.drew)
     ((go_at_call 41; (with_reducible refine (HRn.out _ ?_).mono ?_); (first | with_reducible exact HS.out | with_reducible exact HS.out.drew); rintro e w6 ⟨v1, v2, L, gs, rfl, hL, hgn, hll, hle, hR, hb⟩; (first | with_reducible have HS := Lib.hid (HS.out.below hb) | with_reducible have HS := Lib.hid (HS.out.drew.below hb)); have HL := Lib.hid hL; have Hgn := Lib.hid hgn; have HR := Lib.hid (And.intro hR (And.intro hll hle)); clear hL hgn hR hb hll hle))
    obtain ⟨a2, c2, rfl⟩ := slice_own Hgn.out
    obtain ⟨g1, cp1, rfl⟩ := slice_some HL.out.own (by have := HR.out.2.1; omega)
    obtain ⟨hR, hll, hle⟩ := HR.out
    obtain ⟨hgb, m0, m1, m2, m3, m4, m5, m6, m7, m8, m9, m10, m11, m12, m13, m14, m15, m16⟩ := HS.out.1
    unfold RunR at hR
    cases hro : runO (stp Jp Jc Jl Jst Jsk Jre Jfe Jag) ⟨Jap, sx, sy⟩ ms with
    | none =>
     rw [hro] at hR
     have HRb : Hid (runB (stp Jp Jc Jl Jst Jsk Jre Jfe Jag) ⟨Jap, sx, sy⟩ ms Jbp nx ny = false) := Lib.hid (by unfold runB; rw [hro])
     have d : ((gs.length : Int) == (Jmn : Int)) = false := by
      have := Hlm.out
      simp only at hR
      simp
      omega
     have d2 : ¬ gs.length = Jmn := by
      have := Hlm.out
      simp only at hR
      omega
     have d3 : (gs.length == Jmn) = false := by simpa using d2
     generalize gs.length = n2 at *
     clear hR hll hle hro
     go_wp2_with fail
     go_quiet (fail)
     go_wp2_with fail
     go_ret
     rw [HRb.out]
     exact ⟨rfl, by first | exact HS.out.2 | exact below_dn HS.out.2 _⟩
    | some rs =>
     rw [hro] at hR
     obtain ⟨hR1, hR2⟩ := hR
     have hrl := runO_len hro
     have hgl : gs.length = Jmn := by rw [hR2, List.length_map, hrl]; exact Hlm.out
     obtain ⟨x, hx⟩ : ∃ x, L[Jmn]? = some x := ⟨L[Jmn]'(by omega), List.getElem?_eq_getElem _⟩
     have hxl : x.1 = lastP ⟨Jap, sx, sy⟩ rs := by
      have h1 := last_at ⟨Jap, sx, sy⟩ rs
      rw [← hR1, hrl, Hlm.out, List.getElem?_map, hx] at h1
      simpa using h1
     have HC := Lib.hid (fun o (ho : o < 3) => HL.out.cell hx ho)
     have HI := Lib.hid (HL.out.it x (List.mem_of_getElem? hx))
     have HRb : Hid (runB (stp Jp Jc Jl Jst Jsk Jre Jfe Jag) ⟨Jap, sx, sy⟩ ms Jbp nx ny = sameB x.1.xs nx x.1.ys ny x.1.pl Jbp) := Lib.hid (by unfold runB; rw [hro, hxl])
     rw [show L.length = Jmn + 1 by omega, hgl]
     clear hll hle hro hR1 hR2 hrl hgl hx hxl
     have HSm : Hid (∀ q o, o = Jmn * 3 → Calls Try.prog 48 #[.pointer (some ⟨g1, o, none⟩), .pointer (some ⟨gb, 13, none⟩)] (w6.drewN q) (Still (.bool (sameB x.1.xs nx x.1.ys ny x.1.pl Jbp)) (w6.drewN q))) := Lib.hid (fun q o ho => by
      subst ho
      have hgl : g1 < w6.heap.size := (own_lt HL.out.own g1 rfl).2
      have kb := below_dn (Below.refl w6.heap.size w6) q
      exact l04SameO_any (some ⟨x.2.g1, 0, none⟩) (some ⟨x.2.g2, 0, none⟩) x.2.n1 x.2.k1 2 x.2.k2 x.1.pl Jb1 Jb2 Jbn1 Jbc1 Jbn2 Jbc2 Jbp x.1.xs x.1.ys nx ny g1 (Jmn * 3) gb (w6.drewN q) (PoO.below (v := w6.drewN q) (u := w6) ⟨hgl, HC.out 0 (by omega), HC.out 1 (by omega), HC.out 2 (by omega)⟩ kb) (HS.out.below kb).1.s13 (HI.out.o.r.drewN q) ((H.out.n.below HS.out.2).drewN q))
     have q1 : (Jmn : Int) < ((Jmn + 1 : Nat) : Int) := by omega
     go_wp2_with fail
     go_quiet ((go_at_call 48; exact quiet_s (HSm.out _ _ (by simp)) ⟨_, rfl⟩))
     go_wp2_with fail
     go_ret
     rw [HRb.out]
     exact ⟨rfl, by first | exact HS.out.2 | exact below_dn HS.out.2 _⟩
/- Pl8 -/
structure T21 where
 q : Ps
 m : Res
 r : R7
structure Q21 where
 a1 : Nat
 a2 : Nat
 ca1 : Nat
 ca2 : Nat
 s1 : Option Addr
 s2 : Option Addr
 sc1 : Nat
 sc2 : Nat
 g1 : Nat
 g2 : Nat
 k1 : Nat
 k2 : Nat
def cells21 (p s c l : Int) (st sk re fe ag : Bool) (n1 : Nat) (x : T21 × Q21) : List Value := [.int .i64 p, .int .i64 s, .bool st, .bool sk, .bool re, .bool fe, .bool ag, .int .i64 c, .int .i64 l, .int .i64 x.1.q.pl, .slice x.2.s1 n1 x.2.sc1, .slice x.2.s2 2 x.2.sc2, .int .i64 x.1.m.last, .int .i64 x.1.m.laps, .slice (some ⟨x.2.a1, 0, none⟩) n1 x.2.ca1, .slice (some ⟨x.2.a2, 0, none⟩) 2 x.2.ca2, .int .i64 x.1.q.pl, .slice (some ⟨x.2.g1, 0, none⟩) n1 x.2.k1, .slice (some ⟨x.2.g2, 0, none⟩) 2 x.2.k2, .int .i64 x.1.m.last, .int .i64 x.1.m.laps]
def flat21 (p s c l : Int) (st sk re fe ag : Bool) (n1 : Nat) (L : List (T21 × Q21)) : List Value := L.flatMap (cells21 p s c l st sk re fe ag n1)
section
variable {p s c l : Int} {st sk re fe ag : Bool} {n1 : Nat}
theorem cells21_one (x : T21 × Q21) : ∀ u ∈ cells21 p s c l st sk re fe ag n1 x, u.oneCell' = true := by
 intro u hu
 simp only [cells21, List.mem_cons, List.not_mem_nil, or_false] at hu
 rcases hu with rfl | rfl | rfl | rfl | rfl | rfl | rfl | rfl | rfl | rfl | rfl | rfl | rfl | rfl | rfl | rfl | rfl | rfl | rfl | rfl | rfl <;> rfl
theorem flat21_snoc (L : List (T21 × Q21)) (x : T21 × Q21) : flat21 p s c l st sk re fe ag n1 (L ++ [x]) = flat21 p s c l st sk re fe ag n1 L ++ cells21 p s c l st sk re fe ag n1 x := by simp [flat21]
theorem flat21_at : ∀ (L : List (T21 × Q21)) (i : Nat) (x : T21 × Q21), L[i]? = some x → ∀ o, o < 21 → (flat21 p s c l st sk re fe ag n1 L)[i * 21 + o]? = (cells21 p s c l st sk re fe ag n1 x)[o]?
 | [], _, _, h, _, _ => by cases h
 | y :: r, 0, x, h, o, ho => by
  cases h
  have e : flat21 p s c l st sk re fe ag n1 (y :: r) = cells21 p s c l st sk re fe ag n1 y ++ flat21 p s c l st sk re fe ag n1 r := by simp [flat21]
  rw [e, Nat.zero_mul, Nat.zero_add, List.getElem?_append_left (by show o < 21; exact ho)]
 | y :: r, i + 1, x, h, o, ho => by
  have e : flat21 p s c l st sk re fe ag n1 (y :: r) = cells21 p s c l st sk re fe ag n1 y ++ flat21 p s c l st sk re fe ag n1 r := by simp [flat21]
  rw [e, List.getElem?_append_right (by show 21 ≤ _; omega)]
  have := flat21_at r i x (by simpa using h) o ho
  rw [← this]
  congr 1
  show (i + 1) * 21 + o - 21 = _
  omega
end
theorem infoM : (Try.prog.info? 79).map (fun i => (i.zero, i.size, i.bytes)) = some (some (.agg zero21.toArray), 21, 232) := by kernel_rfl
def Dist (b1 b2 h1 h2 : Nat) : Prop := b1 ≠ h1 ∧ b1 ≠ h2 ∧ b2 ≠ h1 ∧ b2 ≠ h2 ∧ b1 ≠ b2 ∧ h1 ≠ h2
structure ItT (R : List (Nat × List Int)) (b1 b2 n1 : Nat) (x : T21 × Q21) : Prop where
 a1 : (x.2.a1, x.1.q.xs) ∈ R
 a2 : (x.2.a2, x.1.q.ys) ∈ R
 g1 : (x.2.g1, x.1.r.xs) ∈ R
 g2 : (x.2.g2, x.1.r.ys) ∈ R
 ba : Dist b1 b2 x.2.a1 x.2.a2
 bg : Dist b1 b2 x.2.g1 x.2.g2
 l1 : x.1.q.xs.length = n1
 l2 : x.1.q.ys.length = 2
 l3 : x.1.r.xs.length = n1
 l4 : x.1.r.ys.length = 2
 k1 : n1 ≤ x.2.ca1
 k2 : 2 ≤ x.2.ca2
 k3 : n1 ≤ x.2.k1
 k4 : 2 ≤ x.2.k2
structure RwP (w : World) (pb : Nat) (v1 v2 : Value) (u : World) (y : Nat × List Int) : Prop where
 o : OutN u w.heap.size (some ⟨y.1, 0, none⟩) y.1 y.2
 lt : y.1 < u.heap.size
 ne : y.1 ≠ pb
 n1 : ∀ i, v1.ownBlock = some i → i ≠ y.1
 n2 : ∀ i, v2.ownBlock = some i → i ≠ y.1
structure PlK (w : World) (pb : Nat) (p s c l : Int) (st sk re fe ag : Bool) (n1 b1 e1 b2 e2 : Nat) (sp : Int) (sx sy : List Int) (v1 v2 : Value) (ms : List Int) (L : List (T21 × Q21)) (h1 d1 h2 d2 : Nat) (q : Ps) (rg : Int) (R : List (Nat × List Int)) (u : World) : Prop where
 g : G17 u pb (.int .i64 p) (.int .i64 s) (.bool st) (.bool sk) (.bool re) (.bool fe) (.bool ag) (.int .i64 c) (.int .i64 l) (.slice (some ⟨b1, 0, none⟩) n1 e1) (.slice (some ⟨b2, 0, none⟩) 2 e2) (.int .i64 sp) v1 (.slice (some ⟨h1, 0, none⟩) n1 d1) (.slice (some ⟨h2, 0, none⟩) 2 d2) (.int .i64 q.pl) (.int .i64 rg)
 tv : u.cell? ⟨pb, 17, none⟩ = some v2
 mo : u.ownsRow w.heap.size 2 1 v1 ms.length (nvs ms)
 tu : u.ownsRow w.heap.size 79 21 v2 L.length (flat21 p s c l st sk re fe ag n1 L)
 rws : ∀ y ∈ R, RwP w pb v1 v2 u y
 sv : ∀ i j, v1.ownBlock = some i → v2.ownBlock = some j → i ≠ j
 p1 : ∀ i, v1.ownBlock = some i → i ≠ pb
 p2 : ∀ i, v2.ownBlock = some i → i ≠ pb
 it : ∀ x ∈ L, ItT R b1 b2 n1 x
 s1 : (b1, sx) ∈ R
 s2 : (b2, sy) ∈ R
 y1 : (h1, q.xs) ∈ R
 y2 : (h2, q.ys) ∈ R
 di : Dist b1 b2 h1 h2
 m1 : sx.length = n1
 m2 : sy.length = 2
 m3 : q.xs.length = n1
 m4 : q.ys.length = 2
 k1 : n1 ≤ e1
 k2 : 2 ≤ e2
 k3 : n1 ≤ d1
 k4 : 2 ≤ d2
 pm : w.heap.size ≤ pb
 be : Below w.heap.size w u
theorem RwP.below {w u v : World} {pb : Nat} {v1 v2 : Value} {y : Nat × List Int} (h : RwP w pb v1 v2 u y) (k : Below u.heap.size u v) : RwP w pb v1 v2 v y := ⟨h.o.below k, Nat.lt_of_lt_of_le h.lt k.size, h.ne, h.n1, h.n2⟩
theorem RwP.but {w u v : World} {pb b : Nat} {v1 v2 : Value} {y : Nat × List Int} (h : RwP w pb v1 v2 u y) (k : But b u v) (hb : y.1 ≠ b) : RwP w pb v1 v2 v y := ⟨h.o.but k hb, Nat.lt_of_lt_of_le h.lt k.size, h.ne, h.n1, h.n2⟩
theorem grown_but {u v : World} {row : Option Nat} (hg : u.grownBy v row) (z : Nat) (hz : ∀ k, row = some k → k ≠ z) : ∃ b, z ≠ b ∧ But b u v := by
 cases row with
 | none => exact ⟨z + 1, by omega, but_grown hg (fun j hj => by cases hj)⟩
 | some k => exact ⟨k, fun e => hz k rfl e.symm, but_grown hg (fun j hj => by cases hj; rfl)⟩
section
variable {w u v : World} {pb : Nat} {p s c l : Int} {st sk re fe ag : Bool} {n1 b1 e1 b2 e2 : Nat} {sp : Int} {sx sy : List Int} {v1 v2 : Value} {ms : List Int} {L : List (T21 × Q21)} {h1 d1 h2 d2 : Nat} {q : Ps} {rg : Int} {R : List (Nat × List Int)}
theorem PlK.below (h : PlK w pb p s c l st sk re fe ag n1 b1 e1 b2 e2 sp sx sy v1 v2 ms L h1 d1 h2 d2 q rg R u) (k : Below u.heap.size u v) : PlK w pb p s c l st sk re fe ag n1 b1 e1 b2 e2 sp sx sy v1 v2 ms L h1 d1 h2 d2 q rg R v :=
 ⟨h.g.below k, (k.cell (p := ⟨pb, 17, none⟩) h.g.lt).trans h.tv, own_keepS h.mo k, own_keepS h.tu k, fun y hy => (h.rws y hy).below k, h.sv, h.p1, h.p2, h.it, h.s1, h.s2, h.y1, h.y2, h.di, h.m1, h.m2, h.m3, h.m4, h.k1, h.k2, h.k3, h.k4, h.pm, h.be.trans (k.mono h.be.size)⟩
theorem PlK.drew (h : PlK w pb p s c l st sk re fe ag n1 b1 e1 b2 e2 sp sx sy v1 v2 ms L h1 d1 h2 d2 q rg R u) : PlK w pb p s c l st sk re fe ag n1 b1 e1 b2 e2 sp sx sy v1 v2 ms L h1 d1 h2 d2 q rg R u.drew := h.below (Below.refl _ _).drew
theorem PlK.ru (h : PlK w pb p s c l st sk re fe ag n1 b1 e1 b2 e2 sp sx sy v1 v2 ms L h1 d1 h2 d2 q rg R u) : RuAt u pb p s c l st sk re fe ag := ⟨h.g.lt, h.g.c0, h.g.c1, h.g.c2, h.g.c3, h.g.c4, h.g.c5, h.g.c6, h.g.c7, h.g.c8⟩
theorem PlK.now (h : PlK w pb p s c l st sk re fe ag n1 b1 e1 b2 e2 sp sx sy v1 v2 ms L h1 d1 h2 d2 q rg R u) : At3 u pb (some ⟨h1, 0, none⟩) (some ⟨h2, 0, none⟩) n1 d1 2 d2 q.pl 13 14 15 := ⟨h.g.lt, h.g.c13, h.g.c14, h.g.c15⟩
theorem PlK.nr (h : PlK w pb p s c l st sk re fe ag n1 b1 e1 b2 e2 sp sx sy v1 v2 ms L h1 d1 h2 d2 q rg R u) : PosR u (some ⟨h1, 0, none⟩) (some ⟨h2, 0, none⟩) n1 2 q.xs q.ys := ⟨(h.rws _ h.y1).o.row, (h.rws _ h.y2).o.row, h.m3, h.m4⟩
theorem PlK.pushM (h : PlK w pb p s c l st sk re fe ag n1 b1 e1 b2 e2 sp sx sy v1 v2 ms L h1 d1 h2 d2 q rg R u) {w1 : World} {g cap : Nat} {x : Int}
    (hown : w1.ownsRow w.heap.size 2 1 (.slice (some ⟨g, 0, none⟩) (ms.length + 1) cap) (ms.length + 1) (nvs ms ++ nvs [x])) (hg : u.grownBy w1 v1.ownBlock) (hat : v1.ownBlock = some g ∨ g = u.heap.size) :
    PlK w pb p s c l st sk re fe ag n1 b1 e1 b2 e2 sp sx sy (.slice (some ⟨g, 0, none⟩) (ms.length + 1) cap) v2 (ms ++ [x]) L h1 d1 h2 d2 q rg R (w1.setCell ⟨pb, 12, none⟩ (.slice (some ⟨g, 0, none⟩) (ms.length + 1) cap)) := by
  have hl : ∀ j, v1.ownBlock = some j → w.heap.size ≤ j := fun j hj => (own_lt h.mo j hj).1
  have hgp : g ≠ pb := by
    rcases hat with e | e
    · exact h.p1 g e
    · have := h.g.lt
      omega
  obtain ⟨b, hb, kb⟩ := grown_but hg pb h.p1
  have g1 := (h.g.but kb hb).setM (.slice (some ⟨g, 0, none⟩) (ms.length + 1) cap)
  have t1 := (kb.cell (o := 17) h.g.lt hb).trans h.tv
  have k2 := but_setM pb w1 (.slice (some ⟨g, 0, none⟩) (ms.length + 1) cap)
  refine ⟨g1, by go_simp, ?_, own_butS (own_grownS h.tu hg (fun i j hi hj => fun e => h.sv j i hj hi e.symm)) k2 h.p2, fun y hy => ?_, fun i j hi hj => ?_, fun i hi => ?_, h.p2, h.it, h.s1, h.s2, h.y1, h.y2, h.di, h.m1, h.m2, h.m3, h.m4, h.k1, h.k2, h.k3, h.k4, h.pm, ?_⟩
  · rw [List.length_append, List.length_singleton, nvs_app]
    exact own_butS hown k2 (fun i hi => by have : g = i := by simpa [Value.ownBlock] using hi
                                           omega)
  · obtain ⟨ho, hlt, hne, hn1, hn2⟩ := h.rws y hy
    refine ⟨(ho.grown hg hn1).but k2 hne, by simpa using Nat.lt_of_lt_of_le hlt hg.size, hne, fun i hi => ?_, hn2⟩
    have e' : g = i := by simpa [Value.ownBlock] using hi
    subst e'
    rcases hat with e | e
    · exact hn1 g e
    · omega
  · have e' : g = i := by simpa [Value.ownBlock] using hi
    subst e'
    rcases hat with e | e
    · exact h.sv g j e hj
    · have h3 := (own_lt h.tu j hj).2
      omega
  · have e' : g = i := by simpa [Value.ownBlock] using hi
    subst e'
    exact hgp
  · exact But.lift (h.be.grown hg (by have := h.be.size; omega) hl) k2 h.pm
theorem PlK.pushT (h : PlK w pb p s c l st sk re fe ag n1 b1 e1 b2 e2 sp sx sy v1 v2 ms L h1 d1 h2 d2 q rg R u) {w1 : World} {g cap : Nat} {x : T21 × Q21} (hx : ItT R b1 b2 n1 x)
    (hown : w1.ownsRow w.heap.size 79 21 (.slice (some ⟨g, 0, none⟩) (L.length + 1) cap) (L.length + 1) (flat21 p s c l st sk re fe ag n1 L ++ cells21 p s c l st sk re fe ag n1 x)) (hg : u.grownBy w1 v2.ownBlock) (hat : v2.ownBlock = some g ∨ g = u.heap.size) :
    PlK w pb p s c l st sk re fe ag n1 b1 e1 b2 e2 sp sx sy v1 (.slice (some ⟨g, 0, none⟩) (L.length + 1) cap) ms (L ++ [x]) h1 d1 h2 d2 q rg R (w1.setCell ⟨pb, 17, none⟩ (.slice (some ⟨g, 0, none⟩) (L.length + 1) cap)) := by
  have hl : ∀ j, v2.ownBlock = some j → w.heap.size ≤ j := fun j hj => (own_lt h.tu j hj).1
  have hgp : g ≠ pb := by
    rcases hat with e | e
    · exact h.p2 g e
    · have := h.g.lt
      omega
  obtain ⟨b, hb, kb⟩ := grown_but hg pb h.p2
  have g0 := h.g.but kb hb
  have t1 := (kb.cell (o := 17) h.g.lt hb).trans h.tv
  have f17 := g0.fr 17
  have hlt0 := g0.lt
  have k2 : But pb w1 (w1.setCell ⟨pb, 17, none⟩ (.slice (some ⟨g, 0, none⟩) (L.length + 1) cap)) := (But.refl pb w1).setCell (p := ⟨pb, 17, none⟩) rfl _
  have g1 : G17 (w1.setCell ⟨pb, 17, none⟩ (.slice (some ⟨g, 0, none⟩) (L.length + 1) cap)) pb (.int .i64 p) (.int .i64 s) (.bool st) (.bool sk) (.bool re) (.bool fe) (.bool ag) (.int .i64 c) (.int .i64 l) (.slice (some ⟨b1, 0, none⟩) n1 e1) (.slice (some ⟨b2, 0, none⟩) 2 e2) (.int .i64 sp) v1 (.slice (some ⟨h1, 0, none⟩) n1 d1) (.slice (some ⟨h2, 0, none⟩) 2 d2) (.int .i64 q.pl) (.int .i64 rg) := by
    obtain ⟨lt, c0, c1, c2, c3, c4, c5, c6, c7, c8, c9, c10, c11, c12, c13, c14, c15, c16, fr⟩ := g0
    exact ⟨by simpa using lt, by go_simp, by go_simp, by go_simp, by go_simp, by go_simp, by go_simp, by go_simp, by go_simp, by go_simp, by go_simp, by go_simp, by go_simp, by go_simp, by go_simp, by go_simp, by go_simp, by go_simp, fun o => by have := fr o; go_simp⟩
  refine ⟨g1, by go_simp, own_butS (own_grownS h.mo hg (fun i j hi hj => h.sv i j hi hj)) k2 h.p1, ?_, fun y hy => ?_, fun i j hi hj => ?_, h.p1, fun i hi => ?_, fun y hy => ?_, h.s1, h.s2, h.y1, h.y2, h.di, h.m1, h.m2, h.m3, h.m4, h.k1, h.k2, h.k3, h.k4, h.pm, ?_⟩
  · rw [List.length_append, List.length_singleton, flat21_snoc]
    exact own_butS hown k2 (fun i hi => by have : g = i := by simpa [Value.ownBlock] using hi
                                           omega)
  · obtain ⟨ho, hlt, hne, hn1, hn2⟩ := h.rws y hy
    refine ⟨(ho.grown hg hn2).but k2 hne, by simpa using Nat.lt_of_lt_of_le hlt hg.size, hne, hn1, fun i hi => ?_⟩
    have e' : g = i := by simpa [Value.ownBlock] using hi
    subst e'
    rcases hat with e | e
    · exact hn2 g e
    · omega
  · have e' : g = j := by simpa [Value.ownBlock] using hj
    subst e'
    rcases hat with e | e
    · exact h.sv i g hi e
    · have h3 := (own_lt h.mo i hi).2
      omega
  · have e' : g = i := by simpa [Value.ownBlock] using hi
    subst e'
    exact hgp
  · rcases List.mem_append.1 hy with hy | hy
    · exact h.it y hy
    · rw [List.mem_singleton] at hy
      subst hy
      exact hx
  · exact But.lift (h.be.grown hg (by have := h.be.size; omega) hl) k2 h.pm
theorem PlK.rows (h : PlK w pb p s c l st sk re fe ag n1 b1 e1 b2 e2 sp sx sy v1 v2 ms L h1 d1 h2 d2 q rg R u) {H0 g1 g2 : Nat} {xs ys : List Int} (hH : w.heap.size ≤ H0) (hv1 : ∀ i, v1.ownBlock = some i → i < H0) (hv2 : ∀ i, v2.ownBlock = some i → i < H0) (hpb : pb < H0)
  (ho : PosO u H0 (some ⟨g1, 0, none⟩) (some ⟨g2, 0, none⟩) g1 g2 n1 2 xs ys) (l1 : g1 < u.heap.size) (l2 : g2 < u.heap.size) : PlK w pb p s c l st sk re fe ag n1 b1 e1 b2 e2 sp sx sy v1 v2 ms L h1 d1 h2 d2 q rg ((g1, xs) :: (g2, ys) :: R) u := by
 have n1' := ho.o1.new
 have n2' := ho.o2.new
 refine ⟨h.g, h.tv, h.mo, h.tu, fun y hy => ?_, h.sv, h.p1, h.p2, fun x hx => ?_, .tail _ (.tail _ h.s1), .tail _ (.tail _ h.s2), .tail _ (.tail _ h.y1), .tail _ (.tail _ h.y2), h.di, h.m1, h.m2, h.m3, h.m4, h.k1, h.k2, h.k3, h.k4, h.pm, h.be⟩
 ·rcases List.mem_cons.1 hy with rfl | hy
  ·exact ⟨ho.o1.lower hH, l1, by simp only; omega, fun i hi => by have := hv1 i hi; simp only; omega, fun i hi => by have := hv2 i hi; simp only; omega⟩
  ·rcases List.mem_cons.1 hy with rfl | hy
   ·exact ⟨ho.o2.lower hH, l2, by simp only; omega, fun i hi => by have := hv1 i hi; simp only; omega, fun i hi => by have := hv2 i hi; simp only; omega⟩
   ·exact h.rws y hy
 ·have := h.it x hx
  exact ⟨.tail _ (.tail _ this.a1), .tail _ (.tail _ this.a2), .tail _ (.tail _ this.g1), .tail _ (.tail _ this.g2), this.ba, this.bg, this.l1, this.l2, this.l3, this.l4, this.k1, this.k2, this.k3, this.k4⟩
theorem PlK.turn (h : PlK w pb p s c l st sk re fe ag n1 b1 e1 b2 e2 sp sx sy v1 v2 ms L h1 d1 h2 d2 q rg R u) {g1 c1 g2 c2 : Nat} {q' : Ps} (x1 : (g1, q'.xs) ∈ R) (x2 : (g2, q'.ys) ∈ R) (hd : Dist b1 b2 g1 g2) (y1 : q'.xs.length = n1) (y2 : q'.ys.length = 2) (z1 : n1 ≤ c1) (z2 : 2 ≤ c2) :
  PlK w pb p s c l st sk re fe ag n1 b1 e1 b2 e2 sp sx sy v1 v2 ms L g1 c1 g2 c2 q' rg R (((u.setCell ⟨pb, 13, none⟩ (.slice (some ⟨g1, 0, none⟩) n1 c1)).setCell ⟨pb, 14, none⟩ (.slice (some ⟨g2, 0, none⟩) 2 c2)).setCell ⟨pb, 15, none⟩ (.int .i64 q'.pl)) := by
 have k := but_setN pb u (.slice (some ⟨g1, 0, none⟩) n1 c1) (.slice (some ⟨g2, 0, none⟩) 2 c2) (.int .i64 q'.pl)
 have t := h.tv
 exact ⟨h.g.setN _ _ _, by go_simp, own_butS h.mo k h.p1, own_butS h.tu k h.p2, fun y hy => (h.rws y hy).but k (h.rws y hy).ne, h.sv, h.p1, h.p2, h.it, h.s1, h.s2, x1, x2, hd, h.m1, h.m2, y1, y2, h.k1, h.k2, z1, z2, h.pm, But.lift h.be k h.pm⟩
end
/- Pm8 -/
theorem hasR_no (Jp Js Jc Jl : Int) (Jst Jsk Jre Jfe Jag : Bool) (Ja1 Ja2 : Option Addr) (Jan1 Jac1 Jan2 Jac2 : Nat) (Jap : Int) (Jm : Option Addr) (Jmn Jmc : Nat) (Jb1 Jb2 : Option Addr) (Jbn1 Jbc1 Jbn2 Jbc2 : Nat) (Jbp Jrg : Int) (w : World) (h : Jrg = -1) : Calls Try.prog 49 #[.agg #[.int .i64 Jp, .int .i64 Js, .bool Jst, .bool Jsk, .bool Jre, .bool Jfe, .bool Jag, .int .i64 Jc, .int .i64 Jl, .slice Ja1 Jan1 Jac1, .slice Ja2 Jan2 Jac2, .int .i64 Jap, .slice Jm Jmn Jmc, .slice Jb1 Jbn1 Jbc1, .slice Jb2 Jbn2 Jbc2, .int .i64 Jbp, .int .i64 Jrg]] w fun e w' => e = .returned (.bool false) ∧ Below w.heap.size w w' := by
 subst h
 have HB := Lib.hid (al1 w (.cells #[.int .i64 Jp, .int .i64 Js, .bool Jst, .bool Jsk, .bool Jre, .bool Jfe, .bool Jag, .int .i64 Jc, .int .i64 Jl, .slice Ja1 Jan1 Jac1, .slice Ja2 Jan2 Jac2, .int .i64 Jap, .slice Jm Jmn Jmc, .slice Jb1 Jbn1 Jbc1, .slice Jb2 Jbn2 Jbc2, .int .i64 Jbp, .int .i64 (-1)] 34))
 go_enter Try.func49, Try.ntmps49
 go_wp2_with fail
 go_ret
 exact ⟨rfl, HB.out⟩
theorem hasR_yes (Jp Js Jc Jl : Int) (Jst Jsk Jre Jfe Jag : Bool) (Ja1 Ja2 : Option Addr) (Jan1 Jac1 Jan2 Jac2 : Nat) (Jap : Int) (Jm : Option Addr) (Jmn Jmc : Nat) (Jb1 Jb2 : Option Addr) (Jbn1 Jbc1 Jbn2 Jbc2 : Nat) (Jbp Jrg : Int) (w : World) (h : Jrg ≠ -1) : Calls Try.prog 49 #[.agg #[.int .i64 Jp, .int .i64 Js, .bool Jst, .bool Jsk, .bool Jre, .bool Jfe, .bool Jag, .int .i64 Jc, .int .i64 Jl, .slice Ja1 Jan1 Jac1, .slice Ja2 Jan2 Jac2, .int .i64 Jap, .slice Jm Jmn Jmc, .slice Jb1 Jbn1 Jbc1, .slice Jb2 Jbn2 Jbc2, .int .i64 Jbp, .int .i64 Jrg]] w fun e w' => e = .returned (.bool true) ∧ Below w.heap.size w w' := by
 have d : (Jrg != -1) = true := by simpa using h
 have HB := Lib.hid (al1 w (.cells #[.int .i64 Jp, .int .i64 Js, .bool Jst, .bool Jsk, .bool Jre, .bool Jfe, .bool Jag, .int .i64 Jc, .int .i64 Jl, .slice Ja1 Jan1 Jac1, .slice Ja2 Jan2 Jac2, .int .i64 Jap, .slice Jm Jmn Jmc, .slice Jb1 Jbn1 Jbc1, .slice Jb2 Jbn2 Jbc2, .int .i64 Jbp, .int .i64 Jrg] 34))
 clear h
 go_enter Try.func49, Try.ntmps49
 go_wp2_with fail
 go_ret
 exact ⟨rfl, HB.out⟩
def MkP (p s c l : Int) (st sk re fe ag : Bool) (n1 : Nat) (q : Ps) (h1 d1 h2 d2 : Nat) (LV : Option (Res × R7)) (H0 : Nat) (cs : List Value) (u : World) : Prop :=
 match LV with
 | none => True
 | some mr => ∃ s1 s2 sc1 sc2 g1 k1 g2 k2, cs = cells21 p s c l st sk re fe ag n1 (⟨q, mr.1, mr.2⟩, ⟨h1, h2, d1, d2, s1, s2, sc1, sc2, g1, g2, k1, k2⟩) ∧ PosO u H0 (some ⟨g1, 0, none⟩) (some ⟨g2, 0, none⟩) g1 g2 n1 2 mr.2.xs mr.2.ys ∧ g1 < u.heap.size ∧ g2 < u.heap.size ∧ n1 ≤ k1 ∧ 2 ≤ k2
theorem MkP.below {p s c l : Int} {st sk re fe ag : Bool} {n1 : Nat} {q : Ps} {h1 d1 h2 d2 : Nat} {LV : Option (Res × R7)} {H0 : Nat} {cs : List Value} {u v : World} (h : MkP p s c l st sk re fe ag n1 q h1 d1 h2 d2 LV H0 cs u) (k : Below u.heap.size u v) : MkP p s c l st sk re fe ag n1 q h1 d1 h2 d2 LV H0 cs v := by
 cases LV with
 | none => trivial
 | some mr =>
  obtain ⟨s1, s2, sc1, sc2, g1, k1, g2, k2, he, ho, l1, l2, r⟩ := h
  exact ⟨s1, s2, sc1, sc2, g1, k1, g2, k2, he, ho.below k, Nat.lt_of_lt_of_le l1 k.size, Nat.lt_of_lt_of_le l2 k.size, r⟩
def MkG (p s c l : Int) (st sk re fe ag : Bool) (n1 : Nat) (q : Ps) (h1 d1 h2 d2 : Nat) (LV : Option (Res × R7)) (cd : Int) (w : World) (e : Ending) (w' : World) : Prop :=
 ∃ cs : List Value, cs.length = 21 ∧ cs.toArray.all (·.oneCell') = true ∧ e = .returned (.tuple #[.agg cs.toArray, .int .i64 cd]) ∧ MkP p s c l st sk re fe ag n1 q h1 d1 h2 d2 LV w.heap.size cs w' ∧ Below w.heap.size w w'
theorem mkG_of {p s c l : Int} {st sk re fe ag : Bool} {n1 : Nat} {q : Ps} {h1 d1 h2 d2 : Nat} {move : Int} {LV : Option Res} {cd : Int} {w w' : World} {e : Ending} (h : MkQ p s c l st sk re fe ag q.pl n1 (some ⟨h1, 0, none⟩) (some ⟨h2, 0, none⟩) d1 d2 LV cd w e w') :
  MkG p s c l st sk re fe ag n1 q h1 d1 h2 d2 (LV.map fun m => (m, r7V c l p q.pl ag q.ys move m)) cd w e w' := by
 cases LV with
 | none => exact ⟨zero21, rfl, zero21_one, h.1, trivial, h.2⟩
 | some m =>
  obtain ⟨s1, s2, sc1, sc2, g1, k1, g2, k2, he, ho, l1, l2, c1, c2, hb⟩ := h
  exact ⟨cells21 p s c l st sk re fe ag n1 (⟨q, m, r7V c l p q.pl ag q.ys move m⟩, ⟨h1, h2, d1, d2, s1, s2, sc1, sc2, g1, g2, k1, k2⟩), rfl, all_oneCell_toArray (fun v hv => cells21_one _ v hv), he, ⟨s1, s2, sc1, sc2, g1, k1, g2, k2, rfl, ho, l1, l2, c1, c2⟩, hb⟩
end Go.Proofs.Ytmngmbpdiaocjaa
