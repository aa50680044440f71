/- A game, turned, measured, marked. No conditions. -/
import Derived.Test.YtmngmbpdiaocjaaGame1
import Derived.Deep.Cut
namespace Go.Proofs.Ytmngmbpdiaocjaa
open Go.Joins Go.ChangeShapes Go.WideShapes Go.ChangeAt Go.RowKit Go.Deep
set_option linter.unusedVariables false

/-- The rows of a game of a call's own. -/
structure GamO (w : World) (B : Nat) (a1 a2 : Option Addr) (k1 k2 an1 an2 : Nat) (mm : Option Addr) (k3 mn : Nat) (b1 b2 : Option Addr) (k4 k5 bn1 bn2 : Nat) (sx sy ms nx ny : List Int) : Prop where
  s : PosO w B a1 a2 k1 k2 an1 an2 sx sy
  m : OutN w B mm k3 ms
  lm : ms.length = mn
  n : PosO w B b1 b2 k4 k5 bn1 bn2 nx ny
theorem GamO.r {w : World} {B : Nat} {a1 a2 : Option Addr} {k1 k2 an1 an2 : Nat} {mm : Option Addr} {k3 mn : Nat} {b1 b2 : Option Addr} {k4 k5 bn1 bn2 : Nat} {sx sy ms nx ny : List Int} (h : GamO w B a1 a2 k1 k2 an1 an2 mm k3 mn b1 b2 k4 k5 bn1 bn2 sx sy ms nx ny) : GamR w a1 a2 an1 an2 mm mn b1 b2 bn1 bn2 sx sy ms nx ny :=
  ⟨h.s.r, h.m.row, h.lm, h.n.r⟩
theorem GamO.below {w v : World} {B : Nat} {a1 a2 : Option Addr} {k1 k2 an1 an2 : Nat} {mm : Option Addr} {k3 mn : Nat} {b1 b2 : Option Addr} {k4 k5 bn1 bn2 : Nat} {sx sy ms nx ny : List Int} (h : GamO w B a1 a2 k1 k2 an1 an2 mm k3 mn b1 b2 k4 k5 bn1 bn2 sx sy ms nx ny) (k : Below w.heap.size w v) : GamO v B a1 a2 k1 k2 an1 an2 mm k3 mn b1 b2 k4 k5 bn1 bn2 sx sy ms nx ny :=
  ⟨h.s.below k, h.m.below k, h.lm, h.n.below k⟩
/-- A turned game. -/
def GamP (p s c l : Int) (st sk re fe ag : Bool) (an1 an2 : Nat) (ap : Int) (mn bn1 bn2 : Nat) (bp rg : Int) (sx sy ms nx ny : List Int) (w : World) (e : Ending) (w' : World) : Prop :=
  ∃ g1 g2 g3 g4 g5, e = .returned (.agg #[.int .i64 p, .int .i64 s, .bool st, .bool sk, .bool re, .bool fe, .bool ag, .int .i64 c, .int .i64 l, .slice (some ⟨g1, 0, none⟩) an1 an1, .slice (some ⟨g2, 0, none⟩) an2 an2, .int .i64 ap, .slice (some ⟨g3, 0, none⟩) mn mn, .slice (some ⟨g4, 0, none⟩) bn1 bn1, .slice (some ⟨g5, 0, none⟩) bn2 bn2, .int .i64 bp, .int .i64 rg]) ∧ GamO w' w.heap.size (some ⟨g1, 0, none⟩) (some ⟨g2, 0, none⟩) g1 g2 an1 an2 (some ⟨g3, 0, none⟩) g3 mn (some ⟨g4, 0, none⟩) (some ⟨g5, 0, none⟩) g4 g5 bn1 bn2 sx sy ms nx ny ∧ (g1 < w'.heap.size ∧ g2 < w'.heap.size ∧ g3 < w'.heap.size ∧ g4 < w'.heap.size ∧ g5 < w'.heap.size) ∧ Below w.heap.size w w'
/-- What the walk of toGame holds: the game's own box, the result's variable, the game under way. -/
structure TGm (w u : World) (ggp ggs ggc ggl : Int) (ggst ggsk ggre ggfe ggag : Bool) (gga1 gga2 : Option Addr) (ggan1 ggac1 ggan2 ggac2 : Nat) (ggap : Int) (ggm : Option Addr) (ggmn ggmc : Nat) (ggb1 ggb2 : Option Addr) (ggbn1 ggbc1 ggbn2 ggbc2 : Nat) (ggbp ggrg : Int) (v0 v1 v2 v3 v4 v5 v6 v7 v8 v9 v10 v11 v12 v13 v14 v15 v16 : Value) : Prop where
  a : GmAt u w.heap.size ggp ggs ggc ggl ggst ggsk ggre ggfe ggag gga1 gga2 ggan1 ggac1 ggan2 ggac2 ggap ggm ggmn ggmc ggb1 ggb2 ggbn1 ggbc1 ggbn2 ggbc2 ggbp ggrg
  r : G17 u (w.heap.size + 1) (.int .i64 0) (.int .i64 0) (.bool false) (.bool false) (.bool false) (.bool false) (.bool false) (.int .i64 0) (.int .i64 0) (.slice none 0 0) (.slice none 0 0) (.int .i64 0) (.slice none 0 0) (.slice none 0 0) (.slice none 0 0) (.int .i64 0) (.int .i64 0)
  z : G17 u (w.heap.size + 1 + 1) v0 v1 v2 v3 v4 v5 v6 v7 v8 v9 v10 v11 v12 v13 v14 v15 v16
  b : Below w.heap.size w u
section
variable {w u v : World} {b : Nat} {ggp ggs ggc ggl : Int} {ggst ggsk ggre ggfe ggag : Bool} {gga1 gga2 : Option Addr} {ggan1 ggac1 ggan2 ggac2 : Nat} {ggap : Int} {ggm : Option Addr} {ggmn ggmc : Nat} {ggb1 ggb2 : Option Addr} {ggbn1 ggbc1 ggbn2 ggbc2 : Nat} {ggbp ggrg : Int} {v0 v1 v2 v3 v4 v5 v6 v7 v8 v9 v10 v11 v12 v13 v14 v15 v16 : Value}
theorem TGm.below (h : TGm w u ggp ggs ggc ggl ggst ggsk ggre ggfe ggag gga1 gga2 ggan1 ggac1 ggan2 ggac2 ggap ggm ggmn ggmc ggb1 ggb2 ggbn1 ggbc1 ggbn2 ggbc2 ggbp ggrg v0 v1 v2 v3 v4 v5 v6 v7 v8 v9 v10 v11 v12 v13 v14 v15 v16) (k : Below u.heap.size u v) : TGm w v ggp ggs ggc ggl ggst ggsk ggre ggfe ggag gga1 gga2 ggan1 ggac1 ggan2 ggac2 ggap ggm ggmn ggmc ggb1 ggb2 ggbn1 ggbc1 ggbn2 ggbc2 ggbp ggrg v0 v1 v2 v3 v4 v5 v6 v7 v8 v9 v10 v11 v12 v13 v14 v15 v16 :=
  ⟨h.a.below k, h.r.below k, h.z.below k, h.b.trans (k.mono h.b.size)⟩
theorem TGm.setR (h : TGm w u ggp ggs ggc ggl ggst ggsk ggre ggfe ggag gga1 gga2 ggan1 ggac1 ggan2 ggac2 ggap ggm ggmn ggmc ggb1 ggb2 ggbn1 ggbc1 ggbn2 ggbc2 ggbp ggrg v0 v1 v2 v3 v4 v5 v6 v7 v8 v9 v10 v11 v12 v13 v14 v15 v16) (x0 x1 x2 x3 x4 x5 x6 x7 x8 : Value) : TGm w (((((((((u.setCell ⟨w.heap.size + 1 + 1, 0, none⟩ x0).setCell ⟨w.heap.size + 1 + 1, 1, none⟩ x1).setCell ⟨w.heap.size + 1 + 1, 2, none⟩ x2).setCell ⟨w.heap.size + 1 + 1, 3, none⟩ x3).setCell ⟨w.heap.size + 1 + 1, 4, none⟩ x4).setCell ⟨w.heap.size + 1 + 1, 5, none⟩ x5).setCell ⟨w.heap.size + 1 + 1, 6, none⟩ x6).setCell ⟨w.heap.size + 1 + 1, 7, none⟩ x7).setCell ⟨w.heap.size + 1 + 1, 8, none⟩ x8) ggp ggs ggc ggl ggst ggsk ggre ggfe ggag gga1 gga2 ggan1 ggac1 ggan2 ggac2 ggap ggm ggmn ggmc ggb1 ggb2 ggbn1 ggbc1 ggbn2 ggbc2 ggbp ggrg x0 x1 x2 x3 x4 x5 x6 x7 x8 v9 v10 v11 v12 v13 v14 v15 v16 :=
  have k := but_setR (w.heap.size + 1 + 1) u x0 x1 x2 x3 x4 x5 x6 x7 x8
  ⟨h.a.but k (by omega), h.r.but k (by omega), h.z.setR x0 x1 x2 x3 x4 x5 x6 x7 x8, But.below h.b k (by omega) h.b.size⟩
theorem TGm.setS (h : TGm w u ggp ggs ggc ggl ggst ggsk ggre ggfe ggag gga1 gga2 ggan1 ggac1 ggan2 ggac2 ggap ggm ggmn ggmc ggb1 ggb2 ggbn1 ggbc1 ggbn2 ggbc2 ggbp ggrg v0 v1 v2 v3 v4 v5 v6 v7 v8 v9 v10 v11 v12 v13 v14 v15 v16) (x9 x10 x11 : Value) : TGm w (((u.setCell ⟨w.heap.size + 1 + 1, 9, none⟩ x9).setCell ⟨w.heap.size + 1 + 1, 10, none⟩ x10).setCell ⟨w.heap.size + 1 + 1, 11, none⟩ x11) ggp ggs ggc ggl ggst ggsk ggre ggfe ggag gga1 gga2 ggan1 ggac1 ggan2 ggac2 ggap ggm ggmn ggmc ggb1 ggb2 ggbn1 ggbc1 ggbn2 ggbc2 ggbp ggrg v0 v1 v2 v3 v4 v5 v6 v7 v8 x9 x10 x11 v12 v13 v14 v15 v16 :=
  have k := but_setS (w.heap.size + 1 + 1) u x9 x10 x11
  ⟨h.a.but k (by omega), h.r.but k (by omega), h.z.setS x9 x10 x11, But.below h.b k (by omega) h.b.size⟩
theorem TGm.setM (h : TGm w u ggp ggs ggc ggl ggst ggsk ggre ggfe ggag gga1 gga2 ggan1 ggac1 ggan2 ggac2 ggap ggm ggmn ggmc ggb1 ggb2 ggbn1 ggbc1 ggbn2 ggbc2 ggbp ggrg v0 v1 v2 v3 v4 v5 v6 v7 v8 v9 v10 v11 v12 v13 v14 v15 v16) (x12 : Value) : TGm w (u.setCell ⟨w.heap.size + 1 + 1, 12, none⟩ x12) ggp ggs ggc ggl ggst ggsk ggre ggfe ggag gga1 gga2 ggan1 ggac1 ggan2 ggac2 ggap ggm ggmn ggmc ggb1 ggb2 ggbn1 ggbc1 ggbn2 ggbc2 ggbp ggrg v0 v1 v2 v3 v4 v5 v6 v7 v8 v9 v10 v11 x12 v13 v14 v15 v16 :=
  have k := but_setM (w.heap.size + 1 + 1) u x12
  ⟨h.a.but k (by omega), h.r.but k (by omega), h.z.setM x12, But.below h.b k (by omega) h.b.size⟩
theorem TGm.setN (h : TGm w u ggp ggs ggc ggl ggst ggsk ggre ggfe ggag gga1 gga2 ggan1 ggac1 ggan2 ggac2 ggap ggm ggmn ggmc ggb1 ggb2 ggbn1 ggbc1 ggbn2 ggbc2 ggbp ggrg v0 v1 v2 v3 v4 v5 v6 v7 v8 v9 v10 v11 v12 v13 v14 v15 v16) (x13 x14 x15 : Value) : TGm w (((u.setCell ⟨w.heap.size + 1 + 1, 13, none⟩ x13).setCell ⟨w.heap.size + 1 + 1, 14, none⟩ x14).setCell ⟨w.heap.size + 1 + 1, 15, none⟩ x15) ggp ggs ggc ggl ggst ggsk ggre ggfe ggag gga1 gga2 ggan1 ggac1 ggan2 ggac2 ggap ggm ggmn ggmc ggb1 ggb2 ggbn1 ggbc1 ggbn2 ggbc2 ggbp ggrg v0 v1 v2 v3 v4 v5 v6 v7 v8 v9 v10 v11 v12 x13 x14 x15 v16 :=
  have k := but_setN (w.heap.size + 1 + 1) u x13 x14 x15
  ⟨h.a.but k (by omega), h.r.but k (by omega), h.z.setN x13 x14 x15, But.below h.b k (by omega) h.b.size⟩
theorem TGm.setG (h : TGm w u ggp ggs ggc ggl ggst ggsk ggre ggfe ggag gga1 gga2 ggan1 ggac1 ggan2 ggac2 ggap ggm ggmn ggmc ggb1 ggb2 ggbn1 ggbc1 ggbn2 ggbc2 ggbp ggrg v0 v1 v2 v3 v4 v5 v6 v7 v8 v9 v10 v11 v12 v13 v14 v15 v16) (x16 : Value) : TGm w (u.setCell ⟨w.heap.size + 1 + 1, 16, none⟩ x16) ggp ggs ggc ggl ggst ggsk ggre ggfe ggag gga1 gga2 ggan1 ggac1 ggan2 ggac2 ggap ggm ggmn ggmc ggb1 ggb2 ggbn1 ggbc1 ggbn2 ggbc2 ggbp ggrg v0 v1 v2 v3 v4 v5 v6 v7 v8 v9 v10 v11 v12 v13 v14 v15 x16 :=
  have k := but_setG (w.heap.size + 1 + 1) u x16
  ⟨h.a.but k (by omega), h.r.but k (by omega), h.z.setG x16, But.below h.b k (by omega) h.b.size⟩
theorem TGm.rg (h : G17 u b v0 v1 v2 v3 v4 v5 v6 v7 v8 v9 v10 v11 v12 v13 v14 v15 v16) : u.rangeAt b 0 [v0, v1, v2, v3, v4, v5, v6, v7, v8, v9, v10, v11, v12, v13, v14, v15, v16] := by
  intro j x hj
  match j, hj with
  | 0, hj => cases hj; exact h.c0
  | 1, hj => cases hj; exact h.c1
  | 2, hj => cases hj; exact h.c2
  | 3, hj => cases hj; exact h.c3
  | 4, hj => cases hj; exact h.c4
  | 5, hj => cases hj; exact h.c5
  | 6, hj => cases hj; exact h.c6
  | 7, hj => cases hj; exact h.c7
  | 8, hj => cases hj; exact h.c8
  | 9, hj => cases hj; exact h.c9
  | 10, hj => cases hj; exact h.c10
  | 11, hj => cases hj; exact h.c11
  | 12, hj => cases hj; exact h.c12
  | 13, hj => cases hj; exact h.c13
  | 14, hj => cases hj; exact h.c14
  | 15, hj => cases hj; exact h.c15
  | 16, hj => cases hj; exact h.c16
  | n + 17, hj => simp at hj
end
theorem tgm_new (ggp ggs ggc ggl : Int) (ggst ggsk ggre ggfe ggag : Bool) (gga1 gga2 : Option Addr) (ggan1 ggac1 ggan2 ggac2 : Nat) (ggap : Int) (ggm : Option Addr) (ggmn ggmc : Nat) (ggb1 ggb2 : Option Addr) (ggbn1 ggbc1 ggbn2 ggbc2 : Nat) (ggbp ggrg : Int) (w : World) (T U : TypeId) : TGm w (((w.alloc (.cells #[.int .i64 ggp, .int .i64 ggs, .bool ggst, .bool ggsk, .bool ggre, .bool ggfe, .bool ggag, .int .i64 ggc, .int .i64 ggl, .slice gga1 ggan1 ggac1, .slice gga2 ggan2 ggac2, .int .i64 ggap, .slice ggm ggmn ggmc, .slice ggb1 ggbn1 ggbc1, .slice ggb2 ggbn2 ggbc2, .int .i64 ggbp, .int .i64 ggrg] T)).alloc (.cells #[.int .i64 0, .int .i64 0, .bool false, .bool false, .bool false, .bool false, .bool false, .int .i64 0, .int .i64 0, .slice none 0 0, .slice none 0 0, .int .i64 0, .slice none 0 0, .slice none 0 0, .slice none 0 0, .int .i64 0, .int .i64 0] U)).alloc (.cells #[.int .i64 0, .int .i64 0, .bool false, .bool false, .bool false, .bool false, .bool false, .int .i64 0, .int .i64 0, .slice none 0 0, .slice none 0 0, .int .i64 0, .slice none 0 0, .slice none 0 0, .slice none 0 0, .int .i64 0, .int .i64 0] U)) ggp ggs ggc ggl ggst ggsk ggre ggfe ggag gga1 gga2 ggan1 ggac1 ggan2 ggac2 ggap ggm ggmn ggmc ggb1 ggb2 ggbn1 ggbc1 ggbn2 ggbc2 ggbp ggrg (.int .i64 0) (.int .i64 0) (.bool false) (.bool false) (.bool false) (.bool false) (.bool false) (.int .i64 0) (.int .i64 0) (.slice none 0 0) (.slice none 0 0) (.int .i64 0) (.slice none 0 0) (.slice none 0 0) (.slice none 0 0) (.int .i64 0) (.int .i64 0) := by
  have k1 := al2 (w.alloc (.cells #[.int .i64 ggp, .int .i64 ggs, .bool ggst, .bool ggsk, .bool ggre, .bool ggfe, .bool ggag, .int .i64 ggc, .int .i64 ggl, .slice gga1 ggan1 ggac1, .slice gga2 ggan2 ggac2, .int .i64 ggap, .slice ggm ggmn ggmc, .slice ggb1 ggbn1 ggbc1, .slice ggb2 ggbn2 ggbc2, .int .i64 ggbp, .int .i64 ggrg] T)) (.cells #[.int .i64 0, .int .i64 0, .bool false, .bool false, .bool false, .bool false, .bool false, .int .i64 0, .int .i64 0, .slice none 0 0, .slice none 0 0, .int .i64 0, .slice none 0 0, .slice none 0 0, .slice none 0 0, .int .i64 0, .int .i64 0] U) (.cells #[.int .i64 0, .int .i64 0, .bool false, .bool false, .bool false, .bool false, .bool false, .int .i64 0, .int .i64 0, .slice none 0 0, .slice none 0 0, .int .i64 0, .slice none 0 0, .slice none 0 0, .slice none 0 0, .int .i64 0, .int .i64 0] U)
  have k2 := al1 ((w.alloc (.cells #[.int .i64 ggp, .int .i64 ggs, .bool ggst, .bool ggsk, .bool ggre, .bool ggfe, .bool ggag, .int .i64 ggc, .int .i64 ggl, .slice gga1 ggan1 ggac1, .slice gga2 ggan2 ggac2, .int .i64 ggap, .slice ggm ggmn ggmc, .slice ggb1 ggbn1 ggbc1, .slice ggb2 ggbn2 ggbc2, .int .i64 ggbp, .int .i64 ggrg] T)).alloc (.cells #[.int .i64 0, .int .i64 0, .bool false, .bool false, .bool false, .bool false, .bool false, .int .i64 0, .int .i64 0, .slice none 0 0, .slice none 0 0, .int .i64 0, .slice none 0 0, .slice none 0 0, .slice none 0 0, .int .i64 0, .int .i64 0] U)) (.cells #[.int .i64 0, .int .i64 0, .bool false, .bool false, .bool false, .bool false, .bool false, .int .i64 0, .int .i64 0, .slice none 0 0, .slice none 0 0, .int .i64 0, .slice none 0 0, .slice none 0 0, .slice none 0 0, .int .i64 0, .int .i64 0] U)
  have r := (g17_new (w.alloc (.cells #[.int .i64 ggp, .int .i64 ggs, .bool ggst, .bool ggsk, .bool ggre, .bool ggfe, .bool ggag, .int .i64 ggc, .int .i64 ggl, .slice gga1 ggan1 ggac1, .slice gga2 ggan2 ggac2, .int .i64 ggap, .slice ggm ggmn ggmc, .slice ggb1 ggbn1 ggbc1, .slice ggb2 ggbn2 ggbc2, .int .i64 ggbp, .int .i64 ggrg] T)) U).below k2
  have z := g17_new ((w.alloc (.cells #[.int .i64 ggp, .int .i64 ggs, .bool ggst, .bool ggsk, .bool ggre, .bool ggfe, .bool ggag, .int .i64 ggc, .int .i64 ggl, .slice gga1 ggan1 ggac1, .slice gga2 ggan2 ggac2, .int .i64 ggap, .slice ggm ggmn ggmc, .slice ggb1 ggbn1 ggbc1, .slice ggb2 ggbn2 ggbc2, .int .i64 ggbp, .int .i64 ggrg] T)).alloc (.cells #[.int .i64 0, .int .i64 0, .bool false, .bool false, .bool false, .bool false, .bool false, .int .i64 0, .int .i64 0, .slice none 0 0, .slice none 0 0, .int .i64 0, .slice none 0 0, .slice none 0 0, .slice none 0 0, .int .i64 0, .int .i64 0] U)) U
  rw [show (w.alloc (.cells #[.int .i64 ggp, .int .i64 ggs, .bool ggst, .bool ggsk, .bool ggre, .bool ggfe, .bool ggag, .int .i64 ggc, .int .i64 ggl, .slice gga1 ggan1 ggac1, .slice gga2 ggan2 ggac2, .int .i64 ggap, .slice ggm ggmn ggmc, .slice ggb1 ggbn1 ggbc1, .slice ggb2 ggbn2 ggbc2, .int .i64 ggbp, .int .i64 ggrg] T)).heap.size = w.heap.size + 1 by simp] at r
  rw [show ((w.alloc (.cells #[.int .i64 ggp, .int .i64 ggs, .bool ggst, .bool ggsk, .bool ggre, .bool ggfe, .bool ggag, .int .i64 ggc, .int .i64 ggl, .slice gga1 ggan1 ggac1, .slice gga2 ggan2 ggac2, .int .i64 ggap, .slice ggm ggmn ggmc, .slice ggb1 ggbn1 ggbc1, .slice ggb2 ggbn2 ggbc2, .int .i64 ggbp, .int .i64 ggrg] T)).alloc (.cells #[.int .i64 0, .int .i64 0, .bool false, .bool false, .bool false, .bool false, .bool false, .int .i64 0, .int .i64 0, .slice none 0 0, .slice none 0 0, .int .i64 0, .slice none 0 0, .slice none 0 0, .slice none 0 0, .int .i64 0, .int .i64 0] U)).heap.size = w.heap.size + 1 + 1 by simp] at z
  exact ⟨(gm_new ggp ggs ggc ggl ggst ggsk ggre ggfe ggag gga1 gga2 ggan1 ggac1 ggan2 ggac2 ggap ggm ggmn ggmc ggb1 ggb2 ggbn1 ggbc1 ggbn2 ggbc2 ggbp ggrg w T).below k1, r, z, (al1 w _).trans (k1.mono (by simp))⟩
theorem below_scg {B : Nat} {a : World} (b : Nat) (hb : B ≤ b) : ∀ (vs : List Value) (o : Nat) {w : World}, Below B a w → Below B a (w.setCells b o vs)
  | [], _, _, h => h
  | v :: r, o, _, h => below_scg b hb r (o + 1) (h.setCell (p := ⟨b, o, none⟩) hb v)
theorem but_scg {a : World} (b : Nat) : ∀ (vs : List Value) (o : Nat) {w : World}, But b a w → But b a (w.setCells b o vs)
  | [], _, _, h => h
  | v :: r, o, _, h => but_scg b r (o + 1) (h.setCell (p := ⟨b, o, none⟩) rfl v)
theorem size_scg (b : Nat) : ∀ (vs : List Value) (o : Nat) (u : World), (u.setCells b o vs).heap.size = u.heap.size
  | [], _, _ => rfl
  | v :: r, o, u => by rw [World.setCells, size_scg b r]; simp
theorem gm_one (p s c l ap bp rg : Int) (st sk re fe ag : Bool) (m1 m2 m3 m4 m5 : Option Addr) (n1 c1 n2 c2 n3 c3 n4 c4 n5 c5 : Nat) : (List.toArray ([.int .i64 p, .int .i64 s, .bool st, .bool sk, .bool re, .bool fe, .bool ag, .int .i64 c, .int .i64 l, .slice m1 n1 c1, .slice m2 n2 c2, .int .i64 ap, .slice m3 n3 c3, .slice m4 n4 c4, .slice m5 n5 c5, .int .i64 bp, .int .i64 rg] : List Value)).all (·.oneCell') = true := all_oneCell_toArray (by simp [Value.oneCell'])
set_option maxHeartbeats 4000000 in
set_option maxRecDepth 100000 in
theorem toG_any (ggp ggs ggc ggl : Int) (ggst ggsk ggre ggfe ggag : Bool) (gga1 gga2 : Option Addr) (ggan1 ggac1 ggan2 ggac2 : Nat) (ggap : Int) (ggm : Option Addr) (ggmn ggmc : Nat) (ggb1 ggb2 : Option Addr) (ggbn1 ggbc1 ggbn2 ggbc2 : Nat) (ggbp ggrg : Int) (sx sy ms nx ny : List Int) (w : World) (h : GamR w gga1 gga2 ggan1 ggan2 ggm ggmn ggb1 ggb2 ggbn1 ggbn2 sx sy ms nx ny) :
    Calls Try.prog 10 #[.agg #[.int .i64 ggp, .int .i64 ggs, .bool ggst, .bool ggsk, .bool ggre, .bool ggfe, .bool ggag, .int .i64 ggc, .int .i64 ggl, .slice gga1 ggan1 ggac1, .slice gga2 ggan2 ggac2, .int .i64 ggap, .slice ggm ggmn ggmc, .slice ggb1 ggbn1 ggbc1, .slice ggb2 ggbn2 ggbc2, .int .i64 ggbp, .int .i64 ggrg]] w (GamP ggp ggs ggc ggl ggst ggsk ggre ggfe ggag ggan1 ggan2 ggap ggmn ggbn1 ggbn2 ggbp ggrg sx sy ms nx ny w) := by
  have H := Lib.hid h
  clear h
  have HS := Lib.hid (tgm_new ggp ggs ggc ggl ggst ggsk ggre ggfe ggag gga1 gga2 ggan1 ggac1 ggan2 ggac2 ggap ggm ggmn ggmc ggb1 ggb2 ggbn1 ggbc1 ggbn2 ggbc2 ggbp ggrg w 28 34)
  go_enter Try.func10, Try.ntmps10
  go_wp2_with fail
  refine (toRules_any ggp ggs ggc ggl ggst ggsk ggre ggfe ggag _).mono ?_
  rintro e u1 ⟨rfl, b1⟩
  have HS := Lib.hid (HS.out.below b1)
  clear b1
  have lz1 := HS.out.z.lt
  obtain ⟨⟨_, d0, d1, d2, d3, d4, d5, d6, d7, d8, d9, d10, d11, d12, d13, d14, d15, d16⟩, -, ⟨_, z0, z1, z2, z3, z4, z5, z6, z7, z8, z9, z10, z11, z12, z13, z14, z15, z16, zf⟩, -⟩ := HS.out
  go_wp2_with fail
  refine (toPos_any gga1 gga2 ggan1 ggac1 ggan2 ggac2 ggap sx sy _ (H.out.s.below ((HS.out.setR (.int .i64 ggp) (.int .i64 ggs) (.bool ggst) (.bool ggsk) (.bool ggre) (.bool ggfe) (.bool ggag) (.int .i64 ggc) (.int .i64 ggl)).b))).mono ?_
  rintro e u2 ⟨g1, g2, rfl, o2, l1, l2, b2⟩
  have e1 : w.heap.size + 1 + 1 < g1 := by have := o2.o1.new; simp at this; omega
  have e2 : w.heap.size + 1 + 1 < g2 := by have := o2.o2.new; simp at this; omega
  have O2 := Lib.hid (o2.lower (C := w.heap.size) (by simp; omega))
  have HS := Lib.hid ((HS.out.setR (.int .i64 ggp) (.int .i64 ggs) (.bool ggst) (.bool ggsk) (.bool ggre) (.bool ggfe) (.bool ggag) (.int .i64 ggc) (.int .i64 ggl)).below b2)
  clear b2 o2 d0 z0 d1 z1 d2 z2 d3 z3 d4 z4 d5 z5 d6 z6 d7 z7 d8 z8 d9 z9 d10 z10 d11 z11 d12 z12 d13 z13 d14 z14 d15 z15 d16 z16 zf
  have lz2 := HS.out.z.lt
  obtain ⟨⟨_, d0, d1, d2, d3, d4, d5, d6, d7, d8, d9, d10, d11, d12, d13, d14, d15, d16⟩, -, ⟨_, z0, z1, z2, z3, z4, z5, z6, z7, z8, z9, z10, z11, z12, z13, z14, z15, z16, zf⟩, -⟩ := HS.out
  go_wp2_with fail
  refine (toRow_any ggm ggmc ggmn ms _ H.out.lm (H.out.m.below ((HS.out.setS (.slice (some ⟨g1, 0, none⟩) ggan1 ggan1) (.slice (some ⟨g2, 0, none⟩) ggan2 ggan2) (.int .i64 ggap)).b))).mono ?_
  rintro e u3 ⟨g3, rfl, o3, l3, b3⟩
  have e3 : w.heap.size + 1 + 1 < g3 := by have := o3.new; simp at this; omega
  have O3 := Lib.hid (o3.lower (C := w.heap.size) (by simp; omega))
  have O2 := Lib.hid ((O2.out.but (but_setS (w.heap.size + 1 + 1) u2 (.slice (some ⟨g1, 0, none⟩) ggan1 ggan1) (.slice (some ⟨g2, 0, none⟩) ggan2 ggan2) (.int .i64 ggap)) (by omega) (by omega)).below b3)
  have HS := Lib.hid ((HS.out.setS (.slice (some ⟨g1, 0, none⟩) ggan1 ggan1) (.slice (some ⟨g2, 0, none⟩) ggan2 ggan2) (.int .i64 ggap)).below b3)
  have s3 := b3.size
  simp at s3
  clear b3 o3 d0 z0 d1 z1 d2 z2 d3 z3 d4 z4 d5 z5 d6 z6 d7 z7 d8 z8 d9 z9 d10 z10 d11 z11 d12 z12 d13 z13 d14 z14 d15 z15 d16 z16 zf
  have lz3 := HS.out.z.lt
  obtain ⟨⟨_, d0, d1, d2, d3, d4, d5, d6, d7, d8, d9, d10, d11, d12, d13, d14, d15, d16⟩, -, ⟨_, z0, z1, z2, z3, z4, z5, z6, z7, z8, z9, z10, z11, z12, z13, z14, z15, z16, zf⟩, -⟩ := HS.out
  go_wp2_with fail
  refine (toPos_any ggb1 ggb2 ggbn1 ggbc1 ggbn2 ggbc2 ggbp nx ny _ (H.out.n.below ((HS.out.setM (.slice (some ⟨g3, 0, none⟩) ggmn ggmn)).b))).mono ?_
  rintro e u4 ⟨g4, g5, rfl, o4, l4, l5, b4⟩
  have e4 : w.heap.size + 1 + 1 < g4 := by have := o4.o1.new; simp at this; omega
  have e5 : w.heap.size + 1 + 1 < g5 := by have := o4.o2.new; simp at this; omega
  have O4 := Lib.hid (o4.lower (C := w.heap.size) (by simp; omega))
  have O3 := Lib.hid ((O3.out.but (but_setM (w.heap.size + 1 + 1) u3 (.slice (some ⟨g3, 0, none⟩) ggmn ggmn)) (by omega)).below b4)
  have O2 := Lib.hid ((O2.out.but (but_setM (w.heap.size + 1 + 1) u3 (.slice (some ⟨g3, 0, none⟩) ggmn ggmn)) (by omega) (by omega)).below b4)
  have HS := Lib.hid ((HS.out.setM (.slice (some ⟨g3, 0, none⟩) ggmn ggmn)).below b4)
  have s4 := b4.size
  simp at s4
  clear b4 o4 d0 z0 d1 z1 d2 z2 d3 z3 d4 z4 d5 z5 d6 z6 d7 z7 d8 z8 d9 z9 d10 z10 d11 z11 d12 z12 d13 z13 d14 z14 d15 z15 d16 z16 zf
  have d16 := HS.out.a.2.2.2.2.2.2.2.2.2.2.2.2.2.2.2.2.2
  have z13 := HS.out.z.c13
  have z14 := HS.out.z.c14
  have z15 := HS.out.z.c15
  have z16 := HS.out.z.c16
  have zf := HS.out.z.fr
  have HE := Lib.hid ((HS.out.setN (.slice (some ⟨g4, 0, none⟩) ggbn1 ggbn1) (.slice (some ⟨g5, 0, none⟩) ggbn2 ggbn2) (.int .i64 ggbp)).setG (.int .i64 ggrg))
  go_upto_region 7 with fail
  go_step
  have hrg := TGm.rg HE.out.z
  have hth := HE.out.r.there
  refine wpList_load_mid rfl 34 (.tmp 3) rfl (w.heap.size + 1 + 1) 0 rfl _ _ hrg Try.underlying34 rfl (by kernel_rfl) ?_
  refine wpList_store_mid rfl 34 (.tmp 2) (.tmp 23) rfl (w.heap.size + 1) 0 (List.toArray [.int .i64 ggp, .int .i64 ggs, .bool ggst, .bool ggsk, .bool ggre, .bool ggfe, .bool ggag, .int .i64 ggc, .int .i64 ggl, .slice (some ⟨g1, 0, none⟩) ggan1 ggan1, .slice (some ⟨g2, 0, none⟩) ggan2 ggan2, .int .i64 ggap, .slice (some ⟨g3, 0, none⟩) ggmn ggmn, .slice (some ⟨g4, 0, none⟩) ggbn1 ggbn1, .slice (some ⟨g5, 0, none⟩) ggbn2 ggbn2, .int .i64 ggbp, .int .i64 ggrg]) rfl rfl hth (by kernel_rfl) (gm_one _ _ _ _ _ _ _ _ _ _ _ _ _ _ _ _ _ _ _ _ _ _ _ _ _ _ _) ?_
  clear hrg hth
  simp only [Act.put, List.setIfInBounds_toArray, List.set_cons_zero, List.set_cons_succ]
  go_wp2_with fail
  have hrun := run_loadVar_mid (P := Try.prog) _ (w.heap.size + 1) 0 34 [.int .i64 ggp, .int .i64 ggs, .bool ggst, .bool ggsk, .bool ggre, .bool ggfe, .bool ggag, .int .i64 ggc, .int .i64 ggl, .slice (some ⟨g1, 0, none⟩) ggan1 ggan1, .slice (some ⟨g2, 0, none⟩) ggan2 ggan2, .int .i64 ggap, .slice (some ⟨g3, 0, none⟩) ggmn ggmn, .slice (some ⟨g4, 0, none⟩) ggbn1 ggbn1, .slice (some ⟨g5, 0, none⟩) ggbn2 ggbn2, .int .i64 ggbp, .int .i64 ggrg] _ (World.rangeAt_setCells_same _ (w.heap.size + 1) 0 [.int .i64 ggp, .int .i64 ggs, .bool ggst, .bool ggsk, .bool ggre, .bool ggfe, .bool ggag, .int .i64 ggc, .int .i64 ggl, .slice (some ⟨g1, 0, none⟩) ggan1 ggan1, .slice (some ⟨g2, 0, none⟩) ggan2 ggan2, .int .i64 ggap, .slice (some ⟨g3, 0, none⟩) ggmn ggmn, .slice (some ⟨g4, 0, none⟩) ggbn1 ggbn1, .slice (some ⟨g5, 0, none⟩) ggbn2 ggbn2, .int .i64 ggbp, .int .i64 ggrg] HE.out.r.there) Try.underlying34 rfl (by kernel_rfl)
  refine bodyPost_ret (v := .agg (List.toArray [.int .i64 ggp, .int .i64 ggs, .bool ggst, .bool ggsk, .bool ggre, .bool ggfe, .bool ggag, .int .i64 ggc, .int .i64 ggl, .slice (some ⟨g1, 0, none⟩) ggan1 ggan1, .slice (some ⟨g2, 0, none⟩) ggan2 ggan2, .int .i64 ggap, .slice (some ⟨g3, 0, none⟩) ggmn ggmn, .slice (some ⟨g4, 0, none⟩) ggbn1 ggbn1, .slice (some ⟨g5, 0, none⟩) ggbn2 ggbn2, .int .i64 ggbp, .int .i64 ggrg])) ?_ rfl ⟨g1, g2, g3, g4, g5, rfl, ⟨?_, ?_, H.out.lm, ?_⟩, ?_, ?_⟩
  · simp [results, Try.results10, asAddr, hrun]
  · exact (((O2.out.but (but_setN (w.heap.size + 1 + 1) u4 (.slice (some ⟨g4, 0, none⟩) ggbn1 ggbn1) (.slice (some ⟨g5, 0, none⟩) ggbn2 ggbn2) (.int .i64 ggbp)) (by omega) (by omega)).but (but_setG (w.heap.size + 1 + 1) _ (.int .i64 ggrg)) (by omega) (by omega)).but (but_scg (w.heap.size + 1) [.int .i64 ggp, .int .i64 ggs, .bool ggst, .bool ggsk, .bool ggre, .bool ggfe, .bool ggag, .int .i64 ggc, .int .i64 ggl, .slice (some ⟨g1, 0, none⟩) ggan1 ggan1, .slice (some ⟨g2, 0, none⟩) ggan2 ggan2, .int .i64 ggap, .slice (some ⟨g3, 0, none⟩) ggmn ggmn, .slice (some ⟨g4, 0, none⟩) ggbn1 ggbn1, .slice (some ⟨g5, 0, none⟩) ggbn2 ggbn2, .int .i64 ggbp, .int .i64 ggrg] 0 (But.refl _ _)) (by omega) (by omega))
  · exact (((O3.out.but (but_setN (w.heap.size + 1 + 1) u4 (.slice (some ⟨g4, 0, none⟩) ggbn1 ggbn1) (.slice (some ⟨g5, 0, none⟩) ggbn2 ggbn2) (.int .i64 ggbp)) (by omega)).but (but_setG (w.heap.size + 1 + 1) _ (.int .i64 ggrg)) (by omega)).but (but_scg (w.heap.size + 1) [.int .i64 ggp, .int .i64 ggs, .bool ggst, .bool ggsk, .bool ggre, .bool ggfe, .bool ggag, .int .i64 ggc, .int .i64 ggl, .slice (some ⟨g1, 0, none⟩) ggan1 ggan1, .slice (some ⟨g2, 0, none⟩) ggan2 ggan2, .int .i64 ggap, .slice (some ⟨g3, 0, none⟩) ggmn ggmn, .slice (some ⟨g4, 0, none⟩) ggbn1 ggbn1, .slice (some ⟨g5, 0, none⟩) ggbn2 ggbn2, .int .i64 ggbp, .int .i64 ggrg] 0 (But.refl _ _)) (by omega))
  · exact (((O4.out.but (but_setN (w.heap.size + 1 + 1) u4 (.slice (some ⟨g4, 0, none⟩) ggbn1 ggbn1) (.slice (some ⟨g5, 0, none⟩) ggbn2 ggbn2) (.int .i64 ggbp)) (by omega) (by omega)).but (but_setG (w.heap.size + 1 + 1) _ (.int .i64 ggrg)) (by omega) (by omega)).but (but_scg (w.heap.size + 1) [.int .i64 ggp, .int .i64 ggs, .bool ggst, .bool ggsk, .bool ggre, .bool ggfe, .bool ggag, .int .i64 ggc, .int .i64 ggl, .slice (some ⟨g1, 0, none⟩) ggan1 ggan1, .slice (some ⟨g2, 0, none⟩) ggan2 ggan2, .int .i64 ggap, .slice (some ⟨g3, 0, none⟩) ggmn ggmn, .slice (some ⟨g4, 0, none⟩) ggbn1 ggbn1, .slice (some ⟨g5, 0, none⟩) ggbn2 ggbn2, .int .i64 ggbp, .int .i64 ggrg] 0 (But.refl _ _)) (by omega) (by omega))
  · rw [size_scg]
    simp
    omega
  · exact below_scg (w.heap.size + 1) (by omega) [.int .i64 ggp, .int .i64 ggs, .bool ggst, .bool ggsk, .bool ggre, .bool ggfe, .bool ggag, .int .i64 ggc, .int .i64 ggl, .slice (some ⟨g1, 0, none⟩) ggan1 ggan1, .slice (some ⟨g2, 0, none⟩) ggan2 ggan2, .int .i64 ggap, .slice (some ⟨g3, 0, none⟩) ggmn ggmn, .slice (some ⟨g4, 0, none⟩) ggbn1 ggbn1, .slice (some ⟨g5, 0, none⟩) ggbn2 ggbn2, .int .i64 ggbp, .int .i64 ggrg] 0 HE.out.b
end Go.Proofs.Ytmngmbpdiaocjaa
