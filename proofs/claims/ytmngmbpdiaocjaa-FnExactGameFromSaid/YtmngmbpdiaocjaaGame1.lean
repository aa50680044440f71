/- A game in memory, and what the laws' own functions do with it. No conditions. -/
import Derived.Test.YtmngmbpdiaocjaaGameO
import Derived.Test.YtmngmbpdiaocjaaLawB4
import Derived.Test.YtmngmbpdiaocjaaPosZ
import Derived.Deep.MidRow
namespace Go.Proofs.Ytmngmbpdiaocjaa
open Go.Joins Go.ChangeShapes Go.WideShapes Go.ChangeAt Go.RowKit Go.Deep
set_option linter.unusedVariables false

/-- A game in a block. -/
def GmAt (u : World) (b : Nat) (ggp ggs ggc ggl : Int) (ggst ggsk ggre ggfe ggag : Bool) (gga1 gga2 : Option Addr) (ggan1 ggac1 ggan2 ggac2 : Nat) (ggap : Int) (ggm : Option Addr) (ggmn ggmc : Nat) (ggb1 ggb2 : Option Addr) (ggbn1 ggbc1 ggbn2 ggbc2 : Nat) (ggbp ggrg : Int) : Prop := (b < u.heap.size ∧ u.cell? ⟨b, 0, none⟩ = some (.int .i64 ggp) ∧ u.cell? ⟨b, 1, none⟩ = some (.int .i64 ggs) ∧ u.cell? ⟨b, 2, none⟩ = some (.bool ggst) ∧ u.cell? ⟨b, 3, none⟩ = some (.bool ggsk) ∧ u.cell? ⟨b, 4, none⟩ = some (.bool ggre) ∧ u.cell? ⟨b, 5, none⟩ = some (.bool ggfe) ∧ u.cell? ⟨b, 6, none⟩ = some (.bool ggag) ∧ u.cell? ⟨b, 7, none⟩ = some (.int .i64 ggc) ∧ u.cell? ⟨b, 8, none⟩ = some (.int .i64 ggl) ∧ u.cell? ⟨b, 9, none⟩ = some (.slice gga1 ggan1 ggac1) ∧ u.cell? ⟨b, 10, none⟩ = some (.slice gga2 ggan2 ggac2) ∧ u.cell? ⟨b, 11, none⟩ = some (.int .i64 ggap) ∧ u.cell? ⟨b, 12, none⟩ = some (.slice ggm ggmn ggmc) ∧ u.cell? ⟨b, 13, none⟩ = some (.slice ggb1 ggbn1 ggbc1) ∧ u.cell? ⟨b, 14, none⟩ = some (.slice ggb2 ggbn2 ggbc2) ∧ u.cell? ⟨b, 15, none⟩ = some (.int .i64 ggbp) ∧ u.cell? ⟨b, 16, none⟩ = some (.int .i64 ggrg))
/-- The rows of a game. -/
structure GamR (w : World) (a1 a2 : Option Addr) (an1 an2 : Nat) (mm : Option Addr) (mn : Nat) (b1 b2 : Option Addr) (bn1 bn2 : Nat) (sx sy ms nx ny : List Int) : Prop where
  s : PosR w a1 a2 an1 an2 sx sy
  m : RowN w mm ms
  lm : ms.length = mn
  n : PosR w b1 b2 bn1 bn2 nx ny
section
variable {u v w : World} {b z : Nat} {ggp ggs ggc ggl : Int} {ggst ggsk ggre ggfe ggag : Bool} {gga1 gga2 : Option Addr} {ggan1 ggac1 ggan2 ggac2 : Nat} {ggap : Int} {ggm : Option Addr} {ggmn ggmc : Nat} {ggb1 ggb2 : Option Addr} {ggbn1 ggbc1 ggbn2 ggbc2 : Nat} {ggbp ggrg : Int} {sx sy ms nx ny : List Int}
theorem GmAt.below (h : GmAt u b ggp ggs ggc ggl ggst ggsk ggre ggfe ggag gga1 gga2 ggan1 ggac1 ggan2 ggac2 ggap ggm ggmn ggmc ggb1 ggb2 ggbn1 ggbc1 ggbn2 ggbc2 ggbp ggrg) (k : Below u.heap.size u v) : GmAt v b ggp ggs ggc ggl ggst ggsk ggre ggfe ggag gga1 gga2 ggan1 ggac1 ggan2 ggac2 ggap ggm ggmn ggmc ggb1 ggb2 ggbn1 ggbc1 ggbn2 ggbc2 ggbp ggrg := by
  obtain ⟨hb, h⟩ := h
  have e := fun o => k.cell (p := ⟨b, o, none⟩) hb
  exact ⟨Nat.lt_of_lt_of_le hb k.size, by rw [e, e, e, e, e, e, e, e, e, e, e, e, e, e, e, e, e]; exact h⟩
theorem GmAt.but (h : GmAt u b ggp ggs ggc ggl ggst ggsk ggre ggfe ggag gga1 gga2 ggan1 ggac1 ggan2 ggac2 ggap ggm ggmn ggmc ggb1 ggb2 ggbn1 ggbc1 ggbn2 ggbc2 ggbp ggrg) (k : But z u v) (hz : b ≠ z) : GmAt v b ggp ggs ggc ggl ggst ggsk ggre ggfe ggag gga1 gga2 ggan1 ggac1 ggan2 ggac2 ggap ggm ggmn ggmc ggb1 ggb2 ggbn1 ggbc1 ggbn2 ggbc2 ggbp ggrg := by
  obtain ⟨hb, h⟩ := h
  have e := fun o => k.cell (o := o) hb hz
  exact ⟨Nat.lt_of_lt_of_le hb k.size, by rw [e, e, e, e, e, e, e, e, e, e, e, e, e, e, e, e, e]; exact h⟩
theorem GmAt.range (h : GmAt u b ggp ggs ggc ggl ggst ggsk ggre ggfe ggag gga1 gga2 ggan1 ggac1 ggan2 ggac2 ggap ggm ggmn ggmc ggb1 ggb2 ggbn1 ggbc1 ggbn2 ggbc2 ggbp ggrg) : u.rangeAt b 0 [.int .i64 ggp, .int .i64 ggs, .bool ggst, .bool ggsk, .bool ggre, .bool ggfe, .bool ggag, .int .i64 ggc, .int .i64 ggl, .slice gga1 ggan1 ggac1, .slice gga2 ggan2 ggac2, .int .i64 ggap, .slice ggm ggmn ggmc, .slice ggb1 ggbn1 ggbc1, .slice ggb2 ggbn2 ggbc2, .int .i64 ggbp, .int .i64 ggrg] := by
  obtain ⟨_, m0, m1, m2, m3, m4, m5, m6, m7, m8, m9, m10, m11, m12, m13, m14, m15, m16⟩ := h
  intro j x hj
  match j, hj with
  | 0, hj => cases hj; exact m0
  | 1, hj => cases hj; exact m1
  | 2, hj => cases hj; exact m2
  | 3, hj => cases hj; exact m3
  | 4, hj => cases hj; exact m4
  | 5, hj => cases hj; exact m5
  | 6, hj => cases hj; exact m6
  | 7, hj => cases hj; exact m7
  | 8, hj => cases hj; exact m8
  | 9, hj => cases hj; exact m9
  | 10, hj => cases hj; exact m10
  | 11, hj => cases hj; exact m11
  | 12, hj => cases hj; exact m12
  | 13, hj => cases hj; exact m13
  | 14, hj => cases hj; exact m14
  | 15, hj => cases hj; exact m15
  | 16, hj => cases hj; exact m16
  | n + 17, hj => simp at hj
theorem GamR.below (h : GamR w gga1 gga2 ggan1 ggan2 ggm ggmn ggb1 ggb2 ggbn1 ggbn2 sx sy ms nx ny) (k : Below w.heap.size w v) : GamR v gga1 gga2 ggan1 ggan2 ggm ggmn ggb1 ggb2 ggbn1 ggbn2 sx sy ms nx ny :=
  ⟨h.s.below k, h.m.below k, h.lm, h.n.below k⟩
theorem GamW.toR (h : GamW w gga1 gga2 ggan1 ggan2 ggm ggmn ggb1 ggb2 ggbn1 ggbn2 sx sy ms nx ny) (hn : (ggan1 : Int) + ggan2 + ggmn + ggbn1 + ggbn2 ≤ 1048576) : GamR w gga1 gga2 ggan1 ggan2 ggm ggmn ggb1 ggb2 ggbn1 ggbn2 sx sy ms nx ny :=
  ⟨h.s.toR (by omega), h.m (by rw [h.lm]; omega), h.lm, h.n.toR (by omega)⟩
end
theorem gm_new (ggp ggs ggc ggl : Int) (ggst ggsk ggre ggfe ggag : Bool) (gga1 gga2 : Option Addr) (ggan1 ggac1 ggan2 ggac2 : Nat) (ggap : Int) (ggm : Option Addr) (ggmn ggmc : Nat) (ggb1 ggb2 : Option Addr) (ggbn1 ggbc1 ggbn2 ggbc2 : Nat) (ggbp ggrg : Int) (w : World) (T : TypeId) : GmAt (w.alloc (.cells #[.int .i64 ggp, .int .i64 ggs, .bool ggst, .bool ggsk, .bool ggre, .bool ggfe, .bool ggag, .int .i64 ggc, .int .i64 ggl, .slice gga1 ggan1 ggac1, .slice gga2 ggan2 ggac2, .int .i64 ggap, .slice ggm ggmn ggmc, .slice ggb1 ggbn1 ggbc1, .slice ggb2 ggbn2 ggbc2, .int .i64 ggbp, .int .i64 ggrg] T)) w.heap.size ggp ggs ggc ggl ggst ggsk ggre ggfe ggag gga1 gga2 ggan1 ggac1 ggan2 ggac2 ggap ggm ggmn ggmc ggb1 ggb2 ggbn1 ggbc1 ggbn2 ggbc2 ggbp ggrg :=
  ⟨by simp, by go_simp, by go_simp, by go_simp, by go_simp, by go_simp, by go_simp, by go_simp, by go_simp, by go_simp, by go_simp, by go_simp, by go_simp, by go_simp, by go_simp, by go_simp, by go_simp, by go_simp⟩
/-- A variable of 17 cells that may be written. -/
structure G17 (u : World) (z : Nat) (v0 v1 v2 v3 v4 v5 v6 v7 v8 v9 v10 v11 v12 v13 v14 v15 v16 : Value) : Prop where
  lt : z < u.heap.size
  c0 : u.cell? ⟨z, 0, none⟩ = some v0
  c1 : u.cell? ⟨z, 1, none⟩ = some v1
  c2 : u.cell? ⟨z, 2, none⟩ = some v2
  c3 : u.cell? ⟨z, 3, none⟩ = some v3
  c4 : u.cell? ⟨z, 4, none⟩ = some v4
  c5 : u.cell? ⟨z, 5, none⟩ = some v5
  c6 : u.cell? ⟨z, 6, none⟩ = some v6
  c7 : u.cell? ⟨z, 7, none⟩ = some v7
  c8 : u.cell? ⟨z, 8, none⟩ = some v8
  c9 : u.cell? ⟨z, 9, none⟩ = some v9
  c10 : u.cell? ⟨z, 10, none⟩ = some v10
  c11 : u.cell? ⟨z, 11, none⟩ = some v11
  c12 : u.cell? ⟨z, 12, none⟩ = some v12
  c13 : u.cell? ⟨z, 13, none⟩ = some v13
  c14 : u.cell? ⟨z, 14, none⟩ = some v14
  c15 : u.cell? ⟨z, 15, none⟩ = some v15
  c16 : u.cell? ⟨z, 16, none⟩ = some v16
  fr : ∀ o, u.frozen? ⟨z, o, none⟩ = false
theorem G17.below {u v : World} {z : Nat} {v0 v1 v2 v3 v4 v5 v6 v7 v8 v9 v10 v11 v12 v13 v14 v15 v16 : Value} (h : G17 u z v0 v1 v2 v3 v4 v5 v6 v7 v8 v9 v10 v11 v12 v13 v14 v15 v16) (k : Below u.heap.size u v) : G17 v z v0 v1 v2 v3 v4 v5 v6 v7 v8 v9 v10 v11 v12 v13 v14 v15 v16 := by
  have e := fun o => k.cell (p := ⟨z, o, none⟩) h.lt
  exact ⟨Nat.lt_of_lt_of_le h.lt k.size, (e _).trans h.c0, (e _).trans h.c1, (e _).trans h.c2, (e _).trans h.c3, (e _).trans h.c4, (e _).trans h.c5, (e _).trans h.c6, (e _).trans h.c7, (e _).trans h.c8, (e _).trans h.c9, (e _).trans h.c10, (e _).trans h.c11, (e _).trans h.c12, (e _).trans h.c13, (e _).trans h.c14, (e _).trans h.c15, (e _).trans h.c16, fun o => (k.frozen (p := ⟨z, o, none⟩) h.lt).trans (h.fr o)⟩
theorem G17.but {u v : World} {z b : Nat} {v0 v1 v2 v3 v4 v5 v6 v7 v8 v9 v10 v11 v12 v13 v14 v15 v16 : Value} (h : G17 u z v0 v1 v2 v3 v4 v5 v6 v7 v8 v9 v10 v11 v12 v13 v14 v15 v16) (k : But b u v) (hb : z ≠ b) : G17 v z v0 v1 v2 v3 v4 v5 v6 v7 v8 v9 v10 v11 v12 v13 v14 v15 v16 := by
  have e := fun o => k.cell (o := o) h.lt hb
  exact ⟨Nat.lt_of_lt_of_le h.lt k.size, (e _).trans h.c0, (e _).trans h.c1, (e _).trans h.c2, (e _).trans h.c3, (e _).trans h.c4, (e _).trans h.c5, (e _).trans h.c6, (e _).trans h.c7, (e _).trans h.c8, (e _).trans h.c9, (e _).trans h.c10, (e _).trans h.c11, (e _).trans h.c12, (e _).trans h.c13, (e _).trans h.c14, (e _).trans h.c15, (e _).trans h.c16, fun o => (k.frozen h.lt hb).trans (h.fr o)⟩
theorem G17.there {u : World} {z : Nat} {v0 v1 v2 v3 v4 v5 v6 v7 v8 v9 v10 v11 v12 v13 v14 v15 v16 : Value} (h : G17 u z v0 v1 v2 v3 v4 v5 v6 v7 v8 v9 v10 v11 v12 v13 v14 v15 v16) : u.there z 0 17 := fun j hj => by
  match j, hj with
  | 0, _ => exact ⟨by show (u.cell? ⟨z, 0, none⟩).isSome = true; rw [h.c0]; rfl, h.fr 0⟩
  | 1, _ => exact ⟨by show (u.cell? ⟨z, 1, none⟩).isSome = true; rw [h.c1]; rfl, h.fr 1⟩
  | 2, _ => exact ⟨by show (u.cell? ⟨z, 2, none⟩).isSome = true; rw [h.c2]; rfl, h.fr 2⟩
  | 3, _ => exact ⟨by show (u.cell? ⟨z, 3, none⟩).isSome = true; rw [h.c3]; rfl, h.fr 3⟩
  | 4, _ => exact ⟨by show (u.cell? ⟨z, 4, none⟩).isSome = true; rw [h.c4]; rfl, h.fr 4⟩
  | 5, _ => exact ⟨by show (u.cell? ⟨z, 5, none⟩).isSome = true; rw [h.c5]; rfl, h.fr 5⟩
  | 6, _ => exact ⟨by show (u.cell? ⟨z, 6, none⟩).isSome = true; rw [h.c6]; rfl, h.fr 6⟩
  | 7, _ => exact ⟨by show (u.cell? ⟨z, 7, none⟩).isSome = true; rw [h.c7]; rfl, h.fr 7⟩
  | 8, _ => exact ⟨by show (u.cell? ⟨z, 8, none⟩).isSome = true; rw [h.c8]; rfl, h.fr 8⟩
  | 9, _ => exact ⟨by show (u.cell? ⟨z, 9, none⟩).isSome = true; rw [h.c9]; rfl, h.fr 9⟩
  | 10, _ => exact ⟨by show (u.cell? ⟨z, 10, none⟩).isSome = true; rw [h.c10]; rfl, h.fr 10⟩
  | 11, _ => exact ⟨by show (u.cell? ⟨z, 11, none⟩).isSome = true; rw [h.c11]; rfl, h.fr 11⟩
  | 12, _ => exact ⟨by show (u.cell? ⟨z, 12, none⟩).isSome = true; rw [h.c12]; rfl, h.fr 12⟩
  | 13, _ => exact ⟨by show (u.cell? ⟨z, 13, none⟩).isSome = true; rw [h.c13]; rfl, h.fr 13⟩
  | 14, _ => exact ⟨by show (u.cell? ⟨z, 14, none⟩).isSome = true; rw [h.c14]; rfl, h.fr 14⟩
  | 15, _ => exact ⟨by show (u.cell? ⟨z, 15, none⟩).isSome = true; rw [h.c15]; rfl, h.fr 15⟩
  | 16, _ => exact ⟨by show (u.cell? ⟨z, 16, none⟩).isSome = true; rw [h.c16]; rfl, h.fr 16⟩
  | n + 17, h => exact absurd h (by omega)
theorem g17_new (w : World) (T : TypeId) : G17 (w.alloc (.cells #[.int .i64 0, .int .i64 0, .bool false, .bool false, .bool false, .bool false, .bool false, .int .i64 0, .int .i64 0, .slice none 0 0, .slice none 0 0, .int .i64 0, .slice none 0 0, .slice none 0 0, .slice none 0 0, .int .i64 0, .int .i64 0] T)) w.heap.size (.int .i64 0) (.int .i64 0) (.bool false) (.bool false) (.bool false) (.bool false) (.bool false) (.int .i64 0) (.int .i64 0) (.slice none 0 0) (.slice none 0 0) (.int .i64 0) (.slice none 0 0) (.slice none 0 0) (.slice none 0 0) (.int .i64 0) (.int .i64 0) :=
  ⟨by simp, by go_simp, by go_simp, by go_simp, by go_simp, by go_simp, by go_simp, by go_simp, by go_simp, by go_simp, by go_simp, by go_simp, by go_simp, by go_simp, by go_simp, by go_simp, by go_simp, by go_simp, fun o => by go_simp⟩
theorem G17.gm {u : World} {z : Nat} {ggp ggs ggc ggl : Int} {ggst ggsk ggre ggfe ggag : Bool} {gga1 gga2 : Option Addr} {ggan1 ggac1 ggan2 ggac2 : Nat} {ggap : Int} {ggm : Option Addr} {ggmn ggmc : Nat} {ggb1 ggb2 : Option Addr} {ggbn1 ggbc1 ggbn2 ggbc2 : Nat} {ggbp ggrg : Int} (h : G17 u z (.int .i64 ggp) (.int .i64 ggs) (.bool ggst) (.bool ggsk) (.bool ggre) (.bool ggfe) (.bool ggag) (.int .i64 ggc) (.int .i64 ggl) (.slice gga1 ggan1 ggac1) (.slice gga2 ggan2 ggac2) (.int .i64 ggap) (.slice ggm ggmn ggmc) (.slice ggb1 ggbn1 ggbc1) (.slice ggb2 ggbn2 ggbc2) (.int .i64 ggbp) (.int .i64 ggrg)) : GmAt u z ggp ggs ggc ggl ggst ggsk ggre ggfe ggag gga1 gga2 ggan1 ggac1 ggan2 ggac2 ggap ggm ggmn ggmc ggb1 ggb2 ggbn1 ggbc1 ggbn2 ggbc2 ggbp ggrg := ⟨h.lt, h.c0, h.c1, h.c2, h.c3, h.c4, h.c5, h.c6, h.c7, h.c8, h.c9, h.c10, h.c11, h.c12, h.c13, h.c14, h.c15, h.c16⟩
theorem G17.setR {u : World} {z : Nat} {v0 v1 v2 v3 v4 v5 v6 v7 v8 v9 v10 v11 v12 v13 v14 v15 v16 : Value} (h : G17 u z v0 v1 v2 v3 v4 v5 v6 v7 v8 v9 v10 v11 v12 v13 v14 v15 v16) (x0 x1 x2 x3 x4 x5 x6 x7 x8 : Value) : G17 (((((((((u.setCell ⟨z, 0, none⟩ x0).setCell ⟨z, 1, none⟩ x1).setCell ⟨z, 2, none⟩ x2).setCell ⟨z, 3, none⟩ x3).setCell ⟨z, 4, none⟩ x4).setCell ⟨z, 5, none⟩ x5).setCell ⟨z, 6, none⟩ x6).setCell ⟨z, 7, none⟩ x7).setCell ⟨z, 8, none⟩ x8) z x0 x1 x2 x3 x4 x5 x6 x7 x8 v9 v10 v11 v12 v13 v14 v15 v16 := by
  obtain ⟨zl, z0, z1, z2, z3, z4, z5, z6, z7, z8, z9, z10, z11, z12, z13, z14, z15, z16, zf⟩ := h
  have f0 := zf 0
  have f1 := zf 1
  have f2 := zf 2
  have f3 := zf 3
  have f4 := zf 4
  have f5 := zf 5
  have f6 := zf 6
  have f7 := zf 7
  have f8 := zf 8
  exact ⟨by simpa using zl, by go_simp, by go_simp, by go_simp, by go_simp, by go_simp, by go_simp, by go_simp, by go_simp, by go_simp, by go_simp, by go_simp, by go_simp, by go_simp, by go_simp, by go_simp, by go_simp, by go_simp, fun o => by have := zf o; go_simp⟩
theorem but_setR (z : Nat) (u : World) (x0 x1 x2 x3 x4 x5 x6 x7 x8 : Value) : But z u (((((((((u.setCell ⟨z, 0, none⟩ x0).setCell ⟨z, 1, none⟩ x1).setCell ⟨z, 2, none⟩ x2).setCell ⟨z, 3, none⟩ x3).setCell ⟨z, 4, none⟩ x4).setCell ⟨z, 5, none⟩ x5).setCell ⟨z, 6, none⟩ x6).setCell ⟨z, 7, none⟩ x7).setCell ⟨z, 8, none⟩ x8) := (((((((((But.refl z u).setCell (p := ⟨z, 0, none⟩) rfl x0).setCell (p := ⟨z, 1, none⟩) rfl x1).setCell (p := ⟨z, 2, none⟩) rfl x2).setCell (p := ⟨z, 3, none⟩) rfl x3).setCell (p := ⟨z, 4, none⟩) rfl x4).setCell (p := ⟨z, 5, none⟩) rfl x5).setCell (p := ⟨z, 6, none⟩) rfl x6).setCell (p := ⟨z, 7, none⟩) rfl x7).setCell (p := ⟨z, 8, none⟩) rfl x8
theorem G17.setS {u : World} {z : Nat} {v0 v1 v2 v3 v4 v5 v6 v7 v8 v9 v10 v11 v12 v13 v14 v15 v16 : Value} (h : G17 u z v0 v1 v2 v3 v4 v5 v6 v7 v8 v9 v10 v11 v12 v13 v14 v15 v16) (x9 x10 x11 : Value) : G17 (((u.setCell ⟨z, 9, none⟩ x9).setCell ⟨z, 10, none⟩ x10).setCell ⟨z, 11, none⟩ x11) z v0 v1 v2 v3 v4 v5 v6 v7 v8 x9 x10 x11 v12 v13 v14 v15 v16 := by
  obtain ⟨zl, z0, z1, z2, z3, z4, z5, z6, z7, z8, z9, z10, z11, z12, z13, z14, z15, z16, zf⟩ := h
  have f9 := zf 9
  have f10 := zf 10
  have f11 := zf 11
  exact ⟨by simpa using zl, by go_simp, by go_simp, by go_simp, by go_simp, by go_simp, by go_simp, by go_simp, by go_simp, by go_simp, by go_simp, by go_simp, by go_simp, by go_simp, by go_simp, by go_simp, by go_simp, by go_simp, fun o => by have := zf o; go_simp⟩
theorem but_setS (z : Nat) (u : World) (x9 x10 x11 : Value) : But z u (((u.setCell ⟨z, 9, none⟩ x9).setCell ⟨z, 10, none⟩ x10).setCell ⟨z, 11, none⟩ x11) := (((But.refl z u).setCell (p := ⟨z, 9, none⟩) rfl x9).setCell (p := ⟨z, 10, none⟩) rfl x10).setCell (p := ⟨z, 11, none⟩) rfl x11
theorem G17.setM {u : World} {z : Nat} {v0 v1 v2 v3 v4 v5 v6 v7 v8 v9 v10 v11 v12 v13 v14 v15 v16 : Value} (h : G17 u z v0 v1 v2 v3 v4 v5 v6 v7 v8 v9 v10 v11 v12 v13 v14 v15 v16) (x12 : Value) : G17 (u.setCell ⟨z, 12, none⟩ x12) z v0 v1 v2 v3 v4 v5 v6 v7 v8 v9 v10 v11 x12 v13 v14 v15 v16 := by
  obtain ⟨zl, z0, z1, z2, z3, z4, z5, z6, z7, z8, z9, z10, z11, z12, z13, z14, z15, z16, zf⟩ := h
  have f12 := zf 12
  exact ⟨by simpa using zl, by go_simp, by go_simp, by go_simp, by go_simp, by go_simp, by go_simp, by go_simp, by go_simp, by go_simp, by go_simp, by go_simp, by go_simp, by go_simp, by go_simp, by go_simp, by go_simp, by go_simp, fun o => by have := zf o; go_simp⟩
theorem but_setM (z : Nat) (u : World) (x12 : Value) : But z u (u.setCell ⟨z, 12, none⟩ x12) := (But.refl z u).setCell (p := ⟨z, 12, none⟩) rfl x12
theorem G17.setN {u : World} {z : Nat} {v0 v1 v2 v3 v4 v5 v6 v7 v8 v9 v10 v11 v12 v13 v14 v15 v16 : Value} (h : G17 u z v0 v1 v2 v3 v4 v5 v6 v7 v8 v9 v10 v11 v12 v13 v14 v15 v16) (x13 x14 x15 : Value) : G17 (((u.setCell ⟨z, 13, none⟩ x13).setCell ⟨z, 14, none⟩ x14).setCell ⟨z, 15, none⟩ x15) z v0 v1 v2 v3 v4 v5 v6 v7 v8 v9 v10 v11 v12 x13 x14 x15 v16 := by
  obtain ⟨zl, z0, z1, z2, z3, z4, z5, z6, z7, z8, z9, z10, z11, z12, z13, z14, z15, z16, zf⟩ := h
  have f13 := zf 13
  have f14 := zf 14
  have f15 := zf 15
  exact ⟨by simpa using zl, by go_simp, by go_simp, by go_simp, by go_simp, by go_simp, by go_simp, by go_simp, by go_simp, by go_simp, by go_simp, by go_simp, by go_simp, by go_simp, by go_simp, by go_simp, by go_simp, by go_simp, fun o => by have := zf o; go_simp⟩
theorem but_setN (z : Nat) (u : World) (x13 x14 x15 : Value) : But z u (((u.setCell ⟨z, 13, none⟩ x13).setCell ⟨z, 14, none⟩ x14).setCell ⟨z, 15, none⟩ x15) := (((But.refl z u).setCell (p := ⟨z, 13, none⟩) rfl x13).setCell (p := ⟨z, 14, none⟩) rfl x14).setCell (p := ⟨z, 15, none⟩) rfl x15
theorem G17.setG {u : World} {z : Nat} {v0 v1 v2 v3 v4 v5 v6 v7 v8 v9 v10 v11 v12 v13 v14 v15 v16 : Value} (h : G17 u z v0 v1 v2 v3 v4 v5 v6 v7 v8 v9 v10 v11 v12 v13 v14 v15 v16) (x16 : Value) : G17 (u.setCell ⟨z, 16, none⟩ x16) z v0 v1 v2 v3 v4 v5 v6 v7 v8 v9 v10 v11 v12 v13 v14 v15 x16 := by
  obtain ⟨zl, z0, z1, z2, z3, z4, z5, z6, z7, z8, z9, z10, z11, z12, z13, z14, z15, z16, zf⟩ := h
  have f16 := zf 16
  exact ⟨by simpa using zl, by go_simp, by go_simp, by go_simp, by go_simp, by go_simp, by go_simp, by go_simp, by go_simp, by go_simp, by go_simp, by go_simp, by go_simp, by go_simp, by go_simp, by go_simp, by go_simp, by go_simp, fun o => by have := zf o; go_simp⟩
theorem but_setG (z : Nat) (u : World) (x16 : Value) : But z u (u.setCell ⟨z, 16, none⟩ x16) := (But.refl z u).setCell (p := ⟨z, 16, none⟩) rfl x16
end Go.Proofs.Ytmngmbpdiaocjaa
