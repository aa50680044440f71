/- Mv7, Tk6, Rm7, Mk7, Mk8, Mk9, Mk10, Mk11, Res7, Mk12, Rm8, Mv8, one after the other (what the laws reach of them). No conditions. -/
import Derived.Test.YtdhkfkfoibddnaaWc2
import Derived.Test.YtdhkfkfoibddnaaEnd5
import Derived.Test.YtdhkfkfoibddnaaFeed7
import Derived.Deep.MidRow
import Derived.BigFrame
namespace Go.Proofs.Ytdhkfkfoibddnaa
open Go.Joins Go.ChangeShapes Go.WideShapes Go.ChangeAt Go.RowKit Go.Deep
set_option linter.unusedVariables false
set_option maxHeartbeats 8000000
set_option maxRecDepth 100000
/- Mv7 -/
def inM (p move : Int) : Bool := decide (0 ≤ move) && decide (move < p)
def mvV (k : Bool) (p pp : Int) (st sk re : Bool) (xs ys : List Int) (move : Int) : Option Res :=
 if k && (inM p move && decide (xs.getD (pp * p + move).toNat 0 ≠ 0)) then mvF ⟨p, pp, st, sk, re⟩ 100 xs ys (pp * p + move) 0 [] else none
def mvCd (k : Bool) (p pp : Int) (st sk re : Bool) (xs ys : List Int) (move : Int) : Int :=
 if k then (if inM p move then (if xs.getD (pp * p + move).toNat 0 = 0 then 6 else if (mvF ⟨p, pp, st, sk, re⟩ 100 xs ys (pp * p + move) 0 []).isNone then 10 else 0) else 2) else 1
theorem mv_cases {p s c l : Int} {st sk re ag : Bool} {n1 n2 : Nat} {pp : Int} {xs ys : List Int} {k : Bool} (hk : okP (okR p s c l st ag) p n1 n2 pp xs ys = k) (l1 : xs.length = n1) (move : Int) (M : Int → Option Res → Prop)
  (h1 : k = false → M 1 none) (h2 : k = true → ¬ (0 ≤ move ∧ move < p) → M 2 none)
  (h6 : k = true → 0 ≤ move → move < p → ∀ F : Nat, F < n1 → pp * p + move = F → xs.getD F 0 = 0 → M 6 none)
  (hy : k = true → 0 ≤ move → move < p → ∀ F : Nat, F < n1 → pp * p + move = F → xs.getD F 0 ≠ 0 → ∀ MV, mvF ⟨p, pp, st, sk, re⟩ 100 xs ys F 0 [] = MV → M (if MV.isNone then 10 else 0) MV) :
  M (mvCd k p pp st sk re xs ys move) (mvV k p pp st sk re xs ys move) := by
 unfold mvCd mvV
 cases k
 ·simpa using h1 rfl
 ·by_cases hm : 0 ≤ move ∧ move < p
  ·have e1 : inM p move = true := by unfold inM; simp [hm.1, hm.2]
   obtain ⟨q1, q2, q3, q4, -⟩ := okP_parts hk
   obtain ⟨r1, r2, -⟩ := okR_bd q1
   have hmul : 0 ≤ pp * p ∧ pp * p ≤ p := by
    rcases (by omega : pp = 0 ∨ pp = 1) with e | e <;> subst e <;> omega
   obtain ⟨F, hF⟩ : ∃ F : Nat, pp * p + move = F := ⟨(pp * p + move).toNat, by omega⟩
   have hF1 : F < n1 := by omega
   rw [hF, e1]
   simp only [Bool.true_and, Int.toNat_natCast, if_true]
   by_cases he : xs.getD F 0 = 0
   ·rw [if_pos he, if_neg (by simpa using he)]
    exact h6 rfl hm.1 hm.2 F hF1 hF he
   ·have hd : decide (xs.getD F 0 ≠ 0) = true := decide_eq_true he
    rw [if_neg he, hd]
    exact hy rfl hm.1 hm.2 F hF1 hF he _ rfl
  ·have e1 : inM p move = false := by
    unfold inM
    by_cases h : 0 ≤ move
    ·simp; omega
    ·simp [h]
   rw [e1]
   simpa using h2 rfl hm
theorem pl_of_ok {p s c l : Int} {st ag : Bool} {n1 n2 : Nat} {pp : Int} {xs ys : List Int} (hk : okP (okR p s c l st ag) p n1 n2 pp xs ys = true) : n2 = 2 ∧ (pp = 0 ∨ pp = 1) := by
 obtain ⟨q1, q2, q3, q4, -⟩ := okP_parts hk
 exact ⟨q3, by omega⟩
theorem l05Move_any (p s c l : Int) (st sk re fe ag : Bool) (p1 p2 : Option Addr) (pn1 pc1 pn2 pc2 : Nat) (pp : Int) (xs ys : List Int) (rb pb : Nat) (move : Int) (w : World) (hr : RuAt w rb p s c l st sk re fe ag) (hq : PoAt w pb p1 p2 pn1 pc1 pn2 pc2 pp) (h : PosR w p1 p2 pn1 pn2 xs ys) (k : Bool) (hk : okP (okR p s c l st ag) p pn1 pn2 pp xs ys = k) :
  Calls Try.prog 66 #[.pointer (some ⟨rb, 0, none⟩), .pointer (some ⟨pb, 0, none⟩), .int .i64 move] w (SwC pn1 (mvCd k p pp st sk re xs ys move) (mvV k p pp st sk re xs ys move) w) := by
 refine mv_cases (sk := sk) (re := re) hk h.l1 move (fun cd MV => Calls Try.prog 66 #[.pointer (some ⟨rb, 0, none⟩), .pointer (some ⟨pb, 0, none⟩), .int .i64 move] w (SwC pn1 cd MV w)) ?_ ?_ ?_ ?_
 ·intro e
  exact l05Move_err rb pb move 1 rfl w (fun u hu => code_invalid p s c l st sk re fe ag _ _ _ _ _ _ _ xs ys rb pb move u (hr.below hu) (hq.below hu) (h.below hu) (hk.trans e))
 ·intro e hm
  exact l05Move_err rb pb move 2 rfl w (fun u hu => code_range p s c l st sk re fe ag _ _ _ _ _ _ _ xs ys rb pb move u (hr.below hu) (hq.below hu) (h.below hu) (hk.trans e) hm)
 ·intro e m0 m1 F hF hf he
  exact l05Move_err rb pb move 6 rfl w (fun u hu => code_empty p s c l st sk re fe ag _ _ _ _ _ _ _ xs ys rb pb move u (hr.below hu) (hq.below hu) (h.below hu) (hk.trans e) F hF hf m0 m1 he)
 ·intro e m0 m1 F hF hf he MV hMV
  have hk1 := hk.trans e
  obtain ⟨rfl, hpl⟩ := pl_of_ok hk1
  have hC : Calls Try.prog 66 #[.pointer (some ⟨rb, 0, none⟩), .pointer (some ⟨pb, 0, none⟩), .int .i64 move] w (SwC pn1 10 MV w) := by
   rcases hpl with rfl | rfl
   ·exact l05Move_yes0 p s c l st sk re fe ag p1 p2 pn1 pc1 pc2 xs ys F rb pb move w hr hq h hk1 hF hf m0 m1 he MV hMV
   ·exact l05Move_yes1 p s c l st sk re fe ag p1 p2 pn1 pc1 pc2 xs ys F rb pb move w hr hq h hk1 hF hf m0 m1 he MV hMV
  cases MV
  ·exact hC
  ·exact hC
def SoV (n1 : Nat) (cd : Int) (MV : Option Res) (w : World) (e : Ending) (w' : World) : Prop :=
 match MV with
 | none => SoZ 0 0 0 0 cd [] [] w e w'
 | some m => SoZ n1 2 m.last m.laps 0 m.xs m.ys w e w'
theorem implMove_any (p s c l : Int) (st sk re fe ag : Bool) (p1 p2 : Option Addr) (pn1 pc1 pn2 pc2 : Nat) (pp : Int) (xs ys : List Int) (move : Int) (w : World) (h : PosR w p1 p2 pn1 pn2 xs ys) (k : Bool) (hk : okP (okR p s c l st ag) p pn1 pn2 pp xs ys = k) :
  Calls Try.prog 70 #[.agg #[.int .i64 p, .int .i64 s, .bool st, .bool sk, .bool re, .bool fe, .bool ag, .int .i64 c, .int .i64 l], .agg #[.slice p1 pn1 pc1, .slice p2 pn2 pc2, .int .i64 pp], .int .i64 move] w (SoV pn1 (mvCd k p pp st sk re xs ys move) (mvV k p pp st sk re xs ys move) w) := by
 refine mv_cases (sk := sk) (re := re) hk h.l1 move (fun cd MV => Calls Try.prog 70 #[.agg #[.int .i64 p, .int .i64 s, .bool st, .bool sk, .bool re, .bool fe, .bool ag, .int .i64 c, .int .i64 l], .agg #[.slice p1 pn1 pc1, .slice p2 pn2 pc2, .int .i64 pp], .int .i64 move] w (SoV pn1 cd MV w)) ?_ ?_ ?_ ?_
 ·intro e
  exact implMove_err p s c l st sk re fe ag p1 p2 pn1 pc1 pn2 pc2 pp move 1 rfl w (fun u hu => begin_invalid p s c l st sk re fe ag _ _ _ _ _ _ _ xs ys move u (h.below hu) (hk.trans e))
 ·intro e hm
  exact implMove_err p s c l st sk re fe ag p1 p2 pn1 pc1 pn2 pc2 pp move 2 rfl w (fun u hu => begin_range p s c l st sk re fe ag _ _ _ _ _ _ _ xs ys move u (h.below hu) (hk.trans e) hm)
 ·intro e m0 m1 F hF hf he
  exact implMove_err p s c l st sk re fe ag p1 p2 pn1 pc1 pn2 pc2 pp move 6 rfl w (fun u hu => begin_empty p s c l st sk re fe ag _ _ _ _ _ _ _ xs ys move u (h.below hu) (hk.trans e) F hF hf m0 m1 he)
 ·intro e m0 m1 F hF hf he MV hMV
  have hk1 := hk.trans e
  obtain ⟨rfl, hpl⟩ := pl_of_ok hk1
  have hC : Calls Try.prog 70 #[.agg #[.int .i64 p, .int .i64 s, .bool st, .bool sk, .bool re, .bool fe, .bool ag, .int .i64 c, .int .i64 l], .agg #[.slice p1 pn1 pc1, .slice p2 2 pc2, .int .i64 pp], .int .i64 move] w (MvQ pn1 MV w) := by
   rcases hpl with rfl | rfl
   ·exact implMove0 p s c l st sk re fe ag p1 p2 pn1 pc1 2 pc2 xs ys move w h hk1 F hF hf m0 m1 he MV hMV
   ·exact implMove1 p s c l st sk re fe ag p1 p2 pn1 pc1 2 pc2 xs ys move w h hk1 F hF hf m0 m1 he MV hMV
  cases MV
  ·exact hC
  ·exact hC
/- Tk6 -/
theorem fin_of {p s c l pp : Int} {st sk re ag : Bool} {n1 n2 : Nat} {xs ys : List Int} {F : Nat} (hk : okP (okR p s c l st ag) p n1 n2 pp xs ys = true) (l1 : xs.length = n1) (l2 : ys.length = n2) (hF : F < n1) (he : xs.getD F 0 ≠ 0) {m : Res} (h : mvF ⟨p, pp, st, sk, re⟩ 100 xs ys F 0 [] = some m) :
  Fin ⟨p, pp, st, sk, re⟩ (tot xs + tot ys) ys m := by
 obtain ⟨q1, -, -, q4, -⟩ := okP_parts hk
 obtain ⟨r1, r2, -⟩ := okR_bd q1
 exact mvF_fin ⟨r1, r2, by show pp = 0 ∨ pp = 1; omega⟩ (lap_of_ok hk l1 l2 hF he) (way_start _ _) (by omega) h
theorem mvV_fin {p s c l pp : Int} {st sk re ag : Bool} {n1 n2 : Nat} {xs ys : List Int} {k : Bool} (hk : okP (okR p s c l st ag) p n1 n2 pp xs ys = k) (l1 : xs.length = n1) (l2 : ys.length = n2) {move : Int} {m : Res} (h : mvV k p pp st sk re xs ys move = some m) :
  k = true ∧ 0 ≤ move ∧ move < p ∧ mvCd k p pp st sk re xs ys move = 0 ∧ Fin ⟨p, pp, st, sk, re⟩ (tot xs + tot ys) ys m := by
 refine mv_cases (sk := sk) (re := re) hk l1 move (fun cd MV => MV = some m → k = true ∧ 0 ≤ move ∧ move < p ∧ cd = 0 ∧ Fin ⟨p, pp, st, sk, re⟩ (tot xs + tot ys) ys m) ?_ ?_ ?_ ?_ h
 ·intro _ e; cases e
 ·intro _ _ e; cases e
 ·intro _ _ _ _ _ _ _ e; cases e
 ·rintro e m0 m1 F hF hf he MV hMV rfl
  exact ⟨e, m0, m1, rfl, fin_of (hk.trans e) l1 l2 hF he hMV⟩
theorem mvV_none {p s c l pp : Int} {st sk re ag : Bool} {n1 n2 : Nat} {xs ys : List Int} {k : Bool} (hk : okP (okR p s c l st ag) p n1 n2 pp xs ys = k) (l1 : xs.length = n1) {move : Int} (h : mvV k p pp st sk re xs ys move = none) :
  mvCd k p pp st sk re xs ys move = 1 ∨ mvCd k p pp st sk re xs ys move = 2 ∨ mvCd k p pp st sk re xs ys move = 6 ∨ mvCd k p pp st sk re xs ys move = 10 := by
 refine mv_cases (sk := sk) (re := re) hk l1 move (fun cd MV => MV = none → cd = 1 ∨ cd = 2 ∨ cd = 6 ∨ cd = 10) ?_ ?_ ?_ ?_ h
 ·intros; omega
 ·intros; omega
 ·intros; omega
 ·rintro e m0 m1 F hF hf he MV hMV rfl
  exact .inr (.inr (.inr rfl))
theorem good_fin (p s c l : Int) (st sk re fe ag : Bool) {pp t : Int} {n1 : Nat} {y0 : List Int} {m : Res} {xs ys : List Int} {n2 : Nat} (hk : okP (okR p s c l st ag) p n1 n2 pp xs ys = true) (f : Fin ⟨p, pp, st, sk, re⟩ (tot xs + tot ys) y0 m) : Good p s c l st sk re fe ag pp n1 2 m.last m.xs m.ys ∧ m.xs.length = n1 ∧ m.ys.length = 2 := by
 obtain ⟨k1, k2, k3, k4, k5⟩ := okP_parts hk
 obtain ⟨m1, m2, -, -, m5, m6, -⟩ := okR_bd k1
 obtain ⟨s1, s2, s3⟩ := seedB_parts k5
 have ht := f.brd.tot
 have hx : (m.xs.length : Int) = 2 * p := f.brd.lx
 exact ⟨⟨k1, ⟨m1, m2⟩, ⟨m5, m6⟩, k2, rfl, by omega, f.brd.px, f.brd.py, by omega, f.lo, f.hi⟩, by omega, f.brd.ly⟩
def fbS (c l p pp : Int) (m : Res) : Bool := decide (l = 1) && slamF c p pp m.last m.xs
def fbF (c l p pp : Int) (fe : Bool) (xs : List Int) (m : Res) : Bool := (fe && noneO p pp xs) && noneO p pp (tkX c l p pp m.last m.xs)
def illB (c l p pp : Int) (fe : Bool) (xs : List Int) (m : Res) : Bool := fbS c l p pp m || fbF c l p pp fe xs m
def lgV (c l p pp : Int) (fe : Bool) (xs : List Int) (MV : Option Res) : Option Res :=
 match MV with
 | none => none
 | some m => if illB c l p pp fe xs m then none else some m
def lgC (c l p pp : Int) (fe : Bool) (xs : List Int) (cd : Int) (MV : Option Res) : Int :=
 match MV with
 | none => cd
 | some m => if illB c l p pp fe xs m then 9 else 0
def agV (ag : Bool) (m : Res) : Bool := ag && decide (m.last = -1)
def gnV (c l p pp : Int) (ys : List Int) (m : Res) : Int := (tkY c l p pp m.last m.xs m.ys).getD pp.toNat 0 - ys.getD pp.toNat 0
def nxV (ag : Bool) (pp : Int) (m : Res) : Int := if agV ag m then pp else 1 - pp
/- Rm7 -/
theorem quiet_sR {P : Program} {f : FuncId} {args : Array Value} {W w : World} {v : Value} (h : Calls P f args W (Still v W)) (hw : ∃ m, W = w.drewN m) :
  Calls P f args W fun e w'' => e = .returned v ∧ ∃ m, w'' = w.drewN m := h.mono fun _ _ ⟨he, m, hm⟩ => ⟨he, by
   obtain ⟨k, hk⟩ := hw
   exact ⟨k + m, by rw [hm, hk, World.drewN_drewN]⟩⟩
structure Z6 (u : World) (z : Nat) : Prop where
 lt : z < u.heap.size
 c0 : u.cell? ⟨z, 0, none⟩ = some (.int .i64 0)
 c1 : u.cell? ⟨z, 1, none⟩ = some (.int .i64 0)
 c2 : u.cell? ⟨z, 2, none⟩ = some (.bool false)
 c3 : u.cell? ⟨z, 3, none⟩ = some (.slice none 0 0)
 c4 : u.cell? ⟨z, 4, none⟩ = some (.slice none 0 0)
 c5 : u.cell? ⟨z, 5, none⟩ = some (.int .i64 0)
 fr : ∀ o, u.frozen? ⟨z, o, none⟩ = false
theorem Z6.below {u v : World} {z : Nat} (h : Z6 u z) (k : Below u.heap.size u v) : Z6 v z := by
 have e := fun o => k.cell (p := ⟨z, o, none⟩) h.lt
 exact ⟨Nat.lt_of_lt_of_le h.lt k.size, (e _).trans h.c0, (e _).trans h.c1, (e _).trans h.c2, (e _).trans h.c3, (e _).trans h.c4, (e _).trans h.c5, fun o => (k.frozen (p := ⟨z, o, none⟩) h.lt).trans (h.fr o)⟩
theorem z6_new (w : World) (T : TypeId) : Z6 (w.alloc (.cells #[.int .i64 0, .int .i64 0, .bool false, .slice none 0 0, .slice none 0 0, .int .i64 0] T)) w.heap.size :=
 ⟨by simp, by go_simp, by go_simp, by go_simp, by go_simp, by go_simp, by go_simp, fun o => by go_simp⟩
theorem below6 {B z : Nat} {w u : World} (h : Below B w u) (hz : B ≤ z) (x0 x1 x2 x3 x4 x5 : Value) : Below B w ((((((u.setCell ⟨z, 0, none⟩ x0).setCell ⟨z, 1, none⟩ x1).setCell ⟨z, 2, none⟩ x2).setCell ⟨z, 3, none⟩ x3).setCell ⟨z, 4, none⟩ x4).setCell ⟨z, 5, none⟩ x5) :=
 ((((((h.setCell (p := ⟨z, 0, none⟩) hz x0).setCell (p := ⟨z, 1, none⟩) hz x1).setCell (p := ⟨z, 2, none⟩) hz x2).setCell (p := ⟨z, 3, none⟩) hz x3).setCell (p := ⟨z, 4, none⟩) hz x4).setCell (p := ⟨z, 5, none⟩) hz x5)
def MrE (cd : Int) (w : World) (e : Ending) (w' : World) : Prop := e = .returned (.tuple #[.agg #[.int .i64 0, .int .i64 0, .bool false, .slice none 0 0, .slice none 0 0, .int .i64 0], .int .i64 cd]) ∧ Below w.heap.size w w'
def LkAt (w : World) (rb pb s0 : Nat) (p s c l : Int) (st sk re fe ag : Bool) (p1 p2 : Option Addr) (pn1 pc1 pn2 pc2 : Nat) (pp : Int) (s1 s2 : Option Addr) (sn1 sc1 sn2 sc2 : Nat) (sp sq : Int) (u : World) : Prop := RuAt u rb p s c l st sk re fe ag ∧ PoAt u pb p1 p2 pn1 pc1 pn2 pc2 pp ∧ SoAt u s0 s1 s2 sn1 sc1 sn2 sc2 sp sq ∧ OnW w u
section
variable {w u v : World} {rb pb s0 : Nat} {p s c l : Int} {st sk re fe ag : Bool} {p1 p2 : Option Addr} {pn1 pc1 pn2 pc2 : Nat} {pp : Int} {s1 s2 : Option Addr} {sn1 sc1 sn2 sc2 : Nat} {sp sq : Int}
theorem LkAt.below (h : LkAt w rb pb s0 p s c l st sk re fe ag p1 p2 pn1 pc1 pn2 pc2 pp s1 s2 sn1 sc1 sn2 sc2 sp sq u) (k : Below u.heap.size u v) : LkAt w rb pb s0 p s c l st sk re fe ag p1 p2 pn1 pc1 pn2 pc2 pp s1 s2 sn1 sc1 sn2 sc2 sp sq v :=
 ⟨h.1.below k, h.2.1.below k, h.2.2.1.below k, Below.trans h.2.2.2 (Below.mono k (Below.size h.2.2.2))⟩
theorem LkAt.be (h : LkAt w rb pb s0 p s c l st sk re fe ag p1 p2 pn1 pc1 pn2 pc2 pp s1 s2 sn1 sc1 sn2 sc2 sp sq u) : OnW w u := h.2.2.2
end
structure Ot6 (u : World) (z : Nat) (mv gn : Int) (b : Bool) (v3 v4 v5 : Value) : Prop where
 lt : z < u.heap.size
 c0 : u.cell? ⟨z, 0, none⟩ = some (.int .i64 mv)
 c1 : u.cell? ⟨z, 1, none⟩ = some (.int .i64 gn)
 c2 : u.cell? ⟨z, 2, none⟩ = some (.bool b)
 c3 : u.cell? ⟨z, 3, none⟩ = some v3
 c4 : u.cell? ⟨z, 4, none⟩ = some v4
 c5 : u.cell? ⟨z, 5, none⟩ = some v5
 fr : ∀ o, u.frozen? ⟨z, o, none⟩ = false
theorem but3o (z : Nat) (u : World) (x y t : Value) : But z u (((u.setCell ⟨z, 3, none⟩ x).setCell ⟨z, 4, none⟩ y).setCell ⟨z, 5, none⟩ t) :=
 (((But.refl z u).setCell (p := ⟨z, 3, none⟩) rfl x).setCell (p := ⟨z, 4, none⟩) rfl y).setCell (p := ⟨z, 5, none⟩) rfl t
theorem but6 (z : Nat) (u : World) (x0 x1 x2 x3 x4 x5 : Value) : But z u ((((((u.setCell ⟨z, 0, none⟩ x0).setCell ⟨z, 1, none⟩ x1).setCell ⟨z, 2, none⟩ x2).setCell ⟨z, 3, none⟩ x3).setCell ⟨z, 4, none⟩ x4).setCell ⟨z, 5, none⟩ x5) :=
 ((((((But.refl z u).setCell (p := ⟨z, 0, none⟩) rfl x0).setCell (p := ⟨z, 1, none⟩) rfl x1).setCell (p := ⟨z, 2, none⟩) rfl x2).setCell (p := ⟨z, 3, none⟩) rfl x3).setCell (p := ⟨z, 4, none⟩) rfl x4).setCell (p := ⟨z, 5, none⟩) rfl x5
theorem Z6.but {u v : World} {z b : Nat} (h : Z6 u z) (k : But b u v) (hb : z ≠ b) : Z6 v z := by
 have e := fun o => k.cell (o := o) h.lt hb
 exact ⟨Nat.lt_of_lt_of_le h.lt k.size, (e _).trans h.c0, (e _).trans h.c1, (e _).trans h.c2, (e _).trans h.c3, (e _).trans h.c4, (e _).trans h.c5, fun o => (k.frozen h.lt hb).trans (h.fr o)⟩
theorem ot6_next {u : World} {z : Nat} {mv gn : Int} {b : Bool} {v3 v4 v5 : Value} (h : Ot6 u z mv gn b v3 v4 v5) (x y t : Value) : Ot6 (((u.setCell ⟨z, 3, none⟩ x).setCell ⟨z, 4, none⟩ y).setCell ⟨z, 5, none⟩ t) z mv gn b x y t := by
 obtain ⟨zl, z0, z1, z2, z3, z4, z5, zf⟩ := h
 have f3 := zf 3
 have f4 := zf 4
 have f5 := zf 5
 exact ⟨by simpa using zl, by go_simp, by go_simp, by go_simp, by go_simp, by go_simp, by go_simp, fun o => by have := zf o; go_simp⟩
theorem Ot6.drew {u : World} {z : Nat} {mv gn : Int} {b : Bool} {v3 v4 v5 : Value} (h : Ot6 u z mv gn b v3 v4 v5) : Ot6 u.drew z mv gn b v3 v4 v5 := ⟨h.lt, h.c0, h.c1, h.c2, h.c3, h.c4, h.c5, h.fr⟩
theorem ot6_new (w : World) (T : TypeId) (mv gn : Int) (b : Bool) (v3 v4 v5 : Value) : Ot6 (w.alloc (.cells #[.int .i64 mv, .int .i64 gn, .bool b, v3, v4, v5] T)) w.heap.size mv gn b v3 v4 v5 :=
 ⟨by simp, by go_simp, by go_simp, by go_simp, by go_simp, by go_simp, by go_simp, fun o => by go_simp⟩
def Kp6 (w : World) (rb pb t0 : Nat) (p s c l : Int) (st sk re fe ag : Bool) (p1 p2 : Option Addr) (pn1 pc1 pn2 pc2 : Nat) (pp : Int) (t1 t2 : Option Addr) (tn1 tc1 tn2 tc2 : Nat) (tp tq : Int) (xs ys us vs : List Int) (g1 g2 : Nat) (u : World) : Prop :=
 LkAt w rb pb t0 p s c l st sk re fe ag p1 p2 pn1 pc1 pn2 pc2 pp t1 t2 tn1 tc1 tn2 tc2 tp tq u ∧ Z6 u w.heap.size ∧ PosR u p1 p2 pn1 pn2 xs ys ∧ PosO u (w.heap.size + 1) t1 t2 g1 g2 tn1 tn2 us vs ∧ w.heap.size < t0
section
variable {w u v : World} {rb pb t0 : Nat} {p s c l : Int} {st sk re fe ag : Bool} {p1 p2 : Option Addr} {pn1 pc1 pn2 pc2 : Nat} {pp : Int} {t1 t2 : Option Addr} {tn1 tc1 tn2 tc2 : Nat} {tp tq : Int} {xs ys us vs : List Int} {g1 g2 : Nat}
theorem Kp6.below (h : Kp6 w rb pb t0 p s c l st sk re fe ag p1 p2 pn1 pc1 pn2 pc2 pp t1 t2 tn1 tc1 tn2 tc2 tp tq xs ys us vs g1 g2 u) (k : Below u.heap.size u v) : Kp6 w rb pb t0 p s c l st sk re fe ag p1 p2 pn1 pc1 pn2 pc2 pp t1 t2 tn1 tc1 tn2 tc2 tp tq xs ys us vs g1 g2 v :=
 ⟨h.1.below k, h.2.1.below k, h.2.2.1.below k, h.2.2.2.1.below k, h.2.2.2.2⟩
theorem Kp6.drew (h : Kp6 w rb pb t0 p s c l st sk re fe ag p1 p2 pn1 pc1 pn2 pc2 pp t1 t2 tn1 tc1 tn2 tc2 tp tq xs ys us vs g1 g2 u) : Kp6 w rb pb t0 p s c l st sk re fe ag p1 p2 pn1 pc1 pn2 pc2 pp t1 t2 tn1 tc1 tn2 tc2 tp tq xs ys us vs g1 g2 u.drew := h.below (Below.refl _ _).drew
end
def MrL (c l p pp : Int) (ag : Bool) (pn1 : Nat) (xs ys : List Int) (move : Int) (m : Res) (b : Bool) (w : World) (e : Ending) (w' : World) : Prop :=
 if b = true then MrE 9 w e w' else
 ∃ g1 k1 g2 k2, e = .returned (.tuple #[.agg #[.int .i64 move, .int .i64 (gnV c l p pp ys m), .bool (agV ag m), .slice (some ⟨g1, 0, none⟩) pn1 k1, .slice (some ⟨g2, 0, none⟩) 2 k2, .int .i64 (nxV ag pp m)], .int .i64 0]) ∧
  PosO w' w.heap.size (some ⟨g1, 0, none⟩) (some ⟨g2, 0, none⟩) g1 g2 pn1 2 (tkX c l p pp m.last m.xs) (tkY c l p pp m.last m.xs m.ys) ∧ g1 < w'.heap.size ∧ g2 < w'.heap.size ∧ pn1 ≤ k1 ∧ 2 ≤ k2 ∧ Below w.heap.size w w'
theorem mrL_leg {c l p pp : Int} {ag : Bool} {pn1 : Nat} {xs ys : List Int} {move : Int} {m : Res} {w u : World} {g1 k1 g2 k2 : Nat} {gn nx : Int} {b : Bool} (hg : gnV c l p pp ys m = gn) (hb : agV ag m = b) (hn : nxV ag pp m = nx)
  (ho : PosO u w.heap.size (some ⟨g1, 0, none⟩) (some ⟨g2, 0, none⟩) g1 g2 pn1 2 (tkX c l p pp m.last m.xs) (tkY c l p pp m.last m.xs m.ys)) (h1 : g1 < u.heap.size) (h2 : g2 < u.heap.size) (h3 : pn1 ≤ k1) (h4 : 2 ≤ k2) (h : OnW w u) :
  MrL c l p pp ag pn1 xs ys move m false w (.returned (.tuple #[.agg #[.int .i64 move, .int .i64 gn, .bool b, .slice (some ⟨g1, 0, none⟩) pn1 k1, .slice (some ⟨g2, 0, none⟩) 2 k2, .int .i64 nx], .int .i64 0])) u := by
 unfold MrL
 rw [if_neg Bool.false_ne_true, hg, hb, hn]
 exact ⟨g1, k1, g2, k2, rfl, ho, h1, h2, h3, h4, h⟩
theorem mrL_ill {c l p pp : Int} {ag : Bool} {pn1 : Nat} {xs ys : List Int} {move : Int} {m : Res} {w u : World} (h : OnW w u) : MrL c l p pp ag pn1 xs ys move m true w (.returned (.tuple #[.agg #[.int .i64 0, .int .i64 0, .bool false, .slice none 0 0, .slice none 0 0, .int .i64 0], .int .i64 9])) u := by
 unfold MrL
 rw [if_pos rfl]
 exact ⟨rfl, h⟩
theorem l07Make_err (p s c l : Int) (st sk re fe ag : Bool) (rb pb n1 : Nat) (move cd : Int) (hcd : (cd == 0) = false) (w : World) (hC : ∀ u, Below w.heap.size w u → Calls Try.prog 66 #[.pointer (some ⟨rb, 0, none⟩), .pointer (some ⟨pb, 0, none⟩), .int .i64 move] u (SwC n1 cd none u)) :
  Calls Try.prog 49 #[.pointer (some ⟨rb, 0, none⟩), .pointer (some ⟨pb, 0, none⟩), .int .i64 move] w (MrE cd w) := by
 have HC := Lib.hid hC
 have HB := Lib.hid (al1 w (.cells #[.int .i64 0, .int .i64 0, .bool false, .slice none 0 0, .slice none 0 0, .int .i64 0] 66))
 have HZ := Lib.hid (z6_new w 66)
 have hcd2 : (cd != 0) = true := by simpa [bne] using hcd
 clear hC
 go_enter Try.func49, Try.ntmps49
 go_wp2_with fail
 refine (HC.out _ HB.out).mono ?_
 generalize w.alloc (.cells #[.int .i64 0, .int .i64 0, .bool false, .slice none 0 0, .slice none 0 0, .int .i64 0] 66) = u at *
 rintro e u2 ⟨rfl, hb⟩
 have HB2 := Lib.hid (show OnW w u2 from Below.trans HB.out (Below.mono hb HB.out.size))
 have HZ2 := Lib.hid (HZ.out.below hb)
 obtain ⟨zl, z0, z1, z2, z3, z4, z5, zf⟩ := HZ2.out
 have f0 := zf 0
 have f1 := zf 1
 have f2 := zf 2
 have f3 := zf 3
 have f4 := zf 4
 have f5 := zf 5
 have hne : u2.heap.size ≠ w.heap.size := by omega
 have hne' : w.heap.size ≠ u2.heap.size := by omega
 clear hb zf
 go_wp2_with fail
 refine bodyPost_ret (v := .tuple #[.agg #[.int .i64 0, .int .i64 0, .bool false, .slice none 0 0, .slice none 0 0, .int .i64 0], .int .i64 cd]) (by simp [results, Try.results49, go_sem, z0, z1, z2, z3, z4, z5, zl]) rfl ⟨rfl, ?_⟩
 exact OnW.below (show OnW w _ from below6 HB2.out (Nat.le_refl _) _ _ _ _ _ _) (al1 _ _)
theorem l07Make_some (p s c l : Int) (st sk re fe ag : Bool) (p1 p2 : Option Addr) (pn1 pc1 pc2 : Nat) (pp move : Int) (xs ys : List Int) (rb pb : Nat) (m : Res) (w : World) (hr : RuAt w rb p s c l st sk re fe ag) (hq : PoAt w pb p1 p2 pn1 pc1 2 pc2 pp) (h : PosR w p1 p2 pn1 2 xs ys) (hk : okP (okR p s c l st ag) p pn1 2 pp xs ys = true) (fin : Fin ⟨p, pp, st, sk, re⟩ (tot xs + tot ys) ys m)
  (hC : ∀ u, Below w.heap.size w u → Calls Try.prog 66 #[.pointer (some ⟨rb, 0, none⟩), .pointer (some ⟨pb, 0, none⟩), .int .i64 move] u (SwC pn1 0 (some m) u)) :
  Calls Try.prog 49 #[.pointer (some ⟨rb, 0, none⟩), .pointer (some ⟨pb, 0, none⟩), .int .i64 move] w (MrL c l p pp ag pn1 xs ys move m (illB c l p pp fe xs m) w) := by
 have HC := Lib.hid hC
 have H0 := Lib.hid h
 have Hk := Lib.hid hk
 have HG := Lib.hid (good_fin (t := 0) p s c l st sk re fe ag hk fin)
 have HB := Lib.hid (al1 w (.cells #[.int .i64 0, .int .i64 0, .bool false, .slice none 0 0, .slice none 0 0, .int .i64 0] 66))
 have HZ := Lib.hid (z6_new w 66)
 have HR := Lib.hid hr
 have HQ := Lib.hid hq
 clear hC h hk fin hr hq
 go_enter Try.func49, Try.ntmps49
 go_wp2_with fail
 refine (HC.out _ HB.out).mono ?_
 generalize w.alloc (.cells #[.int .i64 0, .int .i64 0, .bool false, .slice none 0 0, .slice none 0 0, .int .i64 0] 66) = u at *
 rintro e u2 ⟨e1, c1, e2, c2, v, rfl, ho, hl1, hl2, hc1, hc2, hown, hb⟩
 have HB2 := Lib.hid (show OnW w u2 from Below.trans HB.out (Below.mono hb HB.out.size))
 have HZ2 := Lib.hid (HZ.out.below hb)
 have HL := Lib.hid (show LkAt w rb pb u2.heap.size p s c l st sk re fe ag p1 p2 pn1 pc1 2 pc2 pp (some ⟨e1, 0, none⟩) (some ⟨e2, 0, none⟩) pn1 c1 2 c2 m.last m.laps (u2.alloc (.cells #[.slice (some ⟨e1, 0, none⟩) pn1 c1, .slice (some ⟨e2, 0, none⟩) 2 c2, .int .i64 m.last, .int .i64 m.laps] 50)) from ⟨(HR.out.below HB2.out).below (al1 _ _), (HQ.out.below HB2.out).below (al1 _ _), so_new _ _ _ _ _ _ _ _ u2 50, OnW.below HB2.out (al1 _ _)⟩)
 have HZ2 := Lib.hid (HZ2.out.below (al1 u2 (.cells #[.slice (some ⟨e1, 0, none⟩) pn1 c1, .slice (some ⟨e2, 0, none⟩) 2 c2, .int .i64 m.last, .int .i64 m.laps] 50)))
 have HSr := Lib.hid (ho.r.alloc (.cells #[.slice (some ⟨e1, 0, none⟩) pn1 c1, .slice (some ⟨e2, 0, none⟩) 2 c2, .int .i64 m.last, .int .i64 m.laps] 50))
 have hs0w : w.heap.size < u2.heap.size := Nat.lt_of_lt_of_le HZ.out.lt hb.size
 clear hb hown ho hl1 hl2
 go_upto_region 4 with fail
 generalize hU3 : u2.alloc (.cells #[.slice (some ⟨e1, 0, none⟩) pn1 c1, .slice (some ⟨e2, 0, none⟩) 2 c2, .int .i64 m.last, .int .i64 m.laps] 50) = u3 at *
 generalize hS0 : u2.heap.size = s0 at *
 clear hU3 hS0
 go_cut [37] (fun s37 wx => s37 = .bool (fbS c l p pp m) ∧ LkAt w rb pb s0 p s c l st sk re fe ag p1 p2 pn1 pc1 2 pc2 pp (some ⟨e1, 0, none⟩) (some ⟨e2, 0, none⟩) pn1 c1 2 c2 m.last m.laps wx ∧ Z6 wx w.heap.size ∧ PosR wx (some ⟨e1, 0, none⟩) (some ⟨e2, 0, none⟩) pn1 2 m.xs m.ys)
 case first =>
  obtain ⟨_, g0, g1, g2, g3, g4, g5, g6, g7, g8⟩ := HL.out.1
  obtain ⟨_, t0, t1, t2⟩ := HL.out.2.1
  by_cases hl : l = 1
  ·subst hl
   have e0 : fbS c 1 p pp m = slamF c p pp m.last m.xs := by unfold fbS; simp
   have E0 := Lib.hid e0
   clear e0
   go_wp2_with fail
   refine (l06Slam_any p s c 1 st sk re fe ag pp (some ⟨e1, 0, none⟩) (some ⟨e2, 0, none⟩) pn1 c1 2 c2 m.last m.laps m.xs m.ys rb _ _ HL.out.1 HL.out.2.2.1 HSr.out HG.out.1).mono ?_
   rintro e w5 ⟨rfl, hb5⟩
   have HL := Lib.hid (HL.out.below hb5)
   have HZ2 := Lib.hid (HZ2.out.below hb5)
   have HSr := Lib.hid (HSr.out.below hb5)
   clear hb5 g0 g1 g2 g3 g4 g5 g6 g7 g8 t0 t1 t2
   go_wp2_with fail
   go_meet
   exact ⟨by rw [E0.out], HL.out, HZ2.out, HSr.out⟩
  ·have d : (l == 1) = false := by simpa using hl
   have e0 : fbS c l p pp m = false := by unfold fbS; simp [hl]
   have E0 := Lib.hid e0
   clear e0 hl
   go_wp2_with fail
   go_meet
   exact ⟨by rw [E0.out], HL.out, HZ2.out, HSr.out⟩
 case rest =>
  obtain ⟨rfl, hL, hZ, hS⟩ := hcut
  have HL := Lib.hid hL
  have HZ2 := Lib.hid hZ
  have HSr := Lib.hid hS
  clear hL hZ hS
  rcases hfb : fbS c l p pp m with _ | _
  ·have HIl : Hid (illB c l p pp fe xs m = fbF c l p pp fe xs m) := Lib.hid (by unfold illB; rw [hfb, Bool.false_or])
   clear hfb
   obtain ⟨_, t0, t1, t2⟩ := HL.out.2.1
   have hww : w.heap.size + 1 ≤ wc.heap.size := HZ2.out.lt
   go_wp2_with fail
   refine (l06Take_any p s c l st sk re fe ag pp _ _ pn1 c1 c2 m.last m.laps m.xs m.ys rb _ wc HL.out.1 HL.out.2.2.1 HSr.out HG.out.1).mono ?_
   rintro e w5 ⟨k1, kc1, k2, kc2, rfl, hto, htl1, htl2, htc1, htc2, hb5⟩
   have HL := Lib.hid (HL.out.below hb5)
   have HZ2 := Lib.hid (HZ2.out.below hb5)
   have hwc : w.heap.size < w5.heap.size := HZ2.out.lt
   have HO := Lib.hid (show PosO w5 (w.heap.size + 1) _ _ _ _ _ _ _ _ from PosO.lower hto hww)
   have HKp := Lib.hid (show Kp6 w rb pb w5.heap.size p s c l st sk re fe ag p1 p2 pn1 pc1 2 pc2 pp (some ⟨k1, 0, none⟩) (some ⟨k2, 0, none⟩) pn1 kc1 2 kc2 m.last m.laps xs ys (tkX c l p pp m.last m.xs) (tkY c l p pp m.last m.xs m.ys) k1 k2 (w5.alloc (.cells #[.slice (some ⟨k1, 0, none⟩) pn1 kc1, .slice (some ⟨k2, 0, none⟩) 2 kc2, .int .i64 m.last, .int .i64 m.laps] 50)) from
    ⟨⟨HL.out.1.below (al1 _ _), HL.out.2.1.below (al1 _ _), so_new _ _ _ _ _ _ _ _ w5 50, OnW.below HL.out.be (al1 _ _)⟩, HZ2.out.below (al1 _ _), (H0.out.below HL.out.be).below (al1 _ _), HO.out.below (al1 _ _), hwc⟩)
   clear HL HZ2 HSr HO H0 hto hb5 HB2 HZ HB t0 t1 t2 HR HQ HC
   go_upto_region 7 with fail
   generalize hT : w5.heap.size = T0 at *
   generalize w5.alloc (.cells #[.slice (some ⟨k1, 0, none⟩) pn1 kc1, .slice (some ⟨k2, 0, none⟩) 2 kc2, .int .i64 m.last, .int .i64 m.laps] 50) = w8 at *
   clear hT
   have hw1 : IntKind.i64.wrap (1 - pp) = 1 - pp := IntWalk.i64_in _ ⟨by have := HG.out.1.pl; omega, by have := HG.out.1.pl; omega⟩
   go_cut [59] (fun s59 wx => s59 = .bool (fbF c l p pp fe xs m) ∧ Kp6 w rb pb T0 p s c l st sk re fe ag p1 p2 pn1 pc1 2 pc2 pp (some ⟨k1, 0, none⟩) (some ⟨k2, 0, none⟩) pn1 kc1 2 kc2 m.last m.laps xs ys (tkX c l p pp m.last m.xs) (tkY c l p pp m.last m.xs m.ys) k1 k2 wx ∧ k1 < wx.heap.size ∧ k2 < wx.heap.size)
   case first =>
    have HFd : Hid (∀ q, Calls Try.prog 68 #[.pointer (some ⟨rb, 0, none⟩), .pointer (some ⟨pb, 0, none⟩)] (w8.drewN q) (Still (.bool (fe && noneO p pp xs)) (w8.drewN q))) := Lib.hid (fun q => l07Feed_any p s c l st sk re fe ag p1 p2 pn1 pc1 2 pc2 pp xs ys rb pb (w8.drewN q) (HKp.out.1.1.below (below_dn (Below.refl _ _) q)) (HKp.out.1.2.1.below (below_dn (Below.refl _ _) q)) (HKp.out.2.2.1.below (below_dn (Below.refl _ _) q)) Hk.out)
    have hsum := HG.out.1.sum HG.out.2.1
    have ht1 := HG.out.1.t1
    have HSd : Hid (∀ q, Calls Try.prog 69 #[.pointer (some ⟨rb, 0, none⟩), .slice (some ⟨k1, 0, none⟩) pn1 kc1, .int .i64 (1 - pp)] (w8.drewN q) fun e w' => e = .returned (.int .i64 (tot (halfL (tkX c l p pp m.last m.xs) p.toNat (1 - pp)))) ∧ w8.drewN q = w') := Lib.hid (fun q => l04Side_p p rb (some ⟨k1, 0, none⟩) kc1 pn1 (tkX c l p pp m.last m.xs) (1 - pp) (w8.drewN q) (HKp.out.1.1.below (below_dn (Below.refl _ _) q)).2.1 (tkX_len.trans HG.out.2.1) (HKp.out.2.2.2.1.o1.row.drewN q) HG.out.1.p2 HG.out.1.n1 (by have := HG.out.1.pl; omega) (HG.out.1.tk HG.out.2.1 HG.out.2.2).1 (by omega))
    have HFF : Hid (fbF c l p pp fe xs m = ((fe && noneO p pp xs) && (tot (halfL (tkX c l p pp m.last m.xs) p.toNat (1 - pp)) == 0))) := Lib.hid rfl
    generalize (fe && noneO p pp xs) = b1 at *
    generalize tot (halfL (tkX c l p pp m.last m.xs) p.toNat (1 - pp)) = TT at *
    obtain ⟨_, t0, t1, t2⟩ := HKp.out.1.2.1
    obtain ⟨_, q0, q1, q2, q3⟩ := HKp.out.1.2.2.1
    clear hsum ht1
    cases b1
    ·go_quiet ((go_at_call 68; exact quiet_sR (HFd.out _) ⟨_, rfl⟩))
     go_wp2_with fail
     go_meet
     exact ⟨by rw [HFF.out]; rfl, HKp.out.below (below_dn (Below.refl _ _) _), Nat.lt_trans htl1 HKp.out.1.2.2.1.1, Nat.lt_trans htl2 HKp.out.1.2.2.1.1⟩
    ·by_cases h0 : TT = 0
     ·have d0 : (TT == 0) = true := by simpa using h0
      have HF1 : Hid (fbF c l p pp fe xs m = true) := Lib.hid (by rw [HFF.out, h0]; rfl)
      clear h0
      go_quiet ((first | (go_at_call 68; exact quiet_sR (HFd.out _) ⟨_, rfl⟩) | (go_at_call 69; exact quiet_w (HSd.out _) ⟨_, rfl⟩)))
      go_wp2_with fail
      go_meet
      exact ⟨by rw [HF1.out], HKp.out.below (below_dn (Below.refl _ _) _), Nat.lt_trans htl1 HKp.out.1.2.2.1.1, Nat.lt_trans htl2 HKp.out.1.2.2.1.1⟩
     ·have d0 : (TT == 0) = false := by simpa using h0
      have HF1 : Hid (fbF c l p pp fe xs m = false) := Lib.hid (by rw [HFF.out]; simp [h0])
      clear h0
      go_quiet ((first | (go_at_call 68; exact quiet_sR (HFd.out _) ⟨_, rfl⟩) | (go_at_call 69; exact quiet_w (HSd.out _) ⟨_, rfl⟩)))
      go_wp2_with fail
      go_meet
      exact ⟨by rw [HF1.out], HKp.out.below (below_dn (Below.refl _ _) _), Nat.lt_trans htl1 HKp.out.1.2.2.1.1, Nat.lt_trans htl2 HKp.out.1.2.2.1.1⟩
   case rest =>
    obtain ⟨rfl, hKp, hl1, hl2⟩ := hcut
    have HKp := Lib.hid hKp
    clear hKp
    rcases hfF : fbF c l p pp fe xs m with _ | _
    ·rw [hfF] at HIl
     clear hfF
     go_upto_region 9 with fail
     obtain ⟨P, hP⟩ : ∃ P : Nat, pp = (P : Int) := ⟨pp.toNat, by have := HG.out.1.pl; omega⟩
     have hP2 : P < 2 := by have := HG.out.1.pl; omega
     have hv : (tkY c l p pp m.last m.xs m.ys)[P]? = some ((tkY c l p pp m.last m.xs m.ys).getD P 0) := getD_at (by rw [tkY_len, HG.out.2.2]; exact hP2)
     have hz : ys[P]? = some (ys.getD P 0) := getD_at (by rw [HKp.out.2.2.1.l2]; exact hP2)
     obtain ⟨g', o', rfl, hgl', hcs'⟩ := HKp.out.2.2.1.r2.2.resolve_left (by intro e; subst e; cases hz)
     have hcy := hcs' _ _ hz
     have hct : wc.cell? ⟨k2, P, none⟩ = some (.int .i64 ((tkY c l p pp m.last m.xs m.ys).getD P 0)) := by
      obtain ⟨g, o, e, _, hcs⟩ := HKp.out.2.2.2.1.o2.row.2.resolve_left (by intro e; rw [e] at hv; cases hv)
      cases e
      have := hcs _ _ hv
      simpa using this
     have hyb := (HG.out.1.tk HG.out.2.1 HG.out.2.2)
     have hv0 := posB_getD hyb.2.1 P
     have hv1 := getD_le hyb.2.1 P
     have hv2 := posB_tot hyb.1
     have hy0 := posB_getD (seedB_parts (okP_parts Hk.out).2.2.2.2).2.1 P
     have hy1 := getD_le (seedB_parts (okP_parts Hk.out).2.2.2.2).2.1 P
     have hy2 := posB_tot (seedB_parts (okP_parts Hk.out).2.2.2.2).1
     have hy3 := (seedB_parts (okP_parts Hk.out).2.2.2.2).2.2
     have hx3 := HG.out.1.q3
     have HGn : Hid (gnV c l p pp ys m = (tkY c l p pp m.last m.xs m.ys).getD P 0 - ys.getD P 0) := Lib.hid (by unfold gnV; rw [hP, Int.toNat_natCast])
     generalize htv : (tkY c l p pp m.last m.xs m.ys).getD P 0 = tv at *
     generalize hyv : ys.getD P 0 = yv at *
     have hwg : IntKind.i64.wrap (tv - yv) = tv - yv := IntWalk.i64_in _ ⟨by omega, by omega⟩
     have z0 : (0 : Int) ≤ (P : Int) := by omega
     have z1 : (P : Int) < 2 := by omega
     have HTV := Lib.hid (And.intro htv hyv)
     have HP := Lib.hid hP
     have hT0 := HKp.out.1.2.2.1.1
     have hwT := HKp.out.2.2.2.2
     have hpbl := HKp.out.1.2.1.1
     have hrbl := HKp.out.1.1.1
     have HT : Hid (∀ u : World, OnW wc u → (pb < u.heap.size ∧ u.cell? ⟨pb, 1, none⟩ = some (.slice (some ⟨g', o', none⟩) 2 pc2) ∧ u.cell? ⟨pb, 2, none⟩ = some (.int .i64 P)) ∧ (T0 < u.heap.size ∧ u.cell? ⟨T0, 1, none⟩ = some (.slice (some ⟨k2, 0, none⟩) 2 kc2) ∧ u.cell? ⟨T0, 2, none⟩ = some (.int .i64 m.last)) ∧ (rb < u.heap.size ∧ u.cell? ⟨rb, 6, none⟩ = some (.bool ag)) ∧ u.cell? ⟨k2, P, none⟩ = some (.int .i64 tv) ∧ u.cell? ⟨g', o' + P, none⟩ = some (.int .i64 yv) ∧ Below wc.heap.size wc u) := Lib.hid (fun u hu => by
       have h1 := HKp.out.1.2.1.below hu
       have h2 := HKp.out.1.2.2.1.below hu
       have h3 := HKp.out.1.1.below hu
       rw [hP] at h1
       exact ⟨⟨h1.1, h1.2.2.1, h1.2.2.2⟩, ⟨h2.1, h2.2.2.1, h2.2.2.2.1⟩, ⟨h3.1, h3.2.2.2.2.2.2.2.1⟩, (hu.cell (p := ⟨k2, P, none⟩) hl2).trans hct, (hu.cell (p := ⟨g', o' + P, none⟩) hgl').trans hcy, hu⟩)
     clear hv hz hcs' hcy hct hyb hv0 hv1 hv2 hy0 hy1 hy2 hy3 hx3 htv hyv hP
     have HB8 := Lib.hid (show OnW wc wc from Below.refl _ _)
     go_cut [12] (fun s12 wx => ∃ O : Nat, s12 = .pointer (some ⟨O, 0, none⟩) ∧ wc.heap.size ≤ O ∧ Ot6 wx O move (tv - yv) (ag && decide (m.last = -1)) (.slice none 0 0) (.slice none 0 0) (.int .i64 0) ∧ Below wc.heap.size wc wx)
     case first =>
      cases ag
      ·refine wp_region_noPanic ?_
       refine wp_region_held_drew (S := fun u => (pb < u.heap.size ∧ u.cell? ⟨pb, 1, none⟩ = some (.slice (some ⟨g', o', none⟩) 2 pc2) ∧ u.cell? ⟨pb, 2, none⟩ = some (.int .i64 P)) ∧ (T0 < u.heap.size ∧ u.cell? ⟨T0, 1, none⟩ = some (.slice (some ⟨k2, 0, none⟩) 2 kc2) ∧ u.cell? ⟨T0, 2, none⟩ = some (.int .i64 m.last)) ∧ (rb < u.heap.size ∧ u.cell? ⟨rb, 6, none⟩ = some (.bool false)) ∧ u.cell? ⟨k2, P, none⟩ = some (.int .i64 tv) ∧ u.cell? ⟨g', o' + P, none⟩ = some (.int .i64 yv) ∧ Below wc.heap.size wc u) (by kernel_rfl) (HT.out _ HB8.out.drew) (fun hHeld => ?_)
       refine wpAnyH_take (i := 0) (oi := { dst := some 61, op := Op.move (Operand.tmp 2), type := 2, pos := "l07_moves.go:25", after := #[], guard := none }) (v := .int .i64 move) rfl (by kernel_rfl) (by kernel_rfl) (by kernel_rfl) (fun _ _ _ h => h) (Or.inl ⟨by rfl, fun u hu => by (try dsimp only at hu); go_simp; try with_reducible rfl⟩) hHeld ?_
       simp only [Act.put, List.setIfInBounds_toArray, List.set_cons_zero, List.set_cons_succ]
       refine wpAnyH_take (i := 1) (oi := { dst := some 62, op := Op.fieldAddr 50 (Operand.tmp 11) 1, type := 0, pos := "l07_moves.go:25", after := #[], guard := none }) (v := .pointer (some ⟨T0, 1, none⟩)) rfl (by kernel_rfl) (by kernel_rfl) (by kernel_rfl) (fun _ _ _ h => h) (Or.inl ⟨by rfl, fun u hu => by (try dsimp only at hu); go_simp; try with_reducible rfl⟩) hHeld ?_
       simp only [Act.put, List.setIfInBounds_toArray, List.set_cons_zero, List.set_cons_succ]
       refine wpAnyH_take (i := 2) (oi := { dst := some 63, op := Op.load 24 (Operand.tmp 62), type := 24, pos := "l07_moves.go:25", after := #[{ on := 1, ground := Ground.data }], guard := none }) (v := .slice (some ⟨k2, 0, none⟩) 2 kc2) rfl (by kernel_rfl) (by kernel_rfl) (by kernel_rfl) (fun _ _ _ h => h) (Or.inl ⟨by rfl, fun u hu => by (try dsimp only at hu); go_simp; try with_reducible rfl⟩) hHeld ?_
       simp only [Act.put, List.setIfInBounds_toArray, List.set_cons_zero, List.set_cons_succ]
       refine wpAnyH_take (i := 3) (oi := { dst := some 64, op := Op.move (Operand.tmp 1), type := 62, pos := "l07_moves.go:25", after := #[], guard := none }) (v := .pointer (some ⟨pb, 0, none⟩)) rfl (by kernel_rfl) (by kernel_rfl) (by kernel_rfl) (fun _ _ _ h => h) (Or.inl ⟨by rfl, fun u hu => by (try dsimp only at hu); go_simp; try with_reducible rfl⟩) hHeld ?_
       simp only [Act.put, List.setIfInBounds_toArray, List.set_cons_zero, List.set_cons_succ]
       refine wpAnyH_take (i := 4) (oi := { dst := some 65, op := Op.nilCheck (Operand.tmp 64), type := 0, pos := "l07_moves.go:25", after := #[{ on := 3, ground := Ground.data }], guard := none }) (v := .pointer (some ⟨pb, 0, none⟩)) rfl (by kernel_rfl) (by kernel_rfl) (by kernel_rfl) (fun _ _ _ h => h) (Or.inl ⟨by rfl, fun u hu => by (try dsimp only at hu); go_simp; try with_reducible rfl⟩) hHeld ?_
       simp only [Act.put, List.setIfInBounds_toArray, List.set_cons_zero, List.set_cons_succ]
       refine wpAnyH_take (i := 5) (oi := { dst := some 66, op := Op.fieldAddr 32 (Operand.tmp 65) 2, type := 0, pos := "l07_moves.go:25", after := #[{ on := 4, ground := Ground.data }], guard := none }) (v := .pointer (some ⟨pb, 2, none⟩)) rfl (by kernel_rfl) (by kernel_rfl) (by kernel_rfl) (fun _ _ _ h => h) (Or.inl ⟨by rfl, fun u hu => by (try dsimp only at hu); go_simp; try with_reducible rfl⟩) hHeld ?_
       simp only [Act.put, List.setIfInBounds_toArray, List.set_cons_zero, List.set_cons_succ]
       refine wpAnyH_take (i := 6) (oi := { dst := some 67, op := Op.load 2 (Operand.tmp 66), type := 2, pos := "l07_moves.go:25", after := #[{ on := 5, ground := Ground.data }], guard := none }) (v := .int .i64 P) rfl (by kernel_rfl) (by kernel_rfl) (by kernel_rfl) (fun _ _ _ h => h) (Or.inl ⟨by rfl, fun u hu => by (try dsimp only at hu); go_simp; try with_reducible rfl⟩) hHeld ?_
       simp only [Act.put, List.setIfInBounds_toArray, List.set_cons_zero, List.set_cons_succ]
       refine wpAnyH_take (i := 7) (oi := { dst := some 68, op := Op.indexAddr 24 (Operand.tmp 63) (Operand.tmp 67), type := 0, pos := "l07_moves.go:25", after := #[{ on := 2, ground := Ground.data }, { on := 6, ground := Ground.data }], guard := none }) (v := .pointer (some ⟨k2, P, none⟩)) rfl (by kernel_rfl) (by kernel_rfl) (by kernel_rfl) (fun _ _ _ h => h) (Or.inl ⟨by rfl, fun u hu => by (try dsimp only at hu); go_simp; try with_reducible rfl⟩) hHeld ?_
       simp only [Act.put, List.setIfInBounds_toArray, List.set_cons_zero, List.set_cons_succ]
       refine wpAnyH_take (i := 8) (oi := { dst := some 69, op := Op.load 2 (Operand.tmp 68), type := 2, pos := "l07_moves.go:25", after := #[{ on := 7, ground := Ground.data }], guard := none }) (v := .int .i64 tv) rfl (by kernel_rfl) (by kernel_rfl) (by kernel_rfl) (fun _ _ _ h => h) (Or.inl ⟨by rfl, fun u hu => by (try dsimp only at hu); go_simp; try with_reducible rfl⟩) hHeld ?_
       simp only [Act.put, List.setIfInBounds_toArray, List.set_cons_zero, List.set_cons_succ]
       refine wpAnyH_take (i := 9) (oi := { dst := some 70, op := Op.move (Operand.tmp 1), type := 62, pos := "l07_moves.go:25", after := #[], guard := none }) (v := .pointer (some ⟨pb, 0, none⟩)) rfl (by kernel_rfl) (by kernel_rfl) (by kernel_rfl) (fun _ _ _ h => h) (Or.inl ⟨by rfl, fun u hu => by (try dsimp only at hu); go_simp; try with_reducible rfl⟩) hHeld ?_
       simp only [Act.put, List.setIfInBounds_toArray, List.set_cons_zero, List.set_cons_succ]
       refine wpAnyH_take (i := 10) (oi := { dst := some 71, op := Op.nilCheck (Operand.tmp 70), type := 0, pos := "l07_moves.go:25", after := #[{ on := 9, ground := Ground.data }], guard := none }) (v := .pointer (some ⟨pb, 0, none⟩)) rfl (by kernel_rfl) (by kernel_rfl) (by kernel_rfl) (fun _ _ _ h => h) (Or.inl ⟨by rfl, fun u hu => by (try dsimp only at hu); go_simp; try with_reducible rfl⟩) hHeld ?_
       simp only [Act.put, List.setIfInBounds_toArray, List.set_cons_zero, List.set_cons_succ]
       refine wpAnyH_take (i := 11) (oi := { dst := some 72, op := Op.fieldAddr 32 (Operand.tmp 71) 1, type := 0, pos := "l07_moves.go:25", after := #[{ on := 10, ground := Ground.data }], guard := none }) (v := .pointer (some ⟨pb, 1, none⟩)) rfl (by kernel_rfl) (by kernel_rfl) (by kernel_rfl) (fun _ _ _ h => h) (Or.inl ⟨by rfl, fun u hu => by (try dsimp only at hu); go_simp; try with_reducible rfl⟩) hHeld ?_
       simp only [Act.put, List.setIfInBounds_toArray, List.set_cons_zero, List.set_cons_succ]
       refine wpAnyH_take (i := 12) (oi := { dst := some 73, op := Op.load 24 (Operand.tmp 72), type := 24, pos := "l07_moves.go:25", after := #[{ on := 11, ground := Ground.data }], guard := none }) (v := .slice (some ⟨g', o', none⟩) 2 pc2) rfl (by kernel_rfl) (by kernel_rfl) (by kernel_rfl) (fun _ _ _ h => h) (Or.inl ⟨by rfl, fun u hu => by (try dsimp only at hu); go_simp; try with_reducible rfl⟩) hHeld ?_
       simp only [Act.put, List.setIfInBounds_toArray, List.set_cons_zero, List.set_cons_succ]
       refine wpAnyH_take (i := 13) (oi := { dst := some 74, op := Op.move (Operand.tmp 1), type := 62, pos := "l07_moves.go:25", after := #[], guard := none }) (v := .pointer (some ⟨pb, 0, none⟩)) rfl (by kernel_rfl) (by kernel_rfl) (by kernel_rfl) (fun _ _ _ h => h) (Or.inl ⟨by rfl, fun u hu => by (try dsimp only at hu); go_simp; try with_reducible rfl⟩) hHeld ?_
       simp only [Act.put, List.setIfInBounds_toArray, List.set_cons_zero, List.set_cons_succ]
       refine wpAnyH_take (i := 14) (oi := { dst := some 75, op := Op.nilCheck (Operand.tmp 74), type := 0, pos := "l07_moves.go:25", after := #[{ on := 13, ground := Ground.data }], guard := none }) (v := .pointer (some ⟨pb, 0, none⟩)) rfl (by kernel_rfl) (by kernel_rfl) (by kernel_rfl) (fun _ _ _ h => h) (Or.inl ⟨by rfl, fun u hu => by (try dsimp only at hu); go_simp; try with_reducible rfl⟩) hHeld ?_
       simp only [Act.put, List.setIfInBounds_toArray, List.set_cons_zero, List.set_cons_succ]
       refine wpAnyH_take (i := 15) (oi := { dst := some 76, op := Op.fieldAddr 32 (Operand.tmp 75) 2, type := 0, pos := "l07_moves.go:25", after := #[{ on := 14, ground := Ground.data }], guard := none }) (v := .pointer (some ⟨pb, 2, none⟩)) rfl (by kernel_rfl) (by kernel_rfl) (by kernel_rfl) (fun _ _ _ h => h) (Or.inl ⟨by rfl, fun u hu => by (try dsimp only at hu); go_simp; try with_reducible rfl⟩) hHeld ?_
       simp only [Act.put, List.setIfInBounds_toArray, List.set_cons_zero, List.set_cons_succ]
       refine wpAnyH_take (i := 16) (oi := { dst := some 77, op := Op.load 2 (Operand.tmp 76), type := 2, pos := "l07_moves.go:25", after := #[{ on := 15, ground := Ground.data }], guard := none }) (v := .int .i64 P) rfl (by kernel_rfl) (by kernel_rfl) (by kernel_rfl) (fun _ _ _ h => h) (Or.inl ⟨by rfl, fun u hu => by (try dsimp only at hu); go_simp; try with_reducible rfl⟩) hHeld ?_
       simp only [Act.put, List.setIfInBounds_toArray, List.set_cons_zero, List.set_cons_succ]
       refine wpAnyH_take (i := 17) (oi := { dst := some 78, op := Op.indexAddr 24 (Operand.tmp 73) (Operand.tmp 77), type := 0, pos := "l07_moves.go:25", after := #[{ on := 12, ground := Ground.data }, { on := 16, ground := Ground.data }], guard := none }) (v := .pointer (some ⟨g', o' + P, none⟩)) rfl (by kernel_rfl) (by kernel_rfl) (by kernel_rfl) (fun _ _ _ h => h) (Or.inl ⟨by rfl, fun u hu => by (try dsimp only at hu); go_simp; try with_reducible rfl⟩) hHeld ?_
       simp only [Act.put, List.setIfInBounds_toArray, List.set_cons_zero, List.set_cons_succ]
       refine wpAnyH_take (i := 18) (oi := { dst := some 79, op := Op.load 2 (Operand.tmp 78), type := 2, pos := "l07_moves.go:25", after := #[{ on := 17, ground := Ground.data }], guard := none }) (v := .int .i64 yv) rfl (by kernel_rfl) (by kernel_rfl) (by kernel_rfl) (fun _ _ _ h => h) (Or.inl ⟨by rfl, fun u hu => by (try dsimp only at hu); go_simp; try with_reducible rfl⟩) hHeld ?_
       simp only [Act.put, List.setIfInBounds_toArray, List.set_cons_zero, List.set_cons_succ]
       refine wpAnyH_take (i := 19) (oi := { dst := some 80, op := Op.binOp BinOp.sub 2 (Operand.tmp 69) (Operand.tmp 79) 2, type := 2, pos := "l07_moves.go:25", after := #[{ on := 8, ground := Ground.data }, { on := 18, ground := Ground.data }], guard := none }) (v := .int .i64 (tv - yv)) rfl (by kernel_rfl) (by kernel_rfl) (by kernel_rfl) (fun _ _ _ h => h) (Or.inl ⟨by rfl, fun u hu => by (try dsimp only at hu); go_simp; try with_reducible rfl⟩) hHeld ?_
       simp only [Act.put, List.setIfInBounds_toArray, List.set_cons_zero, List.set_cons_succ]
       refine wpAnyH_take (i := 20) (oi := { dst := some 81, op := Op.move (Operand.tmp 0), type := 61, pos := "l07_moves.go:25", after := #[], guard := none }) (v := .pointer (some ⟨rb, 0, none⟩)) rfl (by kernel_rfl) (by kernel_rfl) (by kernel_rfl) (fun _ _ _ h => h) (Or.inl ⟨by rfl, fun u hu => by (try dsimp only at hu); go_simp; try with_reducible rfl⟩) hHeld ?_
       simp only [Act.put, List.setIfInBounds_toArray, List.set_cons_zero, List.set_cons_succ]
       refine wpAnyH_take (i := 21) (oi := { dst := some 82, op := Op.nilCheck (Operand.tmp 81), type := 0, pos := "l07_moves.go:25", after := #[{ on := 20, ground := Ground.data }], guard := none }) (v := .pointer (some ⟨rb, 0, none⟩)) rfl (by kernel_rfl) (by kernel_rfl) (by kernel_rfl) (fun _ _ _ h => h) (Or.inl ⟨by rfl, fun u hu => by (try dsimp only at hu); go_simp; try with_reducible rfl⟩) hHeld ?_
       simp only [Act.put, List.setIfInBounds_toArray, List.set_cons_zero, List.set_cons_succ]
       refine wpAnyH_take (i := 22) (oi := { dst := some 83, op := Op.fieldAddr 30 (Operand.tmp 82) 6, type := 0, pos := "l07_moves.go:25", after := #[{ on := 21, ground := Ground.data }], guard := none }) (v := .pointer (some ⟨rb, 6, none⟩)) rfl (by kernel_rfl) (by kernel_rfl) (by kernel_rfl) (fun _ _ _ h => h) (Or.inl ⟨by rfl, fun u hu => by (try dsimp only at hu); go_simp; try with_reducible rfl⟩) hHeld ?_
       simp only [Act.put, List.setIfInBounds_toArray, List.set_cons_zero, List.set_cons_succ]
       refine wpAnyH_take (i := 23) (oi := { dst := some 84, op := Op.load 4 (Operand.tmp 83), type := 4, pos := "l07_moves.go:25", after := #[{ on := 22, ground := Ground.data }], guard := none }) (v := .bool false) rfl (by kernel_rfl) (by kernel_rfl) (by kernel_rfl) (fun _ _ _ h => h) (Or.inl ⟨by rfl, fun u hu => by (try dsimp only at hu); go_simp; try with_reducible rfl⟩) hHeld ?_
       simp only [Act.put, List.setIfInBounds_toArray, List.set_cons_zero, List.set_cons_succ]
       refine wpAnyH_take (i := 24) (oi := { dst := some 85, op := Op.move (Operand.tmp 84), type := 4, pos := "l07_moves.go:25", after := #[{ on := 23, ground := Ground.data }], guard := none }) (v := .bool false) rfl (by kernel_rfl) (by kernel_rfl) (by kernel_rfl) (fun _ _ _ h => h) (Or.inl ⟨by rfl, fun u hu => by (try dsimp only at hu); go_simp; try with_reducible rfl⟩) hHeld ?_
       simp only [Act.put, List.setIfInBounds_toArray, List.set_cons_zero, List.set_cons_succ]
       refine wpAnyH_take (i := 25) (oi := { dst := some 86, op := Op.fieldAddr 50 (Operand.tmp 11) 2, type := 0, pos := "l07_moves.go:25", after := #[{ on := 24, ground := Ground.guard }], guard := some (24, true) }) (v := undef) rfl (by kernel_rfl) (by kernel_rfl) (by kernel_rfl) (fun _ _ _ h => h) (Or.inr ⟨by rfl, rfl⟩) hHeld ?_
       simp only [Act.put, List.setIfInBounds_toArray, List.set_cons_zero, List.set_cons_succ]
       refine wpAnyH_take (i := 26) (oi := { dst := some 87, op := Op.load 2 (Operand.tmp 86), type := 2, pos := "l07_moves.go:25", after := #[{ on := 25, ground := Ground.data }, { on := 24, ground := Ground.guard }], guard := some (24, true) }) (v := undef) rfl (by kernel_rfl) (by kernel_rfl) (by kernel_rfl) (fun _ _ _ h => h) (Or.inr ⟨by rfl, rfl⟩) hHeld ?_
       simp only [Act.put, List.setIfInBounds_toArray, List.set_cons_zero, List.set_cons_succ]
       refine wpAnyH_take (i := 27) (oi := { dst := some 88, op := Op.binOp BinOp.eql 2 (Operand.tmp 87) (Operand.const (Value.int IntKind.i64 (-1))) 2, type := 4, pos := "l07_moves.go:25", after := #[{ on := 26, ground := Ground.data }, { on := 24, ground := Ground.guard }], guard := some (24, true) }) (v := undef) rfl (by kernel_rfl) (by kernel_rfl) (by kernel_rfl) (fun _ _ _ h => h) (Or.inr ⟨by rfl, rfl⟩) hHeld ?_
       simp only [Act.put, List.setIfInBounds_toArray, List.set_cons_zero, List.set_cons_succ]
       refine wpAnyH_take (i := 28) (oi := { dst := some 89, op := Op.pick (Operand.tmp 85) (Operand.tmp 88) (Operand.const (Value.bool false)), type := 4, pos := "l07_moves.go:25", after := #[{ on := 24, ground := Ground.data }, { on := 27, ground := Ground.data }], guard := none }) (v := .bool false) rfl (by kernel_rfl) (by kernel_rfl) (by kernel_rfl) (fun _ _ _ h => h) (Or.inl ⟨by rfl, fun u hu => by (try dsimp only at hu); go_simp; try with_reducible rfl⟩) hHeld ?_
       simp only [Act.put, List.setIfInBounds_toArray, List.set_cons_zero, List.set_cons_succ]
       refine wpAnyH_take (i := 29) (oi := { dst := some 90, op := Op.build 66 #[(0, Operand.tmp 61), (1, Operand.tmp 80), (2, Operand.tmp 89)], type := 66, pos := "l07_moves.go:25", after := #[{ on := 0, ground := Ground.data }, { on := 19, ground := Ground.data }, { on := 28, ground := Ground.data }], guard := none }) (v := .agg #[.int .i64 move, .int .i64 (tv - yv), .bool false, .slice none 0 0, .slice none 0 0, .int .i64 0]) rfl (by kernel_rfl) (by kernel_rfl) (by kernel_rfl) (fun _ _ _ h => h) (Or.inl ⟨by rfl, fun u hu => by (try dsimp only at hu); go_simp; try with_reducible rfl⟩) hHeld ?_
       simp only [Act.put, List.setIfInBounds_toArray, List.set_cons_zero, List.set_cons_succ]
       refine wpAnyH_ready (rs := [30]) (by kernel_rfl) (by simp) ?_
       refine AllReadyH.cons rfl (fun K hK => ?_) AllReadyH.nil
       rw [if_pos (by rfl)]
       go_simp
       have HB9 := Lib.hid (show OnW wc _ from (HB8.out.below (al1 wc (.cells #[.int .i64 0, .int .i64 0, .bool false, .slice none 0 0, .slice none 0 0, .int .i64 0] 66))).drew)
       refine hK.out _ _ (HT.out _ HB9.out) (fun hHeld => ?_)
       clear hK K
       (try simp only [Act.put, List.setIfInBounds_toArray, List.set_cons_zero, List.set_cons_succ])
       refine wpAnyH_ready (rs := [31]) (by kernel_rfl) (by simp) ?_
       refine AllReadyH.cons rfl (fun K hK => ?_) AllReadyH.nil
       rw [if_pos (by rfl)]
       go_simp
       have HB10 := Lib.hid (show OnW wc _ from (HB8.out.below (al1 wc (.cells #[.int .i64 move, .int .i64 (tv - yv), .bool false, .slice none 0 0, .slice none 0 0, .int .i64 0] 66))).drew)
       refine hK.out _ _ (HT.out _ HB10.out) (fun hHeld => ?_)
       clear hK K
       (try simp only [Act.put, List.setIfInBounds_toArray, List.set_cons_zero, List.set_cons_succ])
       refine wpAnyH_done (by kernel_rfl) ?_ _
       refine NoPanic.normal ?_
       go_wp2_with fail
       go_meet
       exact ⟨wc.heap.size, rfl, Nat.le_refl _, (ot6_new wc 66 move (tv - yv) false (.slice none 0 0) (.slice none 0 0) (.int .i64 0)).drew, HB10.out⟩
      ·go_region_held3 (fun u => (pb < u.heap.size ∧ u.cell? ⟨pb, 1, none⟩ = some (.slice (some ⟨g', o', none⟩) 2 pc2) ∧ u.cell? ⟨pb, 2, none⟩ = some (.int .i64 P)) ∧ (T0 < u.heap.size ∧ u.cell? ⟨T0, 1, none⟩ = some (.slice (some ⟨k2, 0, none⟩) 2 kc2) ∧ u.cell? ⟨T0, 2, none⟩ = some (.int .i64 m.last)) ∧ (rb < u.heap.size ∧ u.cell? ⟨rb, 6, none⟩ = some (.bool true)) ∧ u.cell? ⟨k2, P, none⟩ = some (.int .i64 tv) ∧ u.cell? ⟨g', o' + P, none⟩ = some (.int .i64 yv) ∧ Below wc.heap.size wc u) (first | with_reducible exact HT.out _ HB8.out | with_reducible exact HT.out _ HB8.out.drew | with_reducible exact HT.out _ (HB8.out.below (al1 _ _)) | with_reducible exact HT.out _ (HB8.out.below (al1 _ _)).drew | with_reducible exact HT.out _ (HB8.out.drew.below (al1 _ _)) | with_reducible exact HT.out _ (below6 HB8.out (by omega) _ _ _ _ _ _))
        (fail)
       all_goals go_wp2_with fail
       all_goals go_meet
       all_goals exact ⟨wc.heap.size, rfl, Nat.le_refl _, (ot6_new wc 66 move (tv - yv) (true && decide (m.last = -1)) (.slice none 0 0) (.slice none 0 0) (.int .i64 0)).drew, (HB8.out.below (al1 wc _)).drew⟩
     case rest =>
      obtain ⟨O, rfl, hO, hOt, hbc⟩ := hcut
      have HOt := Lib.hid hOt
      have HKp2 := Lib.hid (HKp.out.below hbc)
      have hl1' := Nat.lt_of_lt_of_le hl1 hbc.size
      have hl2' := Nat.lt_of_lt_of_le hl2 hbc.size
      have hO1 : k1 < O := Nat.lt_of_lt_of_le hl1 hO
      have hO2 : k2 < O := Nat.lt_of_lt_of_le hl2 hO
      have hO3 : w.heap.size < O := by omega
      have HBw := Lib.hid (show OnW w wc from HKp2.out.1.be)
      have hpO : pb ≠ O := by omega
      have HN : Hid (nxV ag pp m = if (ag && decide (m.last = -1)) = true then pp else 1 - pp) := Lib.hid rfl
      have HA : Hid (agV ag m = (ag && decide (m.last = -1))) := Lib.hid rfl
      generalize (ag && decide (m.last = -1)) = bA at *
      generalize tv - yv = gn at *
      clear hOt hbc HT HB8 hO hwg z0 z1 HTV HKp
      have HO := Lib.hid (HOt.out.drew)
      obtain ⟨ol, o0, o1, o2, o3, o4, o5, ofr⟩ := HOt.out
      have f3 := ofr 3
      have f4 := ofr 4
      have f5 := ofr 5
      obtain ⟨_, t0, t1, t2⟩ := HKp2.out.1.2.1
      obtain ⟨_, q0, q1, q2, q3⟩ := HKp2.out.1.2.2.1
      clear ofr o0 o1 o2
      go_wp2_with fail
      go_still_tail 11, (by kernel_rfl)
      change wpList _ _ _ _ _ (World.drew wc)
      go_upto_region 11 with fail
      clear o3 o4 o5 f3 f4 f5 t0 t1 t2 q0 q1 q2 q3
      have hbt := but3o O wc (.slice (some ⟨k1, 0, none⟩) pn1 kc1) (.slice (some ⟨k2, 0, none⟩) 2 kc2) (.int .i64 (1 - pp))
      have HO9 := Lib.hid (show Ot6 ((((wc.setCell ⟨O, 3, none⟩ (.slice (some ⟨k1, 0, none⟩) pn1 kc1)).setCell ⟨O, 4, none⟩ (.slice (some ⟨k2, 0, none⟩) 2 kc2)).setCell ⟨O, 5, none⟩ (.int .i64 (1 - pp))).drew) O move gn bA (.slice (some ⟨k1, 0, none⟩) pn1 kc1) (.slice (some ⟨k2, 0, none⟩) 2 kc2) (.int .i64 (1 - pp)) from (ot6_next HOt.out _ _ _).drew)
      have HZ9 := Lib.hid (show Z6 ((((wc.setCell ⟨O, 3, none⟩ (.slice (some ⟨k1, 0, none⟩) pn1 kc1)).setCell ⟨O, 4, none⟩ (.slice (some ⟨k2, 0, none⟩) 2 kc2)).setCell ⟨O, 5, none⟩ (.int .i64 (1 - pp))).drew) w.heap.size from (HKp2.out.2.1.but hbt (by omega)).below (Below.refl _ _).drew)
      have HP9 := Lib.hid (show PoAt ((((wc.setCell ⟨O, 3, none⟩ (.slice (some ⟨k1, 0, none⟩) pn1 kc1)).setCell ⟨O, 4, none⟩ (.slice (some ⟨k2, 0, none⟩) 2 kc2)).setCell ⟨O, 5, none⟩ (.int .i64 (1 - pp))).drew) pb _ _ _ _ _ _ pp from (HKp2.out.1.2.1.but hbt hpO).below (Below.refl _ _).drew)
      have HK9 := Lib.hid (show PosO ((((wc.setCell ⟨O, 3, none⟩ (.slice (some ⟨k1, 0, none⟩) pn1 kc1)).setCell ⟨O, 4, none⟩ (.slice (some ⟨k2, 0, none⟩) 2 kc2)).setCell ⟨O, 5, none⟩ (.int .i64 (1 - pp))).drew) (w.heap.size + 1) (some ⟨k1, 0, none⟩) (some ⟨k2, 0, none⟩) k1 k2 pn1 2 _ _ from (PosO.but HKp2.out.2.2.2.1 hbt (by omega) (by omega)).below (Below.refl _ _).drew)
      have HB9 := Lib.hid (show OnW w ((((wc.setCell ⟨O, 3, none⟩ (.slice (some ⟨k1, 0, none⟩) pn1 kc1)).setCell ⟨O, 4, none⟩ (.slice (some ⟨k2, 0, none⟩) 2 kc2)).setCell ⟨O, 5, none⟩ (.int .i64 (1 - pp))).drew) from OnW.drew (But.lift HBw.out hbt (by omega)))
      have hl1' : k1 < ((((wc.setCell ⟨O, 3, none⟩ (.slice (some ⟨k1, 0, none⟩) pn1 kc1)).setCell ⟨O, 4, none⟩ (.slice (some ⟨k2, 0, none⟩) 2 kc2)).setCell ⟨O, 5, none⟩ (.int .i64 (1 - pp))).drew).heap.size := by simpa using hl1'
      have hl2' : k2 < ((((wc.setCell ⟨O, 3, none⟩ (.slice (some ⟨k1, 0, none⟩) pn1 kc1)).setCell ⟨O, 4, none⟩ (.slice (some ⟨k2, 0, none⟩) 2 kc2)).setCell ⟨O, 5, none⟩ (.int .i64 (1 - pp))).drew).heap.size := by simpa using hl2'
      generalize ((((wc.setCell ⟨O, 3, none⟩ (.slice (some ⟨k1, 0, none⟩) pn1 kc1)).setCell ⟨O, 4, none⟩ (.slice (some ⟨k2, 0, none⟩) 2 kc2)).setCell ⟨O, 5, none⟩ (.int .i64 (1 - pp))).drew) = w9 at *
      clear hbt HOt HKp2 HBw HO
      have hne : O ≠ w.heap.size := by omega
      have hne' : w.heap.size ≠ O := by omega
      have hpO' : O ≠ pb := Ne.symm hpO
      obtain ⟨ol, o0, o1, o2, o3, o4, o5, ofr⟩ := HO9.out
      have f5 := ofr 5
      obtain ⟨_, -, -, t2⟩ := HP9.out
      obtain ⟨zl, z0, z1, z2, z3, z4, z5, zf⟩ := HZ9.out
      have y0 := zf 0
      have y1 := zf 1
      have y2 := zf 2
      have y3 := zf 3
      have y4 := zf 4
      have y5 := zf 5
      clear zf ofr
      cases bA
      ·go_wp2_with fail
       refine bodyPost_ret (v := .tuple #[.agg #[.int .i64 move, .int .i64 gn, .bool false, .slice (some ⟨k1, 0, none⟩) pn1 kc1, .slice (some ⟨k2, 0, none⟩) 2 kc2, .int .i64 (1 - pp)], .int .i64 0]) (by simp [results, Try.results49, go_sem, z0, z1, z2, z3, z4, z5]) rfl ?_
       rw [HIl.out]
       have hkn1 := HK9.out.o1.new
       have hkn2 := HK9.out.o2.new
       have hbz := but6 w.heap.size w9 (.int .i64 move) (.int .i64 gn) (.bool false) (.slice (some ⟨k1, 0, none⟩) pn1 kc1) (.slice (some ⟨k2, 0, none⟩) 2 kc2) (.int .i64 (1 - pp))
       exact mrL_leg HGn.out HA.out (by have := HN.out; simpa using this) ((PosO.but HK9.out hbz (by omega) (by omega)).lower (Nat.le_succ _)) (by simpa using hl1') (by simpa using hl2') htc1 htc2 (show OnW w _ from below6 HB9.out (Nat.le_refl _) _ _ _ _ _ _)
      ·go_wp2_with fail
       refine bodyPost_ret (v := .tuple #[.agg #[.int .i64 move, .int .i64 gn, .bool true, .slice (some ⟨k1, 0, none⟩) pn1 kc1, .slice (some ⟨k2, 0, none⟩) 2 kc2, .int .i64 pp], .int .i64 0]) (by simp [results, Try.results49, go_sem, z0, z1, z2, z3, z4, z5]) rfl ?_
       rw [HIl.out]
       have hkn1 := HK9.out.o1.new
       have hkn2 := HK9.out.o2.new
       have hbo : But O w9 (w9.setCell ⟨O, 5, none⟩ (.int .i64 pp)) := (But.refl O w9).setCell rfl _
       have hbz := but6 w.heap.size (w9.setCell ⟨O, 5, none⟩ (.int .i64 pp)) (.int .i64 move) (.int .i64 gn) (.bool true) (.slice (some ⟨k1, 0, none⟩) pn1 kc1) (.slice (some ⟨k2, 0, none⟩) 2 kc2) (.int .i64 pp)
       exact mrL_leg HGn.out HA.out (by have := HN.out; simpa using this) ((PosO.but (PosO.but HK9.out hbo (by omega) (by omega)) hbz (by omega) (by omega)).lower (Nat.le_succ _)) (by simpa using hl1') (by simpa using hl2') htc1 htc2 (show OnW w _ from below6 (But.lift HB9.out hbo (by omega)) (Nat.le_refl _) _ _ _ _ _ _)
    ·rw [hfF] at HIl
     clear hfF
     obtain ⟨zl, z0, z1, z2, z3, z4, z5, zf⟩ := HKp.out.2.1
     have f0 := zf 0
     have f1 := zf 1
     have f2 := zf 2
     have f3 := zf 3
     have f4 := zf 4
     have f5 := zf 5
     clear zf
     go_wp2_with fail
     refine bodyPost_ret (v := .tuple #[.agg #[.int .i64 0, .int .i64 0, .bool false, .slice none 0 0, .slice none 0 0, .int .i64 0], .int .i64 9]) (by simp [results, Try.results49, go_sem, z0, z1, z2, z3, z4, z5]) rfl ?_
     rw [HIl.out]
     exact mrL_ill (show OnW w _ from below6 HKp.out.1.be (Nat.le_refl _) _ _ _ _ _ _)
  ·have HIl : Hid (illB c l p pp fe xs m = true) := Lib.hid (by unfold illB; rw [hfb, Bool.true_or])
   clear hfb
   obtain ⟨zl, z0, z1, z2, z3, z4, z5, zf⟩ := HZ2.out
   have f0 := zf 0
   have f1 := zf 1
   have f2 := zf 2
   have f3 := zf 3
   have f4 := zf 4
   have f5 := zf 5
   clear zf
   go_wp2_with fail
   refine bodyPost_ret (v := .tuple #[.agg #[.int .i64 0, .int .i64 0, .bool false, .slice none 0 0, .slice none 0 0, .int .i64 0], .int .i64 9]) (by simp [results, Try.results49, go_sem, z0, z1, z2, z3, z4, z5]) rfl ?_
   rw [HIl.out]
   exact mrL_ill (show OnW w _ from below6 HL.out.be (Nat.le_refl _) _ _ _ _ _ _)
/- Mk7 -/
def MmAt (w : World) (p s c l : Int) (st sk re fe ag : Bool) (player : Int) (s1 s2 : Option Addr) (sn1 sc1 sn2 sc2 : Nat) (sp sq : Int) (p1 p2 : Option Addr) (pn1 pc1 pn2 pc2 : Nat) (pp : Int) (t1 t2 : Option Addr) (tn1 tc1 tn2 tc2 : Nat) (tp tq : Int) (u : World) : Prop := (w.heap.size < u.heap.size ∧ u.cell? ⟨w.heap.size, 0, none⟩ = some (.int .i64 p) ∧ u.cell? ⟨w.heap.size, 1, none⟩ = some (.int .i64 s) ∧ u.cell? ⟨w.heap.size, 2, none⟩ = some (.bool st) ∧ u.cell? ⟨w.heap.size, 3, none⟩ = some (.bool sk) ∧ u.cell? ⟨w.heap.size, 4, none⟩ = some (.bool re) ∧ u.cell? ⟨w.heap.size, 5, none⟩ = some (.bool fe) ∧ u.cell? ⟨w.heap.size, 6, none⟩ = some (.bool ag) ∧ u.cell? ⟨w.heap.size, 7, none⟩ = some (.int .i64 c) ∧ u.cell? ⟨w.heap.size, 8, none⟩ = some (.int .i64 l) ∧ u.cell? ⟨w.heap.size, 9, none⟩ = some (.int .i64 player) ∧ u.cell? ⟨w.heap.size, 10, none⟩ = some (.slice s1 sn1 sc1) ∧ u.cell? ⟨w.heap.size, 11, none⟩ = some (.slice s2 sn2 sc2) ∧ u.cell? ⟨w.heap.size, 12, none⟩ = some (.int .i64 sp) ∧ u.cell? ⟨w.heap.size, 13, none⟩ = some (.int .i64 sq) ∧ u.cell? ⟨w.heap.size, 14, none⟩ = some (.slice p1 pn1 pc1) ∧ u.cell? ⟨w.heap.size, 15, none⟩ = some (.slice p2 pn2 pc2) ∧ u.cell? ⟨w.heap.size, 16, none⟩ = some (.int .i64 pp) ∧ u.cell? ⟨w.heap.size, 17, none⟩ = some (.slice t1 tn1 tc1) ∧ u.cell? ⟨w.heap.size, 18, none⟩ = some (.slice t2 tn2 tc2) ∧ u.cell? ⟨w.heap.size, 19, none⟩ = some (.int .i64 tp) ∧ u.cell? ⟨w.heap.size, 20, none⟩ = some (.int .i64 tq)) ∧ Below w.heap.size w u
section
variable {w u v : World} {p s c l player : Int} {st sk re fe ag : Bool} {s1 s2 : Option Addr} {sn1 sc1 sn2 sc2 : Nat} {sp sq : Int} {p1 p2 : Option Addr} {pn1 pc1 pn2 pc2 : Nat} {pp : Int} {t1 t2 : Option Addr} {tn1 tc1 tn2 tc2 : Nat} {tp tq : Int}
theorem MmAt.below (h : MmAt w p s c l st sk re fe ag player s1 s2 sn1 sc1 sn2 sc2 sp sq p1 p2 pn1 pc1 pn2 pc2 pp t1 t2 tn1 tc1 tn2 tc2 tp tq u) (k : Below u.heap.size u v) : MmAt w p s c l st sk re fe ag player s1 s2 sn1 sc1 sn2 sc2 sp sq p1 p2 pn1 pc1 pn2 pc2 pp t1 t2 tn1 tc1 tn2 tc2 tp tq v := by
 obtain ⟨⟨hb, h⟩, hw⟩ := h
 have e := fun o => k.cell (p := ⟨w.heap.size, o, none⟩) hb
 exact ⟨⟨Nat.lt_of_lt_of_le hb k.size, by rw [e, e, e, e, e, e, e, e, e, e, e, e, e, e, e, e, e, e, e, e, e]; exact h⟩, hw.trans (k.mono hw.size)⟩
theorem MmAt.drew (h : MmAt w p s c l st sk re fe ag player s1 s2 sn1 sc1 sn2 sc2 sp sq p1 p2 pn1 pc1 pn2 pc2 pp t1 t2 tn1 tc1 tn2 tc2 tp tq u) : MmAt w p s c l st sk re fe ag player s1 s2 sn1 sc1 sn2 sc2 sp sq p1 p2 pn1 pc1 pn2 pc2 pp t1 t2 tn1 tc1 tn2 tc2 tp tq u.drew := ⟨h.1, h.2.drew⟩
theorem MmAt.range (h : MmAt w p s c l st sk re fe ag player s1 s2 sn1 sc1 sn2 sc2 sp sq p1 p2 pn1 pc1 pn2 pc2 pp t1 t2 tn1 tc1 tn2 tc2 tp tq u) : u.rangeAt w.heap.size 0 [.int .i64 p, .int .i64 s, .bool st, .bool sk, .bool re, .bool fe, .bool ag, .int .i64 c, .int .i64 l, .int .i64 player, .slice s1 sn1 sc1, .slice s2 sn2 sc2, .int .i64 sp, .int .i64 sq, .slice p1 pn1 pc1, .slice p2 pn2 pc2, .int .i64 pp, .slice t1 tn1 tc1, .slice t2 tn2 tc2, .int .i64 tp, .int .i64 tq] := by
 obtain ⟨⟨_, m0, m1, m2, m3, m4, m5, m6, m7, m8, m9, m10, m11, m12, m13, m14, m15, m16, m17, m18, m19, m20⟩, -⟩ := h
 intro j v hj
 match j, hj with
 | 0, hj => cases hj; exact m0
 | 1, hj => cases hj; exact m1
 | 2, hj => cases hj; exact m2
 | 3, hj => cases hj; exact m3
 | 4, hj => cases hj; exact m4
 | 5, hj => cases hj; exact m5
 | 6, hj => cases hj; exact m6
 | 7, hj => cases hj; exact m7
 | 8, hj => cases hj; exact m8
 | 9, hj => cases hj; exact m9
 | 10, hj => cases hj; exact m10
 | 11, hj => cases hj; exact m11
 | 12, hj => cases hj; exact m12
 | 13, hj => cases hj; exact m13
 | 14, hj => cases hj; exact m14
 | 15, hj => cases hj; exact m15
 | 16, hj => cases hj; exact m16
 | 17, hj => cases hj; exact m17
 | 18, hj => cases hj; exact m18
 | 19, hj => cases hj; exact m19
 | 20, hj => cases hj; exact m20
 | n + 21, hj => simp at hj
theorem MmAt.be (h : MmAt w p s c l st sk re fe ag player s1 s2 sn1 sc1 sn2 sc2 sp sq p1 p2 pn1 pc1 pn2 pc2 pp t1 t2 tn1 tc1 tn2 tc2 tp tq u) : Below w.heap.size w u := h.2
end
theorem mm_new (p s c l : Int) (st sk re fe ag : Bool) (player : Int) (s1 s2 : Option Addr) (sn1 sc1 sn2 sc2 : Nat) (sp sq : Int) (p1 p2 : Option Addr) (pn1 pc1 pn2 pc2 : Nat) (pp : Int) (t1 t2 : Option Addr) (tn1 tc1 tn2 tc2 : Nat) (tp tq : Int) (w : World) (T : TypeId) : MmAt w p s c l st sk re fe ag player s1 s2 sn1 sc1 sn2 sc2 sp sq p1 p2 pn1 pc1 pn2 pc2 pp t1 t2 tn1 tc1 tn2 tc2 tp tq (w.alloc (.cells #[.int .i64 p, .int .i64 s, .bool st, .bool sk, .bool re, .bool fe, .bool ag, .int .i64 c, .int .i64 l, .int .i64 player, .slice s1 sn1 sc1, .slice s2 sn2 sc2, .int .i64 sp, .int .i64 sq, .slice p1 pn1 pc1, .slice p2 pn2 pc2, .int .i64 pp, .slice t1 tn1 tc1, .slice t2 tn2 tc2, .int .i64 tp, .int .i64 tq] T)) :=
 ⟨⟨by simp, by go_simp, by go_simp, by go_simp, by go_simp, by go_simp, by go_simp, by go_simp, by go_simp, by go_simp, by go_simp, by go_simp, by go_simp, by go_simp, by go_simp, by go_simp, by go_simp, by go_simp, by go_simp, by go_simp, by go_simp, by go_simp⟩, (Below.refl _ _).alloc (Nat.le_refl _) _⟩
theorem again_any (p s c l : Int) (st sk re fe ag : Bool) (player : Int) (s1 s2 : Option Addr) (sn1 sc1 sn2 sc2 : Nat) (sp sq : Int) (p1 p2 : Option Addr) (pn1 pc1 pn2 pc2 : Nat) (pp : Int) (t1 t2 : Option Addr) (tn1 tc1 tn2 tc2 : Nat) (tp tq : Int) (w : World) :
  Calls Try.prog 53 #[.agg #[.int .i64 p, .int .i64 s, .bool st, .bool sk, .bool re, .bool fe, .bool ag, .int .i64 c, .int .i64 l, .int .i64 player, .slice s1 sn1 sc1, .slice s2 sn2 sc2, .int .i64 sp, .int .i64 sq, .slice p1 pn1 pc1, .slice p2 pn2 pc2, .int .i64 pp, .slice t1 tn1 tc1, .slice t2 tn2 tc2, .int .i64 tp, .int .i64 tq]] w fun e w' => e = .returned (.bool (ag && decide (sp = -1))) ∧ Below w.heap.size w w' := by
 have HX := Lib.hid (mm_new p s c l st sk re fe ag player s1 s2 sn1 sc1 sn2 sc2 sp sq p1 p2 pn1 pc1 pn2 pc2 pp t1 t2 tn1 tc1 tn2 tc2 tp tq w 75)
 by_cases h : sp = -1
 ·have d : (sp == -1) = true := by simpa using h
  rw [decide_eq_true h]
  clear h
  cases ag
  all_goals
   go_enter Try.func53, Try.ntmps53
   go_wp2_with fail
   go_ret
   exact ⟨rfl, HX.out.be⟩
 ·have d : (sp == -1) = false := by simpa using h
  rw [decide_eq_false h]
  clear h
  cases ag
  all_goals
   go_enter Try.func53, Try.ntmps53
   go_wp2_with fail
   go_ret
   exact ⟨rfl, HX.out.be⟩
theorem nextM_any (p s c l : Int) (st sk re fe ag : Bool) (player : Int) (s1 s2 : Option Addr) (sn1 sc1 sn2 sc2 : Nat) (sp sq : Int) (p1 p2 : Option Addr) (pn1 pc1 pn2 pc2 : Nat) (pp : Int) (t1 t2 : Option Addr) (tn1 tc1 tn2 tc2 : Nat) (tp tq : Int) (w : World) (hpl : player = 0 ∨ player = 1) :
  Calls Try.prog 51 #[.agg #[.int .i64 p, .int .i64 s, .bool st, .bool sk, .bool re, .bool fe, .bool ag, .int .i64 c, .int .i64 l, .int .i64 player, .slice s1 sn1 sc1, .slice s2 sn2 sc2, .int .i64 sp, .int .i64 sq, .slice p1 pn1 pc1, .slice p2 pn2 pc2, .int .i64 pp, .slice t1 tn1 tc1, .slice t2 tn2 tc2, .int .i64 tp, .int .i64 tq]] w fun e w' => e = .returned (.agg #[.slice t1 tn1 tc1, .slice t2 tn2 tc2, .int .i64 (if ag && decide (sp = -1) then player else 1 - player)]) ∧ Below w.heap.size w w' := by
 have HX := Lib.hid ((mm_new p s c l st sk re fe ag player s1 s2 sn1 sc1 sn2 sc2 sp sq p1 p2 pn1 pc1 pn2 pc2 pp t1 t2 tn1 tc1 tn2 tc2 tp tq w 75).below (al1 _ (.cells #[.slice none 0 0, .slice none 0 0, .int .i64 0] 32)))
 have HZ := Lib.hid (show ZeroP _ (w.heap.size + 1) from by have := zero_new (w.alloc (.cells #[.int .i64 p, .int .i64 s, .bool st, .bool sk, .bool re, .bool fe, .bool ag, .int .i64 c, .int .i64 l, .int .i64 player, .slice s1 sn1 sc1, .slice s2 sn2 sc2, .int .i64 sp, .int .i64 sq, .slice p1 pn1 pc1, .slice p2 pn2 pc2, .int .i64 pp, .slice t1 tn1 tc1, .slice t2 tn2 tc2, .int .i64 tp, .int .i64 tq] 75)) 32; simpa using this)
 have HAg : Hid (∀ u, Calls Try.prog 53 #[.agg #[.int .i64 p, .int .i64 s, .bool st, .bool sk, .bool re, .bool fe, .bool ag, .int .i64 c, .int .i64 l, .int .i64 player, .slice s1 sn1 sc1, .slice s2 sn2 sc2, .int .i64 sp, .int .i64 sq, .slice p1 pn1 pc1, .slice p2 pn2 pc2, .int .i64 pp, .slice t1 tn1 tc1, .slice t2 tn2 tc2, .int .i64 tp, .int .i64 tq]] u fun e w' => e = .returned (.bool (ag && decide (sp = -1))) ∧ Below u.heap.size u w') := Lib.hid (fun u => again_any p s c l st sk re fe ag player s1 s2 sn1 sc1 sn2 sc2 sp sq p1 p2 pn1 pc1 pn2 pc2 pp t1 t2 tn1 tc1 tn2 tc2 tp tq u)
 have hw1 : IntKind.i64.wrap (1 - player) = 1 - player := IntWalk.i64_in _ ⟨by omega, by omega⟩
 generalize (ag && decide (sp = -1)) = b at *
 cases b
 all_goals
  go_enter Try.func51, Try.ntmps51
  go_upto_region 1 with fail
  generalize (w.alloc (.cells #[.int .i64 p, .int .i64 s, .bool st, .bool sk, .bool re, .bool fe, .bool ag, .int .i64 c, .int .i64 l, .int .i64 player, .slice s1 sn1 sc1, .slice s2 sn2 sc2, .int .i64 sp, .int .i64 sq, .slice p1 pn1 pc1, .slice p2 pn2 pc2, .int .i64 pp, .slice t1 tn1 tc1, .slice t2 tn2 tc2, .int .i64 tp, .int .i64 tq] 75)).alloc (.cells #[.slice none 0 0, .slice none 0 0, .int .i64 0] 32) = u0 at *
  go_wp2_with (refine wpList_load_mid rfl 75 _ rfl w.heap.size 0 rfl _ _ (MmAt.range HX.out) Try.underlying75 rfl (by kernel_rfl) ?_)
  refine (HAg.out _).mono ?_
  rintro e u ⟨rfl, hb⟩
  have HX := Lib.hid (HX.out.below hb)
  have HZ := Lib.hid (HZ.out.below hb)
  clear hb
  obtain ⟨⟨_, -, -, -, -, -, -, -, -, -, m9, -, -, -, -, -, -, -, m17, m18, m19, m20⟩, -⟩ := HX.out
  go_wp2_with fail
  refine (position_any t1 t2 tn1 tc1 tn2 tc2 tp tq _ _).mono ?_
  rintro e u2 ⟨rfl, hb⟩
  have HX := Lib.hid (HX.out.below hb)
  have HZ := Lib.hid (HZ.out.below hb)
  obtain ⟨zl, z0, z1, z2, zf⟩ := HZ.out
  have f0 := zf 0
  have f1 := zf 1
  have f2 := zf 2
  clear hb zf m9 m17 m18 m19 m20
  go_wp2_with fail
  refine bodyPost_ret (v := .agg #[.slice t1 tn1 tc1, .slice t2 tn2 tc2, .int .i64 _]) (by simp [results, Try.results51, go_sem, z0, z1, z2]) rfl ⟨rfl, ?_⟩
  exact (((HX.out.be.setCell (p := ⟨w.heap.size + 1, 0, none⟩) (Nat.le_succ _) _).setCell (p := ⟨w.heap.size + 1, 1, none⟩) (Nat.le_succ _) _).setCell (p := ⟨w.heap.size + 1, 2, none⟩) (Nat.le_succ _) _)
theorem gain_any (p s c l : Int) (st sk re fe ag : Bool) (player : Int) (s1 s2 : Option Addr) (sn1 sc1 sn2 sc2 : Nat) (sp sq : Int) (p1 p2 : Option Addr) (pn1 pc1 pn2 pc2 : Nat) (pp : Int) (t1 t2 : Option Addr) (tn1 tc1 tn2 tc2 : Nat) (tp tq : Int) (vs ys : List Int) (w : World) (hpl : player = 0 ∨ player = 1) (ht : RowN w t2 vs) (hp : RowN w p2 ys) (lt : vs.length = tn2) (lp : ys.length = pn2) (ht2 : tn2 = 2) (hp2 : pn2 = 2)
  (hv : 0 ≤ vs.getD player.toNat 0 ∧ vs.getD player.toNat 0 ≤ 1000000) (hy : 0 ≤ ys.getD player.toNat 0 ∧ ys.getD player.toNat 0 ≤ 1000000) :
  Calls Try.prog 52 #[.agg #[.int .i64 p, .int .i64 s, .bool st, .bool sk, .bool re, .bool fe, .bool ag, .int .i64 c, .int .i64 l, .int .i64 player, .slice s1 sn1 sc1, .slice s2 sn2 sc2, .int .i64 sp, .int .i64 sq, .slice p1 pn1 pc1, .slice p2 pn2 pc2, .int .i64 pp, .slice t1 tn1 tc1, .slice t2 tn2 tc2, .int .i64 tp, .int .i64 tq]] w fun e w' => e = .returned (.int .i64 (vs.getD player.toNat 0 - ys.getD player.toNat 0)) ∧ Below w.heap.size w w' := by
 obtain ⟨P, rfl⟩ : ∃ P : Nat, player = (P : Int) := ⟨player.toNat, by omega⟩
 rw [Int.toNat_natCast] at *
 subst ht2
 subst hp2
 have HX := Lib.hid (mm_new p s c l st sk re fe ag (P : Int) s1 s2 sn1 sc1 sn2 sc2 sp sq p1 p2 pn1 pc1 2 pc2 pp t1 t2 tn1 tc1 2 tc2 tp tq w 75)
 have hx : vs[P]? = some (vs.getD P 0) := getD_at (by omega)
 have hz : ys[P]? = some (ys.getD P 0) := getD_at (by omega)
 obtain ⟨g, o, rfl, hgl, hcs⟩ := ht.2.resolve_left (by intro e; subst e; cases hx)
 obtain ⟨g', o', rfl, hgl', hcs'⟩ := hp.2.resolve_left (by intro e; subst e; cases hz)
 have hc0 := hcs _ _ hx
 have hc1 := hcs' _ _ hz
 clear hcs hcs'
 have z0 : (0 : Int) ≤ (P : Int) := by omega
 have z1 : (P : Int) < 2 := by omega
 generalize vs.getD P 0 = v at *
 generalize ys.getD P 0 = y at *
 obtain ⟨hv0, hv1⟩ := hv
 obtain ⟨hy0, hy1⟩ := hy
 have hw1 : IntKind.i64.wrap (v - y) = v - y := IntWalk.i64_in _ ⟨by omega, by omega⟩
 clear hx hz ht hp hpl
 have Hc0 : Hid (∀ u, Below w.heap.size w u → u.cell? ⟨g, o + P, none⟩ = some (.int .i64 v)) := Lib.hid (fun u hu => (hu.cell (p := ⟨g, o + P, none⟩) hgl).trans hc0)
 have Hc1 : Hid (∀ u, Below w.heap.size w u → u.cell? ⟨g', o' + P, none⟩ = some (.int .i64 y)) := Lib.hid (fun u hu => (hu.cell (p := ⟨g', o' + P, none⟩) hgl').trans hc1)
 clear hc0 hc1
 go_enter Try.func52, Try.ntmps52
 go_upto_region 1 with fail
 generalize w.alloc (.cells #[.int .i64 p, .int .i64 s, .bool st, .bool sk, .bool re, .bool fe, .bool ag, .int .i64 c, .int .i64 l, .int .i64 P, .slice s1 sn1 sc1, .slice s2 sn2 sc2, .int .i64 sp, .int .i64 sq, .slice p1 pn1 pc1, .slice (some ⟨g', o', none⟩) 2 pc2, .int .i64 pp, .slice t1 tn1 tc1, .slice (some ⟨g, o, none⟩) 2 tc2, .int .i64 tp, .int .i64 tq] 75) = u0 at *
 obtain ⟨⟨_, -, -, -, -, -, -, -, -, -, m9, -, -, -, -, -, m15, -, -, m18, -, -⟩, -⟩ := HX.out
 have q0 := Hc0.out _ HX.out.be
 have q1 := Hc1.out _ HX.out.be
 go_wp2_with fail
 go_quiet (fail)
 go_wp2_with fail
 go_ret
 exact ⟨rfl, below_dn HX.out.be _⟩
theorem fbS_any (p s c l : Int) (st sk re fe ag : Bool) (player : Int) (s1 s2 : Option Addr) (sn1 sc1 sn2 sc2 : Nat) (sp sq : Int) (p1 p2 : Option Addr) (pn1 pc1 pn2 pc2 : Nat) (pp : Int) (t1 t2 : Option Addr) (tn1 tc1 tn2 tc2 : Nat) (tp tq : Int) (xs ys : List Int) (w : World) (h : PosR w s1 s2 sn1 sn2 xs ys) (g : Good p s c l st sk re fe ag player sn1 sn2 sp xs ys) (hcap : sn1 ≤ sc1) :
  Calls Try.prog 71 #[.agg #[.int .i64 p, .int .i64 s, .bool st, .bool sk, .bool re, .bool fe, .bool ag, .int .i64 c, .int .i64 l, .int .i64 player, .slice s1 sn1 sc1, .slice s2 sn2 sc2, .int .i64 sp, .int .i64 sq, .slice p1 pn1 pc1, .slice p2 pn2 pc2, .int .i64 pp, .slice t1 tn1 tc1, .slice t2 tn2 tc2, .int .i64 tp, .int .i64 tq]] w fun e w' => e = .returned (.bool (decide (l = 1) && slamF c p player sp xs)) ∧ Below w.heap.size w w' := by
 have HX := Lib.hid (mm_new p s c l st sk re fe ag player s1 s2 sn1 sc1 sn2 sc2 sp sq p1 p2 pn1 pc1 pn2 pc2 pp t1 t2 tn1 tc1 tn2 tc2 tp tq w 75)
 have H0 := Lib.hid h
 have G := Lib.hid g
 have Hcap := Lib.hid hcap
 have HRaw : Hid (∀ u, Below w.heap.size w u → Calls Try.prog 79 #[.agg #[.int .i64 p, .int .i64 s, .bool st, .bool sk, .bool re, .bool fe, .bool ag, .int .i64 c, .int .i64 l, .int .i64 player, .slice s1 sn1 sc1, .slice s2 sn2 sc2, .int .i64 sp, .int .i64 sq]] u (OwnP (rawF c p player sp xs) (rawF c p player sp xs).length u)) := Lib.hid (fun u hu => rawI_any p s c l st sk re fe ag player _ _ _ _ _ _ _ _ xs ys u (h.below hu) g)
 have HLn : Hid ((rawF c p player sp xs).length ≤ 1000) := Lib.hid (by have := raw_len (cp := c) (pl := player) (xs := xs) g.p2.2 g.p2.1 g.l2; omega)
 have HRin := Lib.hid (g.raw c)
 have hsf : slamF c p player sp xs = slamB p player xs (rawF c p player sp xs) := rfl
 rw [hsf]
 generalize rawF c p player sp xs = L at *
 clear h g hcap hsf
 by_cases hl : l = 1
 ·subst hl
  rw [decide_eq_true rfl]
  go_enter Try.func71, Try.ntmps71
  go_upto_region 1 with fail
  generalize w.alloc (.cells #[.int .i64 p, .int .i64 s, .bool st, .bool sk, .bool re, .bool fe, .bool ag, .int .i64 c, .int .i64 1, .int .i64 player, .slice s1 sn1 sc1, .slice s2 sn2 sc2, .int .i64 sp, .int .i64 sq, .slice p1 pn1 pc1, .slice p2 pn2 pc2, .int .i64 pp, .slice t1 tn1 tc1, .slice t2 tn2 tc2, .int .i64 tp, .int .i64 tq] 75) = u0 at *
  have HT : Hid (∀ u : World, MmAt w p s c 1 st sk re fe ag player s1 s2 sn1 sc1 sn2 sc2 sp sq p1 p2 pn1 pc1 pn2 pc2 pp t1 t2 tn1 tc1 tn2 tc2 tp tq u → (w.heap.size < u.heap.size ∧ u.cell? ⟨w.heap.size, 0, none⟩ = some (.int .i64 p) ∧ u.cell? ⟨w.heap.size, 1, none⟩ = some (.int .i64 s) ∧ u.cell? ⟨w.heap.size, 2, none⟩ = some (.bool st) ∧ u.cell? ⟨w.heap.size, 3, none⟩ = some (.bool sk) ∧ u.cell? ⟨w.heap.size, 4, none⟩ = some (.bool re) ∧ u.cell? ⟨w.heap.size, 5, none⟩ = some (.bool fe) ∧ u.cell? ⟨w.heap.size, 6, none⟩ = some (.bool ag) ∧ u.cell? ⟨w.heap.size, 7, none⟩ = some (.int .i64 c) ∧ u.cell? ⟨w.heap.size, 8, none⟩ = some (.int .i64 1) ∧ u.cell? ⟨w.heap.size, 9, none⟩ = some (.int .i64 player) ∧ u.cell? ⟨w.heap.size, 10, none⟩ = some (.slice s1 sn1 sc1) ∧ u.cell? ⟨w.heap.size, 11, none⟩ = some (.slice s2 sn2 sc2) ∧ u.cell? ⟨w.heap.size, 12, none⟩ = some (.int .i64 sp) ∧ u.cell? ⟨w.heap.size, 13, none⟩ = some (.int .i64 sq)) ∧ Below w.heap.size w u) := Lib.hid (fun u h => ⟨⟨h.1.1, h.1.2.1, h.1.2.2.1, h.1.2.2.2.1, h.1.2.2.2.2.1, h.1.2.2.2.2.2.1, h.1.2.2.2.2.2.2.1, h.1.2.2.2.2.2.2.2.1, h.1.2.2.2.2.2.2.2.2.1, h.1.2.2.2.2.2.2.2.2.2.1, h.1.2.2.2.2.2.2.2.2.2.2.1, h.1.2.2.2.2.2.2.2.2.2.2.2.1, h.1.2.2.2.2.2.2.2.2.2.2.2.2.1, h.1.2.2.2.2.2.2.2.2.2.2.2.2.2.1, h.1.2.2.2.2.2.2.2.2.2.2.2.2.2.2.1⟩, h.2⟩)
  go_wp2_with fail
  go_region_held3 (fun u => (w.heap.size < u.heap.size ∧ u.cell? ⟨w.heap.size, 0, none⟩ = some (.int .i64 p) ∧ u.cell? ⟨w.heap.size, 1, none⟩ = some (.int .i64 s) ∧ u.cell? ⟨w.heap.size, 2, none⟩ = some (.bool st) ∧ u.cell? ⟨w.heap.size, 3, none⟩ = some (.bool sk) ∧ u.cell? ⟨w.heap.size, 4, none⟩ = some (.bool re) ∧ u.cell? ⟨w.heap.size, 5, none⟩ = some (.bool fe) ∧ u.cell? ⟨w.heap.size, 6, none⟩ = some (.bool ag) ∧ u.cell? ⟨w.heap.size, 7, none⟩ = some (.int .i64 c) ∧ u.cell? ⟨w.heap.size, 8, none⟩ = some (.int .i64 1) ∧ u.cell? ⟨w.heap.size, 9, none⟩ = some (.int .i64 player) ∧ u.cell? ⟨w.heap.size, 10, none⟩ = some (.slice s1 sn1 sc1) ∧ u.cell? ⟨w.heap.size, 11, none⟩ = some (.slice s2 sn2 sc2) ∧ u.cell? ⟨w.heap.size, 12, none⟩ = some (.int .i64 sp) ∧ u.cell? ⟨w.heap.size, 13, none⟩ = some (.int .i64 sq)) ∧ Below w.heap.size w u) (first | with_reducible exact HT.out _ HX.out | with_reducible exact HT.out _ HX.out.drew)
   (first
   | (go_at_call 79; (with_reducible refine (HRaw.out _ ?_).mono ?_); (first | with_reducible exact HX.out.be | with_reducible exact HX.out.drew.be); rintro e w5 ⟨v5, rfl, hown, hb5⟩; obtain ⟨a5, cc5, rfl, hr5⟩ := own_slice hown rfl HLn.out; have HR5 := Lib.hid hr5; (first | with_reducible have HX := Lib.hid (HX.out.below hb5) | with_reducible have HX := Lib.hid (HX.out.drew.below hb5)); clear hown hr5 hb5)
   | (go_at_call 90; refine (isSlam_any p s c 1 st sk re fe ag player s1 s2 sn1 sc1 sn2 sc2 sp sq xs ys _ a5 cc5 _ _ (H0.out.below (by first | exact HX.out.be | exact HX.out.drew.be)) G.out.q1 G.out.t1 G.out.p2 G.out.n1 G.out.pl HRin.out rfl HLn.out (by first | exact HR5.out | exact HR5.out.drewN 1) Hcap.out).mono ?_; rintro e w6 ⟨rfl, hb6⟩; have HX := Lib.hid (by first | exact HX.out.below hb6 | exact HX.out.drew.below hb6 : MmAt w p s c 1 st sk re fe ag player s1 s2 sn1 sc1 sn2 sc2 sp sq p1 p2 pn1 pc1 pn2 pc2 pp t1 t2 tn1 tc1 tn2 tc2 tp tq w6); clear hb6))
  go_wp2_with fail
  go_ret
  exact ⟨rfl, HX.out.be⟩
 ·have d : (l == 1) = false := by simpa using hl
  rw [decide_eq_false hl]
  clear hl
  go_enter Try.func71, Try.ntmps71
  go_upto_region 1 with fail
  generalize w.alloc (.cells #[.int .i64 p, .int .i64 s, .bool st, .bool sk, .bool re, .bool fe, .bool ag, .int .i64 c, .int .i64 l, .int .i64 player, .slice s1 sn1 sc1, .slice s2 sn2 sc2, .int .i64 sp, .int .i64 sq, .slice p1 pn1 pc1, .slice p2 pn2 pc2, .int .i64 pp, .slice t1 tn1 tc1, .slice t2 tn2 tc2, .int .i64 tp, .int .i64 tq] 75) = u0 at *
  obtain ⟨⟨_, -, -, -, -, -, -, -, -, m8, -, -, -, -, -, -, -, -, -, -, -, -⟩, -⟩ := HX.out
  go_wp2_with fail
  go_quiet (fail)
  go_wp2_with fail
  go_ret
  exact ⟨rfl, below_dn HX.out.be _⟩
/- Mk8 -/
theorem fbF_any (p s c l : Int) (st sk re fe ag : Bool) (player : Int) (s1 s2 : Option Addr) (sn1 sc1 sn2 sc2 : Nat) (sp sq : Int) (p1 p2 : Option Addr) (pn1 pc1 pn2 pc2 : Nat) (pp : Int) (t1 t2 : Option Addr) (tn1 tc1 tn2 tc2 : Nat) (tp tq : Int) (xs ys txs : List Int) (w : World) (h : PosR w p1 p2 pn1 pn2 xs ys) (hk : okP (okR p s c l st ag) p pn1 pn2 pp xs ys = true) (hcap : pn1 ≤ pc1) (ht : RowN w t1 txs) (hl : txs.length = tn1) (hn : (tn1 : Int) = 2 * p) (hq : posB txs = true) (hs : tot txs ≤ 96) (hc2 : tn1 ≤ tc1) (hpl : player = pp) :
    Calls Try.prog 72 #[.agg #[.int .i64 p, .int .i64 s, .bool st, .bool sk, .bool re, .bool fe, .bool ag, .int .i64 c, .int .i64 l, .int .i64 player, .slice s1 sn1 sc1, .slice s2 sn2 sc2, .int .i64 sp, .int .i64 sq, .slice p1 pn1 pc1, .slice p2 pn2 pc2, .int .i64 pp, .slice t1 tn1 tc1, .slice t2 tn2 tc2, .int .i64 tp, .int .i64 tq]] w fun e w' => e = .returned (.bool ((fe && noneO p pp xs) && noneO p player txs)) ∧ Below w.heap.size w w' := by
  have HX := Lib.hid (mm_new p s c l st sk re fe ag player s1 s2 sn1 sc1 sn2 sc2 sp sq p1 p2 pn1 pc1 pn2 pc2 pp t1 t2 tn1 tc1 tn2 tc2 tp tq w 75)
  have HF : Hid (∀ u, Below w.heap.size w u → Calls Try.prog 91 #[.agg #[.int .i64 p, .int .i64 s, .bool st, .bool sk, .bool re, .bool fe, .bool ag, .int .i64 c, .int .i64 l], .agg #[.slice p1 pn1 pc1, .slice p2 pn2 pc2, .int .i64 pp]] u fun e w' => e = .returned (.bool (fe && noneO p pp xs)) ∧ Below u.heap.size u w') := Lib.hid (fun u hu => implFeed_any p s c l st sk re fe ag p1 p2 pn1 pc1 pn2 pc2 pp xs ys u (h.below hu) hcap true hk)
  obtain ⟨f1, -, f3, -, -⟩ := feed_parts p s c l st sk re fe ag hk
  have HO : Hid (∀ u, Below w.heap.size w u → Calls Try.prog 92 #[.agg #[.slice t1 tn1 tc1, .slice t2 tn2 tc2, .int .i64 player], .agg #[.int .i64 p, .int .i64 s, .bool st, .bool sk, .bool re, .bool fe, .bool ag, .int .i64 c, .int .i64 l]] u fun e w' => e = .returned (.bool (noneO p player txs)) ∧ Below u.heap.size u w') := Lib.hid (fun u hu => other_any p s c l st sk re fe ag t1 t2 tn1 tc1 tn2 tc2 player txs u hl (ht.below hu) f1 hn (by rw [hpl]; exact f3) hq hs hc2)
  generalize hb1 : (fe && noneO p pp xs) = b1 at *
  generalize hb2 : noneO p player txs = b2 at *
  clear h hk hcap ht hl hn hq hs hc2 hpl f1 f3 hb1 hb2
  cases b1
  all_goals
    go_enter Try.func72, Try.ntmps72
    go_upto_region 1 with fail
    generalize w.alloc (.cells #[.int .i64 p, .int .i64 s, .bool st, .bool sk, .bool re, .bool fe, .bool ag, .int .i64 c, .int .i64 l, .int .i64 player, .slice s1 sn1 sc1, .slice s2 sn2 sc2, .int .i64 sp, .int .i64 sq, .slice p1 pn1 pc1, .slice p2 pn2 pc2, .int .i64 pp, .slice t1 tn1 tc1, .slice t2 tn2 tc2, .int .i64 tp, .int .i64 tq] 75) = u0 at *
    go_wp2_with fail
    apply region_class (MmAt w p s c l st sk re fe ag player s1 s2 sn1 sc1 sn2 sc2 sp sq p1 p2 pn1 pc1 pn2 pc2 pp t1 t2 tn1 tc1 tn2 tc2 tp tq) (by kernel_rfl) (by kernel_rfl) (HX.out.drew)
    repeat (first
      | (apply step_skip (by rfl)
         simp only [Act.put, List.setIfInBounds_toArray, List.set_cons_zero, List.set_cons_succ])
      | (apply step_val (by rfl)
         · intro u hu
           obtain ⟨⟨_, m0, m1, m2, m3, m4, m5, m6, m7, m8, m9, m10, m11, m12, m13, m14, m15, m16, m17, m18, m19, m20⟩, _⟩ := hu
           go_simp
           try with_reducible rfl
         simp only [Act.put, List.setIfInBounds_toArray, List.set_cons_zero, List.set_cons_succ])
      | (apply step_call (by rfl)
         · intro u
           go_simp
           exact ⟨rfl, rfl⟩
         · intro u hu
           (with_reducible refine (HF.out _ hu.be).mono ?_); (rintro e u' ⟨rfl, hb5⟩; exact ⟨rfl, hu.below hb5⟩)
         simp only [Act.put, List.setIfInBounds_toArray, List.set_cons_zero, List.set_cons_succ])
      | (apply step_call (by rfl)
         · intro u
           go_simp
           exact ⟨rfl, rfl⟩
         · intro u hu
           (with_reducible refine (position_any t1 t2 tn1 tc1 tn2 tc2 tp tq player _).mono ?_); (rintro e u' ⟨rfl, hb5⟩; exact ⟨rfl, hu.below hb5⟩)
         simp only [Act.put, List.setIfInBounds_toArray, List.set_cons_zero, List.set_cons_succ])
      | (apply step_call (by rfl)
         · intro u
           go_simp
           exact ⟨rfl, rfl⟩
         · intro u hu
           (with_reducible refine (HO.out _ hu.be).mono ?_); (rintro e u' ⟨rfl, hb5⟩; exact ⟨rfl, hu.below hb5⟩)
         simp only [Act.put, List.setIfInBounds_toArray, List.set_cons_zero, List.set_cons_succ]))
    apply step_nil
    intro w5 hs5
    have HS5 := Lib.hid hs5
    clear hs5
    go_wp2_with fail
    go_ret
    exact ⟨rfl, HS5.out.be⟩
/- Mk9 -/
structure ThN (n : Nat) (u : World) (b : Nat) : Prop where
 lt : b < u.heap.size
 th : u.there b 0 n
theorem ThN.below {n : Nat} {u v : World} {b : Nat} (h : ThN n u b) (k : Below u.heap.size u v) : ThN n v b := by
 refine ⟨Nat.lt_of_lt_of_le h.lt k.size, fun j hj => ?_⟩
 have := h.th j hj
 rw [k.cell (p := ⟨b, 0 + j, none⟩) h.lt, k.frozen (p := ⟨b, 0 + j, none⟩) h.lt]
 exact this
theorem below_sc {B : Nat} {a : World} (b : Nat) (hb : B ≤ b) : ∀ (vs : List Value) (o : Nat) {w : World}, Below B a w → Below B a (w.setCells b o vs)
 | [], _, _, h => h
 | v :: r, o, _, h => below_sc b hb r (o + 1) (h.setCell (p := ⟨b, o, none⟩) hb v)
def zero21 : List Value := [.int .i64 0, .int .i64 0, .bool false, .bool false, .bool false, .bool false, .bool false, .int .i64 0, .int .i64 0, .int .i64 0, .slice none 0 0, .slice none 0 0, .int .i64 0, .int .i64 0, .slice none 0 0, .slice none 0 0, .int .i64 0, .slice none 0 0, .slice none 0 0, .int .i64 0, .int .i64 0]
theorem zero21_one : zero21.toArray.all (·.oneCell') = true := all_oneCell_toArray (by unfold zero21; decide)
theorem thN_new (w : World) (T : TypeId) : ThN 21 (w.alloc (.cells zero21.toArray T)) w.heap.size := by
 refine ⟨by simp, fun j hj => ?_⟩
 match j, hj with
 | 0, _ => exact ⟨by unfold zero21; go_simp, by go_simp⟩
 | 1, _ => exact ⟨by unfold zero21; go_simp, by go_simp⟩
 | 2, _ => exact ⟨by unfold zero21; go_simp, by go_simp⟩
 | 3, _ => exact ⟨by unfold zero21; go_simp, by go_simp⟩
 | 4, _ => exact ⟨by unfold zero21; go_simp, by go_simp⟩
 | 5, _ => exact ⟨by unfold zero21; go_simp, by go_simp⟩
 | 6, _ => exact ⟨by unfold zero21; go_simp, by go_simp⟩
 | 7, _ => exact ⟨by unfold zero21; go_simp, by go_simp⟩
 | 8, _ => exact ⟨by unfold zero21; go_simp, by go_simp⟩
 | 9, _ => exact ⟨by unfold zero21; go_simp, by go_simp⟩
 | 10, _ => exact ⟨by unfold zero21; go_simp, by go_simp⟩
 | 11, _ => exact ⟨by unfold zero21; go_simp, by go_simp⟩
 | 12, _ => exact ⟨by unfold zero21; go_simp, by go_simp⟩
 | 13, _ => exact ⟨by unfold zero21; go_simp, by go_simp⟩
 | 14, _ => exact ⟨by unfold zero21; go_simp, by go_simp⟩
 | 15, _ => exact ⟨by unfold zero21; go_simp, by go_simp⟩
 | 16, _ => exact ⟨by unfold zero21; go_simp, by go_simp⟩
 | 17, _ => exact ⟨by unfold zero21; go_simp, by go_simp⟩
 | 18, _ => exact ⟨by unfold zero21; go_simp, by go_simp⟩
 | 19, _ => exact ⟨by unfold zero21; go_simp, by go_simp⟩
 | 20, _ => exact ⟨by unfold zero21; go_simp, by go_simp⟩
 | n + 21, h => exact absurd h (by omega)
theorem makeL_err (p s c l : Int) (st sk re fe ag : Bool) (p1 p2 : Option Addr) (pn1 pc1 pn2 pc2 : Nat) (pp : Int) (move cd : Int) (hcd : (cd == 0) = false) (w : World)
  (hC : ∀ u, Below w.heap.size w u → Calls Try.prog 70 #[.agg #[.int .i64 p, .int .i64 s, .bool st, .bool sk, .bool re, .bool fe, .bool ag, .int .i64 c, .int .i64 l], .agg #[.slice p1 pn1 pc1, .slice p2 pn2 pc2, .int .i64 pp], .int .i64 move] u (SoZ 0 0 0 0 cd [] [] u)) :
  Calls Try.prog 50 #[.agg #[.int .i64 p, .int .i64 s, .bool st, .bool sk, .bool re, .bool fe, .bool ag, .int .i64 c, .int .i64 l], .agg #[.slice p1 pn1 pc1, .slice p2 pn2 pc2, .int .i64 pp], .int .i64 move] w fun e w' => e = .returned (.tuple #[.agg zero21.toArray, .int .i64 cd]) ∧ Below w.heap.size w w' := by
 have HC := Lib.hid hC
 have HS := Lib.hid ((rp_new p s c l st sk re fe ag p1 p2 pn1 pc1 pn2 pc2 pp w 30 32).below (al1 _ (.cells zero21.toArray 75)))
 have HZ := Lib.hid (show ThN 21 _ (w.heap.size + 1 + 1) from by have := thN_new ((w.alloc (.cells #[.int .i64 p, .int .i64 s, .bool st, .bool sk, .bool re, .bool fe, .bool ag, .int .i64 c, .int .i64 l] 30)).alloc (.cells #[.slice p1 pn1 pc1, .slice p2 pn2 pc2, .int .i64 pp] 32)) 75; simpa using this)
 have hcd2 : (cd != 0) = true := by simpa [bne] using hcd
 clear hC
 go_enter Try.func50, Try.ntmps50
 go_wp2_with fail
 change Calls _ _ _ (((w.alloc (.cells #[.int .i64 p, .int .i64 s, .bool st, .bool sk, .bool re, .bool fe, .bool ag, .int .i64 c, .int .i64 l] 30)).alloc (.cells #[.slice p1 pn1 pc1, .slice p2 pn2 pc2, .int .i64 pp] 32)).alloc (.cells zero21.toArray 75)) _
 refine (HC.out _ HS.out.2.2).mono ?_
 generalize ((w.alloc (.cells #[.int .i64 p, .int .i64 s, .bool st, .bool sk, .bool re, .bool fe, .bool ag, .int .i64 c, .int .i64 l] 30)).alloc (.cells #[.slice p1 pn1 pc1, .slice p2 pn2 pc2, .int .i64 pp] 32)).alloc (.cells zero21.toArray 75) = u at *
 rintro e u2 ⟨a1, c1, b1, a2, c2, b2, rfl, -, -, -, -, -, hb⟩
 have HS := Lib.hid (HS.out.below hb)
 have HZ := Lib.hid (HZ.out.below hb)
 clear hb
 have HZA := Lib.hid ((HZ.out.below (al1 _ (.cells #[.slice a1 0 c1, .slice a2 0 c2, .int .i64 0, .int .i64 0] 50))).th)
 go_wp2_with (refine wpList_store_mid rfl 75 _ _ rfl (w.heap.size + 1 + 1) 0 zero21.toArray rfl rfl HZA.out (by kernel_rfl) zero21_one ?_)
 have hrun := run_loadVar_mid (P := Try.prog) _ (w.heap.size + 1 + 1) 0 75 zero21 _ (World.rangeAt_setCells_same _ (w.heap.size + 1 + 1) 0 zero21 HZA.out) Try.underlying75 rfl (by kernel_rfl)
 refine bodyPost_ret (v := .tuple #[.agg zero21.toArray, .int .i64 cd]) ?_ rfl ⟨rfl, ?_⟩
 ·simp [results, Try.results50, Result.andThen_ok, asAddr, hrun]
 ·exact below_sc (w.heap.size + 1 + 1) (by omega) zero21 0 (HS.out.below (al1 _ _)).2.2
/- Mk10 -/
structure Z21 (u : World) (z : Nat) : Prop where
 lt : z < u.heap.size
 c0 : u.cell? ⟨z, 0, none⟩ = some (.int .i64 0)
 c1 : u.cell? ⟨z, 1, none⟩ = some (.int .i64 0)
 c2 : u.cell? ⟨z, 2, none⟩ = some (.bool false)
 c3 : u.cell? ⟨z, 3, none⟩ = some (.bool false)
 c4 : u.cell? ⟨z, 4, none⟩ = some (.bool false)
 c5 : u.cell? ⟨z, 5, none⟩ = some (.bool false)
 c6 : u.cell? ⟨z, 6, none⟩ = some (.bool false)
 c7 : u.cell? ⟨z, 7, none⟩ = some (.int .i64 0)
 c8 : u.cell? ⟨z, 8, none⟩ = some (.int .i64 0)
 c9 : u.cell? ⟨z, 9, none⟩ = some (.int .i64 0)
 c10 : u.cell? ⟨z, 10, none⟩ = some (.slice none 0 0)
 c11 : u.cell? ⟨z, 11, none⟩ = some (.slice none 0 0)
 c12 : u.cell? ⟨z, 12, none⟩ = some (.int .i64 0)
 c13 : u.cell? ⟨z, 13, none⟩ = some (.int .i64 0)
 c14 : u.cell? ⟨z, 14, none⟩ = some (.slice none 0 0)
 c15 : u.cell? ⟨z, 15, none⟩ = some (.slice none 0 0)
 c16 : u.cell? ⟨z, 16, none⟩ = some (.int .i64 0)
 c17 : u.cell? ⟨z, 17, none⟩ = some (.slice none 0 0)
 c18 : u.cell? ⟨z, 18, none⟩ = some (.slice none 0 0)
 c19 : u.cell? ⟨z, 19, none⟩ = some (.int .i64 0)
 c20 : u.cell? ⟨z, 20, none⟩ = some (.int .i64 0)
 fr : ∀ o, u.frozen? ⟨z, o, none⟩ = false
theorem Z21.below {u v : World} {z : Nat} (h : Z21 u z) (k : Below u.heap.size u v) : Z21 v z := by
 have e := fun o => k.cell (p := ⟨z, o, none⟩) h.lt
 exact ⟨Nat.lt_of_lt_of_le h.lt k.size, (e _).trans h.c0, (e _).trans h.c1, (e _).trans h.c2, (e _).trans h.c3, (e _).trans h.c4, (e _).trans h.c5, (e _).trans h.c6, (e _).trans h.c7, (e _).trans h.c8, (e _).trans h.c9, (e _).trans h.c10, (e _).trans h.c11, (e _).trans h.c12, (e _).trans h.c13, (e _).trans h.c14, (e _).trans h.c15, (e _).trans h.c16, (e _).trans h.c17, (e _).trans h.c18, (e _).trans h.c19, (e _).trans h.c20, fun o => (k.frozen (p := ⟨z, o, none⟩) h.lt).trans (h.fr o)⟩
theorem Z21.drew {u : World} {z : Nat} (h : Z21 u z) : Z21 u.drew z := h.below (Below.refl _ _).drew
theorem wpList_load_want {P : Program} {ops : Array Oper} {rest : List Oper} {op : Oper} {a : Act} {w : World} {Q : Exit → Act → World → Prop} (hw : Region.wanted op (yielded ops a.tmps) = true) (ty : TypeId) (x : Operand) (ho : op.op = .load ty x)
  (b o : Nat) (hx : a.eval x = .pointer (some ⟨b, o, none⟩)) (cs : List Value) (d : TypeDesc) (hc : w.rangeAt b o cs)
  (hu : P.underlying ty = some d) (hd : d.isRow = true) (hi : (P.info? ty).map (·.size) = some cs.length)
  (h : wpList P ops Q rest (a.put op.dst (.agg cs.toArray)) w) : wpList P ops Q (op :: rest) a w :=
 BigFrame.wpList_want hw fun K hK => wp_load_mid ty x ho b o hx cs d hc hu hd hi (hK _ _ h)
theorem but_sc (b : Nat) : ∀ (vs : List Value) (o : Nat) (u : World), But b u (u.setCells b o vs)
 | [], _, u => But.refl b u
 | v :: r, o, u => ((But.refl b u).setCell (p := ⟨b, o, none⟩) rfl v).trans (but_sc b r (o + 1) _)
theorem mm_one (p s c l : Int) (st sk re fe ag : Bool) (player : Int) (s1 s2 : Option Addr) (sn1 sc1 sn2 sc2 : Nat) (sp sq : Int) (p1 p2 : Option Addr) (pn1 pc1 pn2 pc2 : Nat) (pp : Int) (t1 t2 : Option Addr) (tn1 tc1 tn2 tc2 : Nat) (tp tq : Int) : (List.toArray ([.int .i64 p, .int .i64 s, .bool st, .bool sk, .bool re, .bool fe, .bool ag, .int .i64 c, .int .i64 l, .int .i64 player, .slice s1 sn1 sc1, .slice s2 sn2 sc2, .int .i64 sp, .int .i64 sq, .slice p1 pn1 pc1, .slice p2 pn2 pc2, .int .i64 pp, .slice t1 tn1 tc1, .slice t2 tn2 tc2, .int .i64 tp, .int .i64 tq] : List Value)).all (·.oneCell') = true := all_oneCell_toArray (by simp [Value.oneCell'])
theorem size_sc (b : Nat) : ∀ (vs : List Value) (o : Nat) (u : World), (u.setCells b o vs).heap.size = u.heap.size
 | [], _, _ => rfl
 | v :: r, o, u => by rw [World.setCells, size_sc b r]; simp
theorem range14 {u : World} {C : Nat} {x0 x1 x2 x3 x4 x5 x6 x7 x8 x9 x10 x11 x12 x13 : Value} (h : C < u.heap.size ∧ u.cell? ⟨C, 0, none⟩ = some x0 ∧ u.cell? ⟨C, 1, none⟩ = some x1 ∧ u.cell? ⟨C, 2, none⟩ = some x2 ∧ u.cell? ⟨C, 3, none⟩ = some x3 ∧ u.cell? ⟨C, 4, none⟩ = some x4 ∧ u.cell? ⟨C, 5, none⟩ = some x5 ∧ u.cell? ⟨C, 6, none⟩ = some x6 ∧ u.cell? ⟨C, 7, none⟩ = some x7 ∧ u.cell? ⟨C, 8, none⟩ = some x8 ∧ u.cell? ⟨C, 9, none⟩ = some x9 ∧ u.cell? ⟨C, 10, none⟩ = some x10 ∧ u.cell? ⟨C, 11, none⟩ = some x11 ∧ u.cell? ⟨C, 12, none⟩ = some x12 ∧ u.cell? ⟨C, 13, none⟩ = some x13) : u.rangeAt C 0 [x0, x1, x2, x3, x4, x5, x6, x7, x8, x9, x10, x11, x12, x13] := by
 obtain ⟨_, m0, m1, m2, m3, m4, m5, m6, m7, m8, m9, m10, m11, m12, m13⟩ := h
 intro j v hj
 match j, hj with
 | 0, hj => cases hj; exact m0
 | 1, hj => cases hj; exact m1
 | 2, hj => cases hj; exact m2
 | 3, hj => cases hj; exact m3
 | 4, hj => cases hj; exact m4
 | 5, hj => cases hj; exact m5
 | 6, hj => cases hj; exact m6
 | 7, hj => cases hj; exact m7
 | 8, hj => cases hj; exact m8
 | 9, hj => cases hj; exact m9
 | 10, hj => cases hj; exact m10
 | 11, hj => cases hj; exact m11
 | 12, hj => cases hj; exact m12
 | 13, hj => cases hj; exact m13
 | n + 14, hj => simp at hj
theorem range3 {u : World} {C : Nat} {x0 x1 x2 : Value} (h : C < u.heap.size ∧ u.cell? ⟨C, 0, none⟩ = some x0 ∧ u.cell? ⟨C, 1, none⟩ = some x1 ∧ u.cell? ⟨C, 2, none⟩ = some x2) : u.rangeAt C 0 [x0, x1, x2] := by
 obtain ⟨_, m0, m1, m2⟩ := h
 intro j v hj
 match j, hj with
 | 0, hj => cases hj; exact m0
 | 1, hj => cases hj; exact m1
 | 2, hj => cases hj; exact m2
 | n + 3, hj => simp at hj
def CkAt (w U : World) (C : Nat) (p s c l : Int) (st sk re fe ag : Bool) (player : Int) (s1 s2 : Option Addr) (sn1 sc1 sn2 sc2 : Nat) (sp sq : Int) (p1 p2 : Option Addr) (pn1 pc1 pn2 pc2 : Nat) (pp : Int) (u : World) : Prop := (C < u.heap.size ∧ u.cell? ⟨C, 0, none⟩ = some (.int .i64 p) ∧ u.cell? ⟨C, 1, none⟩ = some (.int .i64 s) ∧ u.cell? ⟨C, 2, none⟩ = some (.bool st) ∧ u.cell? ⟨C, 3, none⟩ = some (.bool sk) ∧ u.cell? ⟨C, 4, none⟩ = some (.bool re) ∧ u.cell? ⟨C, 5, none⟩ = some (.bool fe) ∧ u.cell? ⟨C, 6, none⟩ = some (.bool ag) ∧ u.cell? ⟨C, 7, none⟩ = some (.int .i64 c) ∧ u.cell? ⟨C, 8, none⟩ = some (.int .i64 l) ∧ u.cell? ⟨C, 9, none⟩ = some (.int .i64 player) ∧ u.cell? ⟨C, 10, none⟩ = some (.slice s1 sn1 sc1) ∧ u.cell? ⟨C, 11, none⟩ = some (.slice s2 sn2 sc2) ∧ u.cell? ⟨C, 12, none⟩ = some (.int .i64 sp) ∧ u.cell? ⟨C, 13, none⟩ = some (.int .i64 sq)) ∧ (w.heap.size + 1 < u.heap.size ∧ u.cell? ⟨w.heap.size + 1, 0, none⟩ = some (.slice p1 pn1 pc1) ∧ u.cell? ⟨w.heap.size + 1, 1, none⟩ = some (.slice p2 pn2 pc2) ∧ u.cell? ⟨w.heap.size + 1, 2, none⟩ = some (.int .i64 pp)) ∧ Below U.heap.size U u
section
variable {w U u v : World} {C : Nat} {p s c l player : Int} {st sk re fe ag : Bool} {s1 s2 : Option Addr} {sn1 sc1 sn2 sc2 : Nat} {sp sq : Int} {p1 p2 : Option Addr} {pn1 pc1 pn2 pc2 : Nat} {pp : Int}
theorem CkAt.below (h : CkAt w U C p s c l st sk re fe ag player s1 s2 sn1 sc1 sn2 sc2 sp sq p1 p2 pn1 pc1 pn2 pc2 pp u) (k : Below u.heap.size u v) : CkAt w U C p s c l st sk re fe ag player s1 s2 sn1 sc1 sn2 sc2 sp sq p1 p2 pn1 pc1 pn2 pc2 pp v := by
 obtain ⟨⟨hb, h⟩, h2, hw⟩ := h
 have e := fun o => k.cell (p := ⟨C, o, none⟩) hb
 exact ⟨⟨Nat.lt_of_lt_of_le hb k.size, by rw [e, e, e, e, e, e, e, e, e, e, e, e, e, e]; exact h⟩, PoAt.below (show PoAt u (w.heap.size + 1) p1 p2 pn1 pc1 pn2 pc2 pp from h2) k, hw.trans (k.mono hw.size)⟩
theorem CkAt.drew (h : CkAt w U C p s c l st sk re fe ag player s1 s2 sn1 sc1 sn2 sc2 sp sq p1 p2 pn1 pc1 pn2 pc2 pp u) : CkAt w U C p s c l st sk re fe ag player s1 s2 sn1 sc1 sn2 sc2 sp sq p1 p2 pn1 pc1 pn2 pc2 pp u.drew := h.below (Below.refl _ _).drew
theorem CkAt.sc {b : Nat} (h : CkAt w U C p s c l st sk re fe ag player s1 s2 sn1 sc1 sn2 sc2 sp sq p1 p2 pn1 pc1 pn2 pc2 pp u) (h1 : C ≠ b) (h2 : w.heap.size + 1 ≠ b) (hb : U.heap.size ≤ b) (vs : List Value) (o : Nat) : CkAt w U C p s c l st sk re fe ag player s1 s2 sn1 sc1 sn2 sc2 sp sq p1 p2 pn1 pc1 pn2 pc2 pp (u.setCells b o vs) := by
 obtain ⟨⟨hc, h⟩, h3, hw⟩ := h
 have k := but_sc b vs o u
 have e := fun o' => k.cell (c := C) (o := o') hc h1
 exact ⟨⟨Nat.lt_of_lt_of_le hc k.size, by rw [e, e, e, e, e, e, e, e, e, e, e, e, e, e]; exact h⟩, PoAt.but (show PoAt u (w.heap.size + 1) p1 p2 pn1 pc1 pn2 pc2 pp from h3) k h2, But.lift hw k hb⟩
theorem CkAt.be (h : CkAt w U C p s c l st sk re fe ag player s1 s2 sn1 sc1 sn2 sc2 sp sq p1 p2 pn1 pc1 pn2 pc2 pp u) : OnW U u := h.2.2
end
structure MkF (w U : World) (p s c l : Int) (st sk re fe ag : Bool) (pp : Int) (s1 s2 : Option Addr) (pn1 sc1 sc2 : Nat) (p1 p2 : Option Addr) (pc1 pc2 : Nat) (m : Res) (M g1 k1 g2 k2 : Nat) (W : World) : Prop where
 rg : W.rangeAt M 0 [.int .i64 p, .int .i64 s, .bool st, .bool sk, .bool re, .bool fe, .bool ag, .int .i64 c, .int .i64 l, .int .i64 pp, .slice s1 pn1 sc1, .slice s2 2 sc2, .int .i64 m.last, .int .i64 m.laps, .slice p1 pn1 pc1, .slice p2 2 pc2, .int .i64 pp, .slice (some ⟨g1, 0, none⟩) pn1 k1, .slice (some ⟨g2, 0, none⟩) 2 k2, .int .i64 m.last, .int .i64 m.laps]
 lt : M < W.heap.size
 ge : U.heap.size ≤ M
 be : OnW U W
 ho : PosO W U.heap.size (some ⟨g1, 0, none⟩) (some ⟨g2, 0, none⟩) g1 g2 pn1 2 (tkX c l p pp m.last m.xs) (tkY c l p pp m.last m.xs m.ys)
 l1 : g1 < W.heap.size
 l2 : g2 < W.heap.size
 h1 : pn1 ≤ k1
 h2 : 2 ≤ k2
theorem range_below {u v : World} {b : Nat} {cs : List Value} (h : u.rangeAt b 0 cs) (hb : b < u.heap.size) (k : Below u.heap.size u v) : v.rangeAt b 0 cs := fun j x hj => (k.cell (p := ⟨b, 0 + j, none⟩) hb).trans (h j x hj)
theorem MkF.below {w U u v : World} {p s c l : Int} {st sk re fe ag : Bool} {pp : Int} {s1 s2 : Option Addr} {pn1 sc1 sc2 : Nat} {p1 p2 : Option Addr} {pc1 pc2 : Nat} {m : Res} {M g1 k1 g2 k2 : Nat} (h : MkF w U p s c l st sk re fe ag pp s1 s2 pn1 sc1 sc2 p1 p2 pc1 pc2 m M g1 k1 g2 k2 u) (k : Below u.heap.size u v) : MkF w U p s c l st sk re fe ag pp s1 s2 pn1 sc1 sc2 p1 p2 pc1 pc2 m M g1 k1 g2 k2 v :=
 ⟨range_below h.rg h.lt k, Nat.lt_of_lt_of_le h.lt k.size, h.ge, Below.trans h.be (k.mono h.be.size), h.ho.below k, Nat.lt_of_lt_of_le h.l1 k.size, Nat.lt_of_lt_of_le h.l2 k.size, h.h1, h.h2⟩
def MkL (p s c l : Int) (st sk re fe ag : Bool) (pp : Int) (pn1 : Nat) (p1 p2 : Option Addr) (pc1 pc2 : Nat) (m : Res) (b : Bool) (w : World) (e : Ending) (w' : World) : Prop :=
 if b = true then e = .returned (.tuple #[.agg zero21.toArray, .int .i64 9]) ∧ Below w.heap.size w w' else
 ∃ s1 s2 sc1 sc2 g1 k1 g2 k2, e = .returned (.tuple #[.agg #[.int .i64 p, .int .i64 s, .bool st, .bool sk, .bool re, .bool fe, .bool ag, .int .i64 c, .int .i64 l, .int .i64 pp, .slice s1 pn1 sc1, .slice s2 2 sc2, .int .i64 m.last, .int .i64 m.laps, .slice p1 pn1 pc1, .slice p2 2 pc2, .int .i64 pp, .slice (some ⟨g1, 0, none⟩) pn1 k1, .slice (some ⟨g2, 0, none⟩) 2 k2, .int .i64 m.last, .int .i64 m.laps], .int .i64 0]) ∧
  PosO w' w.heap.size (some ⟨g1, 0, none⟩) (some ⟨g2, 0, none⟩) g1 g2 pn1 2 (tkX c l p pp m.last m.xs) (tkY c l p pp m.last m.xs m.ys) ∧ g1 < w'.heap.size ∧ g2 < w'.heap.size ∧ pn1 ≤ k1 ∧ 2 ≤ k2 ∧ Below w.heap.size w w'
section
variable {p s c l : Int} {st sk re fe ag : Bool} {pp : Int} {pn1 : Nat} {p1 p2 : Option Addr} {pc1 pc2 : Nat} {m : Res} {w u : World}
theorem mkL_ill (h : Below w.heap.size w u) : MkL p s c l st sk re fe ag pp pn1 p1 p2 pc1 pc2 m true w (.returned (.tuple #[.agg zero21.toArray, .int .i64 9])) u := by
 unfold MkL
 rw [if_pos rfl]
 exact ⟨rfl, h⟩
theorem mkL_leg {s1 s2 : Option Addr} {sc1 sc2 g1 k1 g2 k2 : Nat} (ho : PosO u w.heap.size (some ⟨g1, 0, none⟩) (some ⟨g2, 0, none⟩) g1 g2 pn1 2 (tkX c l p pp m.last m.xs) (tkY c l p pp m.last m.xs m.ys)) (h1 : g1 < u.heap.size) (h2 : g2 < u.heap.size) (h3 : pn1 ≤ k1) (h4 : 2 ≤ k2) (h : Below w.heap.size w u) :
  MkL p s c l st sk re fe ag pp pn1 p1 p2 pc1 pc2 m false w (.returned (.tuple #[.agg #[.int .i64 p, .int .i64 s, .bool st, .bool sk, .bool re, .bool fe, .bool ag, .int .i64 c, .int .i64 l, .int .i64 pp, .slice s1 pn1 sc1, .slice s2 2 sc2, .int .i64 m.last, .int .i64 m.laps, .slice p1 pn1 pc1, .slice p2 2 pc2, .int .i64 pp, .slice (some ⟨g1, 0, none⟩) pn1 k1, .slice (some ⟨g2, 0, none⟩) 2 k2, .int .i64 m.last, .int .i64 m.laps], .int .i64 0])) u := by
 unfold MkL
 rw [if_neg Bool.false_ne_true]
 exact ⟨s1, s2, sc1, sc2, g1, k1, g2, k2, rfl, ho, h1, h2, h3, h4, h⟩
end
theorem makeL_some (p s c l : Int) (st sk re fe ag : Bool) (p1 p2 : Option Addr) (pn1 pc1 pc2 : Nat) (pp move : Int) (xs ys : List Int) (m : Res) (w : World) (h : PosR w p1 p2 pn1 2 xs ys) (hk : okP (okR p s c l st ag) p pn1 2 pp xs ys = true) (hcap : pn1 ≤ pc1) (fin : Fin ⟨p, pp, st, sk, re⟩ (tot xs + tot ys) ys m)
  (hC : ∀ u, Below w.heap.size w u → Calls Try.prog 70 #[.agg #[.int .i64 p, .int .i64 s, .bool st, .bool sk, .bool re, .bool fe, .bool ag, .int .i64 c, .int .i64 l], .agg #[.slice p1 pn1 pc1, .slice p2 2 pc2, .int .i64 pp], .int .i64 move] u (SoZ pn1 2 m.last m.laps 0 m.xs m.ys u)) :
  Calls Try.prog 50 #[.agg #[.int .i64 p, .int .i64 s, .bool st, .bool sk, .bool re, .bool fe, .bool ag, .int .i64 c, .int .i64 l], .agg #[.slice p1 pn1 pc1, .slice p2 2 pc2, .int .i64 pp], .int .i64 move] w (MkL p s c l st sk re fe ag pp pn1 p1 p2 pc1 pc2 m (illB c l p pp fe xs m) w) := by
 have HC := Lib.hid hC
 have H0 := Lib.hid h
 have Hk := Lib.hid hk
 have Hfin := Lib.hid fin
 have HS := Lib.hid ((rp_new p s c l st sk re fe ag p1 p2 pn1 pc1 2 pc2 pp w 30 32).below (al1 _ (.cells zero21.toArray 75)))
 have HZ := Lib.hid (show ThN 21 _ (w.heap.size + 1 + 1) from by have := thN_new ((w.alloc (.cells #[.int .i64 p, .int .i64 s, .bool st, .bool sk, .bool re, .bool fe, .bool ag, .int .i64 c, .int .i64 l] 30)).alloc (.cells #[.slice p1 pn1 pc1, .slice p2 2 pc2, .int .i64 pp] 32)) 75; simpa using this)
 clear hC h hk fin
 go_enter Try.func50, Try.ntmps50
 go_wp2_with fail
 change Calls _ _ _ (((w.alloc (.cells #[.int .i64 p, .int .i64 s, .bool st, .bool sk, .bool re, .bool fe, .bool ag, .int .i64 c, .int .i64 l] 30)).alloc (.cells #[.slice p1 pn1 pc1, .slice p2 2 pc2, .int .i64 pp] 32)).alloc (.cells zero21.toArray 75)) _
 refine (HC.out _ HS.out.2.2).mono ?_
 generalize ((w.alloc (.cells #[.int .i64 p, .int .i64 s, .bool st, .bool sk, .bool re, .bool fe, .bool ag, .int .i64 c, .int .i64 l] 30)).alloc (.cells #[.slice p1 pn1 pc1, .slice p2 2 pc2, .int .i64 pp] 32)).alloc (.cells zero21.toArray 75) = u at *
 rintro e u2 ⟨s1, sc1, e1, s2, sc2, e2, rfl, ho, hl1, hl2, hc1, hc2, hb⟩
 have HS := Lib.hid (HS.out.below hb)
 have HZ := Lib.hid (HZ.out.below hb)
 have HR := Lib.hid ho.r
 obtain ⟨⟨_, r0, r1, r2, r3, r4, r5, r6, r7, r8⟩, ⟨_, g0, g1, g2⟩, -⟩ := HS.out
 clear hb
 go_wp2_with fail
 have HG := Lib.hid (good_fin (t := 0) p s c l st sk re fe ag Hk.out Hfin.out)
 have hu2 : w.heap.size + 1 + 1 < u2.heap.size := HZ.out.lt
 have HK := Lib.hid (show CkAt w ((u2.alloc (.cells #[.slice s1 pn1 sc1, .slice s2 2 sc2, .int .i64 m.last, .int .i64 m.laps] 50)).alloc (.cells #[.int .i64 p, .int .i64 s, .bool st, .bool sk, .bool re, .bool fe, .bool ag, .int .i64 c, .int .i64 l, .int .i64 pp, .slice s1 pn1 sc1, .slice s2 2 sc2, .int .i64 m.last, .int .i64 m.laps] 73)) (u2.heap.size + 1) p s c l st sk re fe ag pp s1 s2 pn1 sc1 2 sc2 m.last m.laps p1 p2 pn1 pc1 2 pc2 pp _ from ⟨⟨by simp, by go_simp, by go_simp, by go_simp, by go_simp, by go_simp, by go_simp, by go_simp, by go_simp, by go_simp, by go_simp, by go_simp, by go_simp, by go_simp, by go_simp⟩, (HS.out.2.1.below (al1 _ _)).below (al1 _ _), Below.refl _ _⟩)
 have HZ := Lib.hid ((HZ.out.below (al1 _ (.cells #[.slice s1 pn1 sc1, .slice s2 2 sc2, .int .i64 m.last, .int .i64 m.laps] 50))).below (al1 _ (.cells #[.int .i64 p, .int .i64 s, .bool st, .bool sk, .bool re, .bool fe, .bool ag, .int .i64 c, .int .i64 l, .int .i64 pp, .slice s1 pn1 sc1, .slice s2 2 sc2, .int .i64 m.last, .int .i64 m.laps] 73)))
 have HS := Lib.hid ((HS.out.below (al1 _ (.cells #[.slice s1 pn1 sc1, .slice s2 2 sc2, .int .i64 m.last, .int .i64 m.laps] 50))).below (al1 _ (.cells #[.int .i64 p, .int .i64 s, .bool st, .bool sk, .bool re, .bool fe, .bool ag, .int .i64 c, .int .i64 l, .int .i64 pp, .slice s1 pn1 sc1, .slice s2 2 sc2, .int .i64 m.last, .int .i64 m.laps] 73)))
 have HR := Lib.hid ((HR.out.alloc (.cells #[.slice s1 pn1 sc1, .slice s2 2 sc2, .int .i64 m.last, .int .i64 m.laps] 50)).alloc (.cells #[.int .i64 p, .int .i64 s, .bool st, .bool sk, .bool re, .bool fe, .bool ag, .int .i64 c, .int .i64 l, .int .i64 pp, .slice s1 pn1 sc1, .slice s2 2 sc2, .int .i64 m.last, .int .i64 m.laps] 73))
 generalize hC : u2.heap.size + 1 = C at *
 clear ho hl1 hl2 r0 r1 r2 r3 r4 r5 r6 r7 r8 g0 g1 g2
 generalize (u2.alloc (.cells #[.slice s1 pn1 sc1, .slice s2 2 sc2, .int .i64 m.last, .int .i64 m.laps] 50)).alloc (.cells #[.int .i64 p, .int .i64 s, .bool st, .bool sk, .bool re, .bool fe, .bool ag, .int .i64 c, .int .i64 l, .int .i64 pp, .slice s1 pn1 sc1, .slice s2 2 sc2, .int .i64 m.last, .int .i64 m.laps] 73) = U at *
 have HTk : Hid (∀ u, OnW U u → Calls Try.prog 57 #[.agg #[.int .i64 p, .int .i64 s, .bool st, .bool sk, .bool re, .bool fe, .bool ag, .int .i64 c, .int .i64 l, .int .i64 pp, .slice s1 pn1 sc1, .slice s2 2 sc2, .int .i64 m.last, .int .i64 m.laps]] u (SoP pn1 2 m.last m.laps (tkX c l p pp m.last m.xs) (tkY c l p pp m.last m.xs m.ys) u)) := Lib.hid (fun u hu => capTake_any p s c l st sk re fe ag pp s1 s2 pn1 sc1 sc2 m.last m.laps m.xs m.ys u (HR.out.below hu) HG.out.1 hc1)
 have HT : Hid (∀ u : World, CkAt w U C p s c l st sk re fe ag pp s1 s2 pn1 sc1 2 sc2 m.last m.laps p1 p2 pn1 pc1 2 pc2 pp u → (C < u.heap.size ∧ u.cell? ⟨C, 0, none⟩ = some (.int .i64 p) ∧ u.cell? ⟨C, 1, none⟩ = some (.int .i64 s) ∧ u.cell? ⟨C, 2, none⟩ = some (.bool st) ∧ u.cell? ⟨C, 3, none⟩ = some (.bool sk) ∧ u.cell? ⟨C, 4, none⟩ = some (.bool re) ∧ u.cell? ⟨C, 5, none⟩ = some (.bool fe) ∧ u.cell? ⟨C, 6, none⟩ = some (.bool ag) ∧ u.cell? ⟨C, 7, none⟩ = some (.int .i64 c) ∧ u.cell? ⟨C, 8, none⟩ = some (.int .i64 l) ∧ u.cell? ⟨C, 9, none⟩ = some (.int .i64 pp) ∧ u.cell? ⟨C, 10, none⟩ = some (.slice s1 pn1 sc1) ∧ u.cell? ⟨C, 11, none⟩ = some (.slice s2 2 sc2) ∧ u.cell? ⟨C, 12, none⟩ = some (.int .i64 m.last) ∧ u.cell? ⟨C, 13, none⟩ = some (.int .i64 m.laps)) ∧ (w.heap.size + 1 < u.heap.size ∧ u.cell? ⟨w.heap.size + 1, 0, none⟩ = some (.slice p1 pn1 pc1) ∧ u.cell? ⟨w.heap.size + 1, 1, none⟩ = some (.slice p2 2 pc2) ∧ u.cell? ⟨w.heap.size + 1, 2, none⟩ = some (.int .i64 pp)) ∧ Below U.heap.size U u) := Lib.hid (fun u h => h)
 have hCU := HK.out.1.1
 have HRgC : Hid (∀ u, ((C < u.heap.size ∧ u.cell? ⟨C, 0, none⟩ = some (.int .i64 p) ∧ u.cell? ⟨C, 1, none⟩ = some (.int .i64 s) ∧ u.cell? ⟨C, 2, none⟩ = some (.bool st) ∧ u.cell? ⟨C, 3, none⟩ = some (.bool sk) ∧ u.cell? ⟨C, 4, none⟩ = some (.bool re) ∧ u.cell? ⟨C, 5, none⟩ = some (.bool fe) ∧ u.cell? ⟨C, 6, none⟩ = some (.bool ag) ∧ u.cell? ⟨C, 7, none⟩ = some (.int .i64 c) ∧ u.cell? ⟨C, 8, none⟩ = some (.int .i64 l) ∧ u.cell? ⟨C, 9, none⟩ = some (.int .i64 pp) ∧ u.cell? ⟨C, 10, none⟩ = some (.slice s1 pn1 sc1) ∧ u.cell? ⟨C, 11, none⟩ = some (.slice s2 2 sc2) ∧ u.cell? ⟨C, 12, none⟩ = some (.int .i64 m.last) ∧ u.cell? ⟨C, 13, none⟩ = some (.int .i64 m.laps)) ∧ (w.heap.size + 1 < u.heap.size ∧ u.cell? ⟨w.heap.size + 1, 0, none⟩ = some (.slice p1 pn1 pc1) ∧ u.cell? ⟨w.heap.size + 1, 1, none⟩ = some (.slice p2 2 pc2) ∧ u.cell? ⟨w.heap.size + 1, 2, none⟩ = some (.int .i64 pp)) ∧ Below U.heap.size U u) → u.rangeAt C 0 [.int .i64 p, .int .i64 s, .bool st, .bool sk, .bool re, .bool fe, .bool ag, .int .i64 c, .int .i64 l, .int .i64 pp, .slice s1 pn1 sc1, .slice s2 2 sc2, .int .i64 m.last, .int .i64 m.laps]) := Lib.hid (fun u h => range14 h.1)
 have HRgP : Hid (∀ u, ((C < u.heap.size ∧ u.cell? ⟨C, 0, none⟩ = some (.int .i64 p) ∧ u.cell? ⟨C, 1, none⟩ = some (.int .i64 s) ∧ u.cell? ⟨C, 2, none⟩ = some (.bool st) ∧ u.cell? ⟨C, 3, none⟩ = some (.bool sk) ∧ u.cell? ⟨C, 4, none⟩ = some (.bool re) ∧ u.cell? ⟨C, 5, none⟩ = some (.bool fe) ∧ u.cell? ⟨C, 6, none⟩ = some (.bool ag) ∧ u.cell? ⟨C, 7, none⟩ = some (.int .i64 c) ∧ u.cell? ⟨C, 8, none⟩ = some (.int .i64 l) ∧ u.cell? ⟨C, 9, none⟩ = some (.int .i64 pp) ∧ u.cell? ⟨C, 10, none⟩ = some (.slice s1 pn1 sc1) ∧ u.cell? ⟨C, 11, none⟩ = some (.slice s2 2 sc2) ∧ u.cell? ⟨C, 12, none⟩ = some (.int .i64 m.last) ∧ u.cell? ⟨C, 13, none⟩ = some (.int .i64 m.laps)) ∧ (w.heap.size + 1 < u.heap.size ∧ u.cell? ⟨w.heap.size + 1, 0, none⟩ = some (.slice p1 pn1 pc1) ∧ u.cell? ⟨w.heap.size + 1, 1, none⟩ = some (.slice p2 2 pc2) ∧ u.cell? ⟨w.heap.size + 1, 2, none⟩ = some (.int .i64 pp)) ∧ Below U.heap.size U u) → u.rangeAt (w.heap.size + 1) 0 [.slice p1 pn1 pc1, .slice p2 2 pc2, .int .i64 pp]) := Lib.hid (fun u h => range3 h.2.1)
 have hU1 : C < U.heap.size := HK.out.1.1
 have hU2 : w.heap.size + 1 < U.heap.size := HK.out.2.1.1
 go_cut [11] (fun s11 wx => ∃ M g1 k1 g2 k2 : Nat, s11 = .pointer (some ⟨M, 0, none⟩) ∧ MkF w U p s c l st sk re fe ag pp s1 s2 pn1 sc1 sc2 p1 p2 pc1 pc2 m M g1 k1 g2 k2 wx)
 case first =>
  refine wp_region_held_drew (S := fun u => (C < u.heap.size ∧ u.cell? ⟨C, 0, none⟩ = some (.int .i64 p) ∧ u.cell? ⟨C, 1, none⟩ = some (.int .i64 s) ∧ u.cell? ⟨C, 2, none⟩ = some (.bool st) ∧ u.cell? ⟨C, 3, none⟩ = some (.bool sk) ∧ u.cell? ⟨C, 4, none⟩ = some (.bool re) ∧ u.cell? ⟨C, 5, none⟩ = some (.bool fe) ∧ u.cell? ⟨C, 6, none⟩ = some (.bool ag) ∧ u.cell? ⟨C, 7, none⟩ = some (.int .i64 c) ∧ u.cell? ⟨C, 8, none⟩ = some (.int .i64 l) ∧ u.cell? ⟨C, 9, none⟩ = some (.int .i64 pp) ∧ u.cell? ⟨C, 10, none⟩ = some (.slice s1 pn1 sc1) ∧ u.cell? ⟨C, 11, none⟩ = some (.slice s2 2 sc2) ∧ u.cell? ⟨C, 12, none⟩ = some (.int .i64 m.last) ∧ u.cell? ⟨C, 13, none⟩ = some (.int .i64 m.laps)) ∧ (w.heap.size + 1 < u.heap.size ∧ u.cell? ⟨w.heap.size + 1, 0, none⟩ = some (.slice p1 pn1 pc1) ∧ u.cell? ⟨w.heap.size + 1, 1, none⟩ = some (.slice p2 2 pc2) ∧ u.cell? ⟨w.heap.size + 1, 2, none⟩ = some (.int .i64 pp)) ∧ Below U.heap.size U u) (by kernel_rfl) (HT.out _ HK.out.drew) (fun hHeld => ?_)
  refine wpAnyH_take (i := 0) rfl (by kernel_rfl) (by kernel_rfl) (by kernel_rfl) (fun _ _ _ h => h) (yieldsIf_load_mid (by rfl) 73 _ rfl C 0 rfl [.int .i64 p, .int .i64 s, .bool st, .bool sk, .bool re, .bool fe, .bool ag, .int .i64 c, .int .i64 l, .int .i64 pp, .slice s1 pn1 sc1, .slice s2 2 sc2, .int .i64 m.last, .int .i64 m.laps] _ HRgC.out Try.underlying73 rfl (by kernel_rfl)) hHeld ?_
  simp only [Act.put, List.setIfInBounds_toArray]
  refine wpAnyH_take (i := 1) rfl (by kernel_rfl) (by kernel_rfl) (by kernel_rfl) (fun _ _ _ h => h) (yieldsIf_load_mid (by rfl) 32 _ rfl (w.heap.size + 1) 0 rfl [.slice p1 pn1 pc1, .slice p2 2 pc2, .int .i64 pp] _ HRgP.out Try.underlying32 rfl (by kernel_rfl)) hHeld ?_
  simp only [Act.put]
  refine wpAnyH_take (i := 2) rfl (by kernel_rfl) (by kernel_rfl) (by kernel_rfl) (fun _ _ _ h => h) (yieldsIf_load_mid (by rfl) 73 _ rfl C 0 rfl [.int .i64 p, .int .i64 s, .bool st, .bool sk, .bool re, .bool fe, .bool ag, .int .i64 c, .int .i64 l, .int .i64 pp, .slice s1 pn1 sc1, .slice s2 2 sc2, .int .i64 m.last, .int .i64 m.laps] _ HRgC.out Try.underlying73 rfl (by kernel_rfl)) hHeld ?_
  simp only [Act.put]
  refine wpAnyH_ready (rs := [3, 5]) (by kernel_rfl) (by simp) ?_
  refine AllReadyH.cons rfl (fun K hK => ?_) (AllReadyH.cons rfl (fun K hK => ?_) AllReadyH.nil)
  ·rw [if_pos (by rfl)]
   go_simp
   go_at_call 57
   refine (HTk.out _ HK.out.drew.be).mono ?_
   rintro e w5 ⟨g1, k1, g2, k2, rfl, hto, htl1, htl2, htc1, htc2, hb5⟩
   have HK5 := Lib.hid (show CkAt w U C p s c l st sk re fe ag pp s1 s2 pn1 sc1 2 sc2 m.last m.laps p1 p2 pn1 pc1 2 pc2 pp w5 from HK.out.drew.below hb5)
   have HO := Lib.hid (show PosO w5 U.heap.size (some ⟨g1, 0, none⟩) (some ⟨g2, 0, none⟩) g1 g2 pn1 2 (tkX c l p pp m.last m.xs) (tkY c l p pp m.last m.xs m.ys) from hto)
   have hUw : U.heap.size ≤ w5.heap.size := HK5.out.be.size
   clear hb5 hto
   dsimp only
   refine hK.out _ _ (HT.out _ HK5.out) (fun hHeld => ?_)
   clear hK K
   refine wpAnyH_take (i := 4) (oi := { dst := some 32, op := Op.build 75 #[(0, Operand.tmp 28), (1, Operand.tmp 29), (2, Operand.tmp 31)], type := 75, pos := "l07_moves.go:31", after := #[{ on := 0, ground := Ground.data }, { on := 1, ground := Ground.data }, { on := 3, ground := Ground.data }], guard := none }) (v := .agg #[.int .i64 p, .int .i64 s, .bool st, .bool sk, .bool re, .bool fe, .bool ag, .int .i64 c, .int .i64 l, .int .i64 pp, .slice s1 pn1 sc1, .slice s2 2 sc2, .int .i64 m.last, .int .i64 m.laps, .slice p1 pn1 pc1, .slice p2 2 pc2, .int .i64 pp, .slice (some ⟨g1, 0, none⟩) pn1 k1, .slice (some ⟨g2, 0, none⟩) 2 k2, .int .i64 m.last, .int .i64 m.laps]) rfl (by kernel_rfl) (by kernel_rfl) (by kernel_rfl) (fun _ _ _ h => h) (.inl ⟨by rfl, fun u hu => by go_simp⟩) hHeld ?_
   simp only [Act.put, List.setIfInBounds_toArray, List.set_cons_zero, List.set_cons_succ]
   refine wpAnyH_ready (rs := [5]) (by kernel_rfl) (by simp) ?_
   refine AllReadyH.cons rfl (fun K hK => ?_) AllReadyH.nil
   rw [if_pos (by rfl)]
   go_simp
   have HTh := Lib.hid (thN_new w5 75)
   have HK6 := Lib.hid (show CkAt w U C p s c l st sk re fe ag pp s1 s2 pn1 sc1 2 sc2 m.last m.laps p1 p2 pn1 pc1 2 pc2 pp _ from HK5.out.below (al1 w5 (.cells zero21.toArray 75)))
   have HO6 := Lib.hid (PosO.below HO.out (al1 w5 (.cells zero21.toArray 75)))
   change K _ (w5.alloc (.cells zero21.toArray 75))
   refine hK.out _ _ (HT.out _ HK6.out) (fun hHeld => ?_)
   clear hK K
   (try simp only [Act.put, List.setIfInBounds_toArray, List.set_cons_zero, List.set_cons_succ])
   refine wpAnyH_ready (rs := [6]) (by kernel_rfl) (by simp) ?_
   refine AllReadyH.cons rfl (fun K hK => ?_) AllReadyH.nil
   rw [if_pos (by rfl)]
   refine wp_store_mid 75 _ _ rfl w5.heap.size 0 (List.toArray [.int .i64 p, .int .i64 s, .bool st, .bool sk, .bool re, .bool fe, .bool ag, .int .i64 c, .int .i64 l, .int .i64 pp, .slice s1 pn1 sc1, .slice s2 2 sc2, .int .i64 m.last, .int .i64 m.laps, .slice p1 pn1 pc1, .slice p2 2 pc2, .int .i64 pp, .slice (some ⟨g1, 0, none⟩) pn1 k1, .slice (some ⟨g2, 0, none⟩) 2 k2, .int .i64 m.last, .int .i64 m.laps]) rfl rfl HTh.out.th (by kernel_rfl) (mm_one p s c l st sk re fe ag pp s1 s2 pn1 sc1 2 sc2 m.last m.laps p1 p2 pn1 pc1 2 pc2 pp (some ⟨g1, 0, none⟩) (some ⟨g2, 0, none⟩) pn1 k1 2 k2 m.last m.laps) ?_
   simp only [Act.put, List.setIfInBounds_toArray]
   refine hK.out _ _ (HT.out _ (HK6.out.sc (by omega) (by omega) (by omega) _ _)) (fun hHeld => ?_)
   clear hK K
   (try simp only [Act.put, List.setIfInBounds_toArray, List.set_cons_zero, List.set_cons_succ])
   refine wpAnyH_done (by kernel_rfl) ?_ _
   go_wp2_with fail
   go_meet
   exact ⟨w5.heap.size, g1, k1, g2, k2, rfl, ⟨World.rangeAt_setCells_same _ _ 0 _ HTh.out.th, by rw [size_sc]; exact HTh.out.lt, by omega, (HK6.out.sc (by omega) (by omega) (by omega) _ _).be, PosO.but HO6.out (but_sc _ _ _ _) (by omega) (by omega), by rw [size_sc]; simp; omega, by rw [size_sc]; simp; omega, htc1, htc2⟩⟩
  ·rw [if_pos (by rfl)]
   go_simp
   have HK6 := Lib.hid (show CkAt w U C p s c l st sk re fe ag pp s1 s2 pn1 sc1 2 sc2 m.last m.laps p1 p2 pn1 pc1 2 pc2 pp _ from (HK.out.below (al1 U (.cells zero21.toArray 75))).drew)
   change K _ (U.alloc (.cells zero21.toArray 75)).drew
   refine hK.out _ _ (HT.out _ HK6.out) (fun hHeld => ?_)
   clear hK K
   (try simp only [Act.put, List.setIfInBounds_toArray, List.set_cons_zero, List.set_cons_succ])
   refine wpAnyH_ready (rs := [3]) (by kernel_rfl) (by simp) ?_
   refine AllReadyH.cons rfl (fun K hK => ?_) AllReadyH.nil
   rw [if_pos (by rfl)]
   go_simp
   go_at_call 57
   refine (HTk.out _ HK6.out.be).mono ?_
   rintro e w5 ⟨g1, k1, g2, k2, rfl, hto, htl1, htl2, htc1, htc2, hb5⟩
   have HK7 := Lib.hid (show CkAt w U C p s c l st sk re fe ag pp s1 s2 pn1 sc1 2 sc2 m.last m.laps p1 p2 pn1 pc1 2 pc2 pp w5 from HK6.out.below hb5)
   have HO := Lib.hid (show PosO w5 (U.heap.size + 1) (some ⟨g1, 0, none⟩) (some ⟨g2, 0, none⟩) g1 g2 pn1 2 (tkX c l p pp m.last m.xs) (tkY c l p pp m.last m.xs m.ys) from by have h := hto; simpa using h)
   have HTh := Lib.hid (show ThN 21 w5 U.heap.size from ThN.below (ThN.below (thN_new U 75) (Below.refl _ _).drew) hb5)
   have hUw : U.heap.size ≤ w5.heap.size := HK7.out.be.size
   have ng1 := HO.out.o1.new
   have ng2 := HO.out.o2.new
   clear hb5 hto
   dsimp only
   refine hK.out _ _ (HT.out _ HK7.out) (fun hHeld => ?_)
   clear hK K
   (try simp only [Act.put, List.setIfInBounds_toArray, List.set_cons_zero, List.set_cons_succ])
   refine wpAnyH_take (i := 4) (oi := { dst := some 32, op := Op.build 75 #[(0, Operand.tmp 28), (1, Operand.tmp 29), (2, Operand.tmp 31)], type := 75, pos := "l07_moves.go:31", after := #[{ on := 0, ground := Ground.data }, { on := 1, ground := Ground.data }, { on := 3, ground := Ground.data }], guard := none }) (v := .agg #[.int .i64 p, .int .i64 s, .bool st, .bool sk, .bool re, .bool fe, .bool ag, .int .i64 c, .int .i64 l, .int .i64 pp, .slice s1 pn1 sc1, .slice s2 2 sc2, .int .i64 m.last, .int .i64 m.laps, .slice p1 pn1 pc1, .slice p2 2 pc2, .int .i64 pp, .slice (some ⟨g1, 0, none⟩) pn1 k1, .slice (some ⟨g2, 0, none⟩) 2 k2, .int .i64 m.last, .int .i64 m.laps]) rfl (by kernel_rfl) (by kernel_rfl) (by kernel_rfl) (fun _ _ _ h => h) (.inl ⟨by rfl, fun u hu => by go_simp⟩) hHeld ?_
   simp only [Act.put, List.setIfInBounds_toArray, List.set_cons_zero, List.set_cons_succ]
   refine wpAnyH_ready (rs := [6]) (by kernel_rfl) (by simp) ?_
   refine AllReadyH.cons rfl (fun K hK => ?_) AllReadyH.nil
   rw [if_pos (by rfl)]
   refine wp_store_mid 75 _ _ rfl U.heap.size 0 (List.toArray [.int .i64 p, .int .i64 s, .bool st, .bool sk, .bool re, .bool fe, .bool ag, .int .i64 c, .int .i64 l, .int .i64 pp, .slice s1 pn1 sc1, .slice s2 2 sc2, .int .i64 m.last, .int .i64 m.laps, .slice p1 pn1 pc1, .slice p2 2 pc2, .int .i64 pp, .slice (some ⟨g1, 0, none⟩) pn1 k1, .slice (some ⟨g2, 0, none⟩) 2 k2, .int .i64 m.last, .int .i64 m.laps]) rfl rfl HTh.out.th (by kernel_rfl) (mm_one p s c l st sk re fe ag pp s1 s2 pn1 sc1 2 sc2 m.last m.laps p1 p2 pn1 pc1 2 pc2 pp (some ⟨g1, 0, none⟩) (some ⟨g2, 0, none⟩) pn1 k1 2 k2 m.last m.laps) ?_
   simp only [Act.put, List.setIfInBounds_toArray]
   refine hK.out _ _ (HT.out _ (HK7.out.sc (by omega) (by omega) (by omega) _ _)) (fun hHeld => ?_)
   clear hK K
   (try simp only [Act.put, List.setIfInBounds_toArray, List.set_cons_zero, List.set_cons_succ])
   refine wpAnyH_done (by kernel_rfl) ?_ _
   go_wp2_with fail
   go_meet
   exact ⟨U.heap.size, g1, k1, g2, k2, rfl, ⟨World.rangeAt_setCells_same _ _ 0 _ HTh.out.th, by rw [size_sc]; exact HTh.out.lt, by omega, (HK7.out.sc (by omega) (by omega) (by omega) _ _).be, PosO.but (HO.out.lower (Nat.le_succ _)) (but_sc _ _ _ _) (by omega) (by omega), by rw [size_sc]; exact htl1, by rw [size_sc]; exact htl2, htc1, htc2⟩⟩
 case rest =>
  obtain ⟨M, g1, k1, g2, k2, rfl, hM⟩ := hcut
  have HM := Lib.hid hM
  have HZc := Lib.hid (show ThN 21 wc (w.heap.size + 1 + 1) from ThN.below HZ.out hM.be)
  have HSc := Lib.hid (show OnW w wc from Below.trans HS.out.2.2 (Below.mono hM.be HS.out.2.2.size))
  have hρU : w.heap.size + 1 + 1 < U.heap.size := by omega
  clear hM HT HTk HK hU1 hU2
  go_wp2_with (refine wpList_load_mid rfl 75 _ rfl M 0 rfl _ _ HM.out.rg Try.underlying75 rfl (by kernel_rfl) ?_)
  refine (fbS_any p s c l st sk re fe ag pp s1 s2 pn1 sc1 2 sc2 m.last m.laps p1 p2 pn1 pc1 2 pc2 pp (some ⟨g1, 0, none⟩) (some ⟨g2, 0, none⟩) pn1 k1 2 k2 m.last m.laps m.xs m.ys wc (HR.out.below HM.out.be) HG.out.1 hc1).mono ?_
  rintro e w6 ⟨rfl, hb6⟩
  have HM := Lib.hid (HM.out.below hb6)
  have HZ6 := Lib.hid (show ThN 21 w6 (w.heap.size + 1 + 1) from ThN.below HZc.out hb6)
  have HS6 := Lib.hid (show OnW w w6 from Below.trans HSc.out (Below.mono hb6 HSc.out.size))
  have HIll : Hid (illB c l p pp fe xs m = ((decide (l = 1) && slamF c p pp m.last m.xs) || fbF c l p pp fe xs m)) := Lib.hid rfl
  clear hb6 HZc HSc
  rcases hS : (decide (l = 1) && slamF c p pp m.last m.xs) with _ | _
  ·rw [hS, Bool.false_or] at HIll
   clear hS
   go_wp2_with (first | (refine wpList_load_mid rfl 75 _ rfl M 0 rfl _ _ HM.out.rg Try.underlying75 rfl (by kernel_rfl) ?_) | (refine wpList_load_want (by rfl) 75 _ rfl M 0 rfl _ _ HM.out.rg Try.underlying75 rfl (by kernel_rfl) ?_) | (refine wpList_store_mid rfl 75 _ _ rfl (w.heap.size + 1 + 1) 0 zero21.toArray rfl rfl HZ6.out.th (by kernel_rfl) zero21_one ?_))
   have hsum := HG.out.1.sum HG.out.2.1
   have ht1 := HG.out.1.t1
   refine (fbF_any p s c l st sk re fe ag pp s1 s2 pn1 sc1 2 sc2 m.last m.laps p1 p2 pn1 pc1 2 pc2 pp (some ⟨g1, 0, none⟩) (some ⟨g2, 0, none⟩) pn1 k1 2 k2 m.last m.laps xs ys (tkX c l p pp m.last m.xs) w6 (H0.out.below HS6.out) Hk.out hcap HM.out.ho.o1.row (tkX_len.trans HG.out.2.1) HG.out.1.n1 (HG.out.1.tk HG.out.2.1 HG.out.2.2).1 (by omega) HM.out.h1 rfl).mono ?_
   rintro e w7 ⟨rfl, hb7⟩
   have HM := Lib.hid (HM.out.below hb7)
   have HZ7 := Lib.hid (show ThN 21 w7 (w.heap.size + 1 + 1) from ThN.below HZ6.out hb7)
   have HS7 := Lib.hid (show OnW w w7 from Below.trans HS6.out (Below.mono hb7 HS6.out.size))
   have HIl2 : Hid (illB c l p pp fe xs m = ((fe && noneO p pp xs) && noneO p pp (tkX c l p pp m.last m.xs))) := Lib.hid HIll.out
   clear hb7 HZ6 HS6 hsum ht1 HIll
   rcases hF : ((fe && noneO p pp xs) && noneO p pp (tkX c l p pp m.last m.xs)) with _ | _
   ·have HIll := Lib.hid (HIl2.out.trans hF)
    clear hF HIl2
    go_wp2_with (first | (refine wpList_load_mid rfl 75 _ rfl M 0 rfl _ _ HM.out.rg Try.underlying75 rfl (by kernel_rfl) ?_) | (refine wpList_load_want (by rfl) 75 _ rfl M 0 rfl _ _ HM.out.rg Try.underlying75 rfl (by kernel_rfl) ?_) | (refine wpList_store_mid rfl 75 _ _ rfl (w.heap.size + 1 + 1) 0 zero21.toArray rfl rfl HZ7.out.th (by kernel_rfl) zero21_one ?_) | (refine wpList_store_mid rfl 75 _ _ rfl (w.heap.size + 1 + 1) 0 (List.toArray [.int .i64 p, .int .i64 s, .bool st, .bool sk, .bool re, .bool fe, .bool ag, .int .i64 c, .int .i64 l, .int .i64 pp, .slice s1 pn1 sc1, .slice s2 2 sc2, .int .i64 m.last, .int .i64 m.laps, .slice p1 pn1 pc1, .slice p2 2 pc2, .int .i64 pp, .slice (some ⟨g1, 0, none⟩) pn1 k1, .slice (some ⟨g2, 0, none⟩) 2 k2, .int .i64 m.last, .int .i64 m.laps]) rfl rfl HZ7.out.th (by kernel_rfl) (mm_one p s c l st sk re fe ag pp s1 s2 pn1 sc1 2 sc2 m.last m.laps p1 p2 pn1 pc1 2 pc2 pp (some ⟨g1, 0, none⟩) (some ⟨g2, 0, none⟩) pn1 k1 2 k2 m.last m.laps) ?_))
    have hrun := run_loadVar_mid (P := Try.prog) _ (w.heap.size + 1 + 1) 0 75 [.int .i64 p, .int .i64 s, .bool st, .bool sk, .bool re, .bool fe, .bool ag, .int .i64 c, .int .i64 l, .int .i64 pp, .slice s1 pn1 sc1, .slice s2 2 sc2, .int .i64 m.last, .int .i64 m.laps, .slice p1 pn1 pc1, .slice p2 2 pc2, .int .i64 pp, .slice (some ⟨g1, 0, none⟩) pn1 k1, .slice (some ⟨g2, 0, none⟩) 2 k2, .int .i64 m.last, .int .i64 m.laps] _ (World.rangeAt_setCells_same w7 (w.heap.size + 1 + 1) 0 [.int .i64 p, .int .i64 s, .bool st, .bool sk, .bool re, .bool fe, .bool ag, .int .i64 c, .int .i64 l, .int .i64 pp, .slice s1 pn1 sc1, .slice s2 2 sc2, .int .i64 m.last, .int .i64 m.laps, .slice p1 pn1 pc1, .slice p2 2 pc2, .int .i64 pp, .slice (some ⟨g1, 0, none⟩) pn1 k1, .slice (some ⟨g2, 0, none⟩) 2 k2, .int .i64 m.last, .int .i64 m.laps] HZ7.out.th) Try.underlying75 rfl (by kernel_rfl)
    refine bodyPost_ret (v := .tuple #[.agg #[.int .i64 p, .int .i64 s, .bool st, .bool sk, .bool re, .bool fe, .bool ag, .int .i64 c, .int .i64 l, .int .i64 pp, .slice s1 pn1 sc1, .slice s2 2 sc2, .int .i64 m.last, .int .i64 m.laps, .slice p1 pn1 pc1, .slice p2 2 pc2, .int .i64 pp, .slice (some ⟨g1, 0, none⟩) pn1 k1, .slice (some ⟨g2, 0, none⟩) 2 k2, .int .i64 m.last, .int .i64 m.laps], .int .i64 0]) (by simp [results, Try.results50, Result.andThen_ok, asAddr, hrun]) rfl ?_
    rw [HIll.out]
    have n1 := HM.out.ho.o1.new
    have n2 := HM.out.ho.o2.new
    have hUw := HM.out.be.size
    exact mkL_leg ((PosO.but HM.out.ho (but_sc _ _ _ _) (by omega) (by omega)).lower (by omega)) (by rw [size_sc]; exact HM.out.l1) (by rw [size_sc]; exact HM.out.l2) HM.out.h1 HM.out.h2 (below_sc (w.heap.size + 1 + 1) (by omega) _ 0 HS7.out)
   ·have HIll := Lib.hid (HIl2.out.trans hF)
    clear hF HIl2
    go_wp2_with (first | (refine wpList_load_mid rfl 75 _ rfl M 0 rfl _ _ HM.out.rg Try.underlying75 rfl (by kernel_rfl) ?_) | (refine wpList_load_want (by rfl) 75 _ rfl M 0 rfl _ _ HM.out.rg Try.underlying75 rfl (by kernel_rfl) ?_) | (refine wpList_store_mid rfl 75 _ _ rfl (w.heap.size + 1 + 1) 0 zero21.toArray rfl rfl HZ7.out.th (by kernel_rfl) zero21_one ?_))
    have hrun := run_loadVar_mid (P := Try.prog) _ (w.heap.size + 1 + 1) 0 75 zero21 _ (World.rangeAt_setCells_same w7 (w.heap.size + 1 + 1) 0 zero21 HZ7.out.th) Try.underlying75 rfl (by kernel_rfl)
    refine bodyPost_ret (v := .tuple #[.agg zero21.toArray, .int .i64 9]) (by simp [results, Try.results50, Result.andThen_ok, asAddr, hrun]) rfl ?_
    rw [HIll.out]
    exact mkL_ill (below_sc (w.heap.size + 1 + 1) (by omega) zero21 0 HS7.out)
  ·rw [hS, Bool.true_or] at HIll
   clear hS
   go_wp2_with (first | (refine wpList_load_mid rfl 75 _ rfl M 0 rfl _ _ HM.out.rg Try.underlying75 rfl (by kernel_rfl) ?_) | (refine wpList_load_want (by rfl) 75 _ rfl M 0 rfl _ _ HM.out.rg Try.underlying75 rfl (by kernel_rfl) ?_) | (refine wpList_store_mid rfl 75 _ _ rfl (w.heap.size + 1 + 1) 0 zero21.toArray rfl rfl HZ6.out.th (by kernel_rfl) zero21_one ?_))
   have hrun := run_loadVar_mid (P := Try.prog) _ (w.heap.size + 1 + 1) 0 75 zero21 _ (World.rangeAt_setCells_same w6 (w.heap.size + 1 + 1) 0 zero21 HZ6.out.th) Try.underlying75 rfl (by kernel_rfl)
   refine bodyPost_ret (v := .tuple #[.agg zero21.toArray, .int .i64 9]) (by simp [results, Try.results50, Result.andThen_ok, asAddr, hrun]) rfl ?_
   rw [HIll.out]
   exact mkL_ill (below_sc (w.heap.size + 1 + 1) (by omega) zero21 0 HS6.out)
/- Mk11 -/
def MkQ (p s c l : Int) (st sk re fe ag : Bool) (pp : Int) (pn1 : Nat) (p1 p2 : Option Addr) (pc1 pc2 : Nat) (LV : Option Res) (cd : Int) (w : World) (e : Ending) (w' : World) : Prop :=
 match LV with
 | none => e = .returned (.tuple #[.agg zero21.toArray, .int .i64 cd]) ∧ Below w.heap.size w w'
 | some m => ∃ s1 s2 sc1 sc2 g1 k1 g2 k2, e = .returned (.tuple #[.agg #[.int .i64 p, .int .i64 s, .bool st, .bool sk, .bool re, .bool fe, .bool ag, .int .i64 c, .int .i64 l, .int .i64 pp, .slice s1 pn1 sc1, .slice s2 2 sc2, .int .i64 m.last, .int .i64 m.laps, .slice p1 pn1 pc1, .slice p2 2 pc2, .int .i64 pp, .slice (some ⟨g1, 0, none⟩) pn1 k1, .slice (some ⟨g2, 0, none⟩) 2 k2, .int .i64 m.last, .int .i64 m.laps], .int .i64 cd]) ∧
  PosO w' w.heap.size (some ⟨g1, 0, none⟩) (some ⟨g2, 0, none⟩) g1 g2 pn1 2 (tkX c l p pp m.last m.xs) (tkY c l p pp m.last m.xs m.ys) ∧ g1 < w'.heap.size ∧ g2 < w'.heap.size ∧ pn1 ≤ k1 ∧ 2 ≤ k2 ∧ Below w.heap.size w w'
def MkD (cd : Int) (w : World) (e : Ending) (w' : World) : Prop :=
 ∃ (p s c l : Int) (st sk re fe ag : Bool) (player : Int) (s1 s2 : Option Addr) (sn1 sc1 sn2 sc2 : Nat) (sp sq : Int) (p1 p2 : Option Addr) (pn1 pc1 pn2 pc2 : Nat) (pp : Int) (t1 t2 : Option Addr) (tn1 tc1 tn2 tc2 : Nat) (tp tq : Int), e = .returned (.tuple #[.agg #[.int .i64 p, .int .i64 s, .bool st, .bool sk, .bool re, .bool fe, .bool ag, .int .i64 c, .int .i64 l, .int .i64 player, .slice s1 sn1 sc1, .slice s2 sn2 sc2, .int .i64 sp, .int .i64 sq, .slice p1 pn1 pc1, .slice p2 pn2 pc2, .int .i64 pp, .slice t1 tn1 tc1, .slice t2 tn2 tc2, .int .i64 tp, .int .i64 tq], .int .i64 cd]) ∧ Below w.heap.size w w'
theorem MkQ.d (p s c l : Int) (st sk re fe ag : Bool) {pp : Int} {pn1 : Nat} {p1 p2 : Option Addr} {pc1 pc2 : Nat} {LV : Option Res} {cd : Int} {w : World} {e : Ending} {w' : World} (h : MkQ p s c l st sk re fe ag pp pn1 p1 p2 pc1 pc2 LV cd w e w') : MkD cd w e w' := by
 cases LV with
 | none => exact ⟨_, _, _, _, _, _, _, _, _, _, _, _, _, _, _, _, _, _, _, _, _, _, _, _, _, _, _, _, _, _, _, _, _, h.1, h.2⟩
 | some m =>
  obtain ⟨s1, s2, sc1, sc2, g1, k1, g2, k2, he, -, -, -, -, -, hb⟩ := h
  exact ⟨_, _, _, _, _, _, _, _, _, _, _, _, _, _, _, _, _, _, _, _, _, _, _, _, _, _, _, _, _, _, _, _, _, he, hb⟩
theorem makeL_any (p s c l : Int) (st sk re fe ag : Bool) (p1 p2 : Option Addr) (pn1 pc1 pn2 pc2 : Nat) (pp : Int) (xs ys : List Int) (move : Int) (w : World) (h : PosR w p1 p2 pn1 pn2 xs ys) (hcap : pn1 ≤ pc1) (k : Bool) (hk : okP (okR p s c l st ag) p pn1 pn2 pp xs ys = k) :
  Calls Try.prog 50 #[.agg #[.int .i64 p, .int .i64 s, .bool st, .bool sk, .bool re, .bool fe, .bool ag, .int .i64 c, .int .i64 l], .agg #[.slice p1 pn1 pc1, .slice p2 pn2 pc2, .int .i64 pp], .int .i64 move] w (MkQ p s c l st sk re fe ag pp pn1 p1 p2 pc1 pc2 (lgV c l p pp fe xs (mvV k p pp st sk re xs ys move)) (lgC c l p pp fe xs (mvCd k p pp st sk re xs ys move) (mvV k p pp st sk re xs ys move)) w) := by
 have hC := fun u (hu : Below w.heap.size w u) => implMove_any p s c l st sk re fe ag p1 p2 pn1 pc1 pn2 pc2 pp xs ys move u (h.below hu) k hk
 cases hm : mvV k p pp st sk re xs ys move with
 | none =>
  rw [hm] at hC
  have h0 : (mvCd k p pp st sk re xs ys move == 0) = false := by
   rcases mvV_none hk h.l1 hm with e | e | e | e <;> rw [e] <;> rfl
  exact makeL_err p s c l st sk re fe ag p1 p2 pn1 pc1 pn2 pc2 pp move _ h0 w hC
 | some m =>
  obtain ⟨rfl, m0, m1, hc0, fin⟩ := mvV_fin hk h.l1 h.l2 hm
  obtain ⟨rfl, hpl⟩ := pl_of_ok hk
  rw [hm, hc0] at hC
  have hX := makeL_some p s c l st sk re fe ag p1 p2 pn1 pc1 pc2 pp move xs ys m w h hk hcap fin hC
  rw [hc0]
  have e1 : lgV c l p pp fe xs (some m) = if illB c l p pp fe xs m then none else some m := rfl
  have e2 : lgC c l p pp fe xs 0 (some m) = if illB c l p pp fe xs m then 9 else 0 := rfl
  rw [e1, e2]
  generalize illB c l p pp fe xs m = b at *
  cases b
  ·exact hX.mono (fun e w' q => by unfold MkL at q; rw [if_neg (by decide)] at q; exact q)
  ·exact hX.mono (fun e w' q => by unfold MkL at q; rw [if_pos rfl] at q; exact q)
/- Res7 -/
structure R7 where
 mv : Int
 gn : Int
 ag : Bool
 nx : Int
 xs : List Int
 ys : List Int
structure Q7 where
 g1 : Nat
 g2 : Nat
 n1 : Nat
 k1 : Nat
 k2 : Nat
def cells7 (x : R7 × Q7) : List Value := [.int .i64 x.1.mv, .int .i64 x.1.gn, .bool x.1.ag, .slice (some ⟨x.2.g1, 0, none⟩) x.2.n1 x.2.k1, .slice (some ⟨x.2.g2, 0, none⟩) 2 x.2.k2, .int .i64 x.1.nx]
def flat7 (L : List (R7 × Q7)) : List Value := L.flatMap cells7
theorem cells7_one (x : R7 × Q7) : ∀ u ∈ cells7 x, u.oneCell' = true := by
 intro u hu
 simp only [cells7, List.mem_cons, List.not_mem_nil, or_false] at hu
 rcases hu with rfl | rfl | rfl | rfl | rfl | rfl <;> rfl
theorem flat7_snoc (L : List (R7 × Q7)) (x : R7 × Q7) : flat7 (L ++ [x]) = flat7 L ++ cells7 x := by simp [flat7]
theorem flat7_at : ∀ (L : List (R7 × Q7)) (i : Nat) (x : R7 × Q7), L[i]? = some x → ∀ o, o < 6 → (flat7 L)[i * 6 + o]? = (cells7 x)[o]?
 | [], _, _, h, _, _ => by cases h
 | y :: r, 0, x, h, o, ho => by
  cases h
  have e : flat7 (y :: r) = cells7 y ++ flat7 r := by simp [flat7]
  rw [e, Nat.zero_mul, Nat.zero_add, List.getElem?_append_left (by show o < 6; exact ho)]
 | y :: r, i + 1, x, h, o, ho => by
  have e : flat7 (y :: r) = cells7 y ++ flat7 r := by simp [flat7]
  rw [e, List.getElem?_append_right (by show 6 ≤ _; omega)]
  have := flat7_at r i x (by simpa using h) o ho
  rw [← this]
  congr 1
  show (i + 1) * 6 + o - 6 = _
  omega
structure It7 (u : World) (B : Nat) (x : R7 × Q7) : Prop where
 o : PosO u B (some ⟨x.2.g1, 0, none⟩) (some ⟨x.2.g2, 0, none⟩) x.2.g1 x.2.g2 x.2.n1 2 x.1.xs x.1.ys
 l1 : x.2.g1 < u.heap.size
 l2 : x.2.g2 < u.heap.size
 k1 : x.2.n1 ≤ x.2.k1
 k2 : 2 ≤ x.2.k2
def Far7 (x y : R7 × Q7) : Prop := x.2.g1 ≠ y.2.g1 ∧ x.2.g1 ≠ y.2.g2 ∧ x.2.g2 ≠ y.2.g1 ∧ x.2.g2 ≠ y.2.g2
structure Rs7 (u : World) (B : Nat) (v : Value) (L : List (R7 × Q7)) : Prop where
 own : u.ownsRow B 66 6 v L.length (flat7 L)
 it : ∀ x ∈ L, It7 u B x
 ne : ∀ x ∈ L, ∀ k, v.ownBlock = some k → k ≠ x.2.g1 ∧ k ≠ x.2.g2
 pw : L.Pairwise Far7
theorem own_keepS {w w' : World} {B e s n : Nat} {v : Value} {xs : List Value} (h : w.ownsRow B e s v n xs) (k : Below w.heap.size w w') : w'.ownsRow B e s v n xs := by
 obtain ⟨h1, h2 | ⟨g, cap, cur, hv, hb, hg, hr⟩⟩ := h
 ·exact ⟨h1, .inl h2⟩
 ·exact ⟨h1, .inr ⟨g, cap, cur, hv, hb, by rw [k.block g (Array.getElem?_eq_some_iff.1 hg).1]; exact hg, hr⟩⟩
theorem own_lt {w : World} {B e s n : Nat} {v : Value} {xs : List Value} (h : w.ownsRow B e s v n xs) (k : Nat) (hk : v.ownBlock = some k) : B ≤ k ∧ k < w.heap.size := by
 obtain ⟨h1, ⟨rfl, -⟩ | ⟨g, cap, cur, rfl, hb, hg, hr⟩⟩ := h
 ·cases hk
 ·simp only [Value.ownBlock, Option.some.injEq] at hk
  subst hk
  exact ⟨hb, (Array.getElem?_eq_some_iff.1 hg).1⟩
theorem PosO.grown {u v : World} {B b1 b2 n1 n2 : Nat} {a1 a2 : Option Addr} {xs ys : List Int} {row : Option Nat} (h : PosO u B a1 a2 b1 b2 n1 n2 xs ys) (hg : u.grownBy v row) (h1 : ∀ k, row = some k → k ≠ b1) (h2 : ∀ k, row = some k → k ≠ b2) : PosO v B a1 a2 b1 b2 n1 n2 xs ys :=
 ⟨h.o1.grown hg h1, h.o2.grown hg h2, h.ne, h.l1, h.l2⟩
theorem It7.below {u v : World} {B : Nat} {x : R7 × Q7} (h : It7 u B x) (k : Below u.heap.size u v) : It7 v B x :=
 ⟨h.o.below k, Nat.lt_of_lt_of_le h.l1 k.size, Nat.lt_of_lt_of_le h.l2 k.size, h.k1, h.k2⟩
theorem It7.grown {u v : World} {B : Nat} {x : R7 × Q7} {row : Option Nat} (h : It7 u B x) (hg : u.grownBy v row) (hr : ∀ k, row = some k → k ≠ x.2.g1 ∧ k ≠ x.2.g2) : It7 v B x :=
 ⟨h.o.grown hg (fun k hk => (hr k hk).1) (fun k hk => (hr k hk).2), Nat.lt_of_lt_of_le h.l1 hg.size, Nat.lt_of_lt_of_le h.l2 hg.size, h.k1, h.k2⟩
theorem Rs7.below {u v : World} {B : Nat} {x : Value} {L : List (R7 × Q7)} (h : Rs7 u B x L) (k : Below u.heap.size u v) : Rs7 v B x L :=
 ⟨own_keepS h.own k, fun y hy => (h.it y hy).below k, h.ne, h.pw⟩
theorem Rs7.drew {u : World} {B : Nat} {x : Value} {L : List (R7 × Q7)} (h : Rs7 u B x L) : Rs7 u.drew B x L := h.below (Below.refl _ _).drew
theorem rs7_nil (u : World) (B : Nat) : Rs7 u B (.slice none 0 0) [] :=
 ⟨World.ownsRow_nil _ _ _ _, (fun _ h => by cases h), (fun _ h => by cases h), List.Pairwise.nil⟩
theorem Rs7.snoc {u u' w1 : World} {B H0 g cap : Nat} {v : Value} {L : List (R7 × Q7)} {x : R7 × Q7} (h : Rs7 u B v L) (hx : It7 u B x) (hf : ∀ y ∈ L, y.2.g1 < H0 ∧ y.2.g2 < H0) (hv : ∀ k, v.ownBlock = some k → k < H0) (hx1 : H0 ≤ x.2.g1) (hx2 : H0 ≤ x.2.g2) (hu : Below u.heap.size u u')
  (hown : w1.ownsRow B 66 6 (.slice (some ⟨g, 0, none⟩) (L.length + 1) cap) (L.length + 1) (flat7 L ++ cells7 x)) (hg : u'.grownBy w1 v.ownBlock) (hat : v.ownBlock = some g ∨ g = u'.heap.size) :
  Rs7 w1 B (.slice (some ⟨g, 0, none⟩) (L.length + 1) cap) (L ++ [x]) := by
 have hgx : g ≠ x.2.g1 ∧ g ≠ x.2.g2 := by
  rcases hat with e | e
  ·have := hv _ e
   omega
  ·have h1 := Nat.lt_of_lt_of_le hx.l1 hu.size
   have h2 := Nat.lt_of_lt_of_le hx.l2 hu.size
   omega
 have hgy : ∀ y ∈ L, g ≠ y.2.g1 ∧ g ≠ y.2.g2 := by
  intro y hy
  rcases hat with e | e
  ·exact h.ne y hy g e
  ·have h1 := Nat.lt_of_lt_of_le (h.it y hy).l1 hu.size
   have h2 := Nat.lt_of_lt_of_le (h.it y hy).l2 hu.size
   omega
 refine ⟨by rw [List.length_append, List.length_singleton, flat7_snoc]; exact hown, fun y hy => ?_, fun y hy k hk => ?_, ?_⟩
 ·rcases List.mem_append.1 hy with hy | hy
  ·exact ((h.it y hy).below hu).grown hg (fun k hk => h.ne y hy k hk)
  ·rw [List.mem_singleton] at hy
   subst hy
   exact (hx.below hu).grown hg (fun k hk => by have := hv k hk; omega)
 ·have hk' : g = k := by simpa [Value.ownBlock] using hk
  subst hk'
  rcases List.mem_append.1 hy with hy | hy
  ·exact hgy y hy
  ·rw [List.mem_singleton] at hy
   subst hy
   exact hgx
 ·rw [List.pairwise_append]
  refine ⟨h.pw, List.pairwise_singleton _ _, fun y hy z hz => ?_⟩
  rw [List.mem_singleton] at hz
  subst hz
  have := hf y hy
  unfold Far7
  omega
theorem Rs7.cell {u : World} {B g n cap : Nat} {L : List (R7 × Q7)} (h : Rs7 u B (.slice (some ⟨g, 0, none⟩) n cap) L) {i : Nat} {x : R7 × Q7} (hi : L[i]? = some x) {o : Nat} (ho : o < 6) : u.cell? ⟨g, i * 6 + o, none⟩ = (cells7 x)[o]? := by
 obtain ⟨h1, ⟨e, -⟩ | ⟨g', cap', cur, hv, hb, hg, hn, hc, hs, ht⟩⟩ := h.own
 ·cases e
 ·simp only [Value.slice.injEq, Option.some.injEq, Addr.mk.injEq] at hv
  obtain ⟨⟨rfl, -⟩, -, rfl⟩ := hv
  have e := flat7_at L i x hi o ho
  rw [← ht, List.getElem?_take] at e
  have hL : i < L.length := (List.getElem?_eq_some_iff.1 hi).1
  rw [if_pos (by omega)] at e
  rw [← e]
  simp [World.cell?, hg]
def rsF (f : Nat → Option R7) : Nat → List R7
 | 0 => []
 | n + 1 => rsF f n ++ (f n).toList
theorem rsF_len (f : Nat → Option R7) : ∀ n, (rsF f n).length ≤ n
 | 0 => Nat.le_refl _
 | n + 1 => by
  have h1 := rsF_len f n
  have h2 : (f n).toList.length ≤ 1 := by cases f n <;> simp
  simp only [rsF, List.length_append]
  omega
def r7V (c l p pp : Int) (ag : Bool) (ys : List Int) (move : Int) (m : Res) : R7 := ⟨move, gnV c l p pp ys m, agV ag m, nxV ag pp m, tkX c l p pp m.last m.xs, tkY c l p pp m.last m.xs m.ys⟩
def f7 (p c l pp : Int) (st sk re fe ag : Bool) (xs ys : List Int) (j : Nat) : Option R7 :=
 (lgV c l p pp fe xs (mvV true p pp st sk re xs ys (j : Int))).map (r7V c l p pp ag ys (j : Int))
def agL (ag : Bool) (LV : Option Res) : Bool := match LV with | none => false | some m => agV ag m
theorem lg_none {p s c l pp : Int} {st sk re fe ag : Bool} {n1 n2 : Nat} {xs ys : List Int} {k : Bool} (hk : okP (okR p s c l st ag) p n1 n2 pp xs ys = k) (l1 : xs.length = n1) {move : Int} (h : lgV c l p pp fe xs (mvV k p pp st sk re xs ys move) = none) :
  (lgC c l p pp fe xs (mvCd k p pp st sk re xs ys move) (mvV k p pp st sk re xs ys move) == 0) = false := by
 cases hm : mvV k p pp st sk re xs ys move with
 | none =>
  show (mvCd k p pp st sk re xs ys move == 0) = false
  rcases mvV_none hk l1 hm with e | e | e | e <;> rw [e] <;> rfl
 | some m =>
  rw [hm] at h
  unfold lgV at h
  unfold lgC
  simp only at h ⊢
  split at h
  ·rename_i hb
   rw [if_pos hb]
   rfl
  ·cases h
theorem lg_some {p c l pp : Int} {fe : Bool} {xs : List Int} {cd : Int} {MV : Option Res} {m : Res} (h : lgV c l p pp fe xs MV = some m) : MV = some m ∧ lgC c l p pp fe xs cd MV = 0 := by
 cases MV with
 | none => cases h
 | some m0 =>
  unfold lgV at h
  unfold lgC
  simp only at h ⊢
  split at h
  ·cases h
  ·rename_i hb
   rw [if_neg hb]
   exact ⟨h, rfl⟩
theorem infoR : (Try.prog.info? 66).map (fun i => (i.zero, i.size, i.bytes)) = some (some (.agg #[.int .i64 0, .int .i64 0, .bool false, .slice none 0 0, .slice none 0 0, .int .i64 0]), 6, 80) := by kernel_rfl
def RsP (rs : List R7) (w : World) (e : Ending) (w' : World) : Prop := ∃ v L, e = .returned v ∧ Rs7 w' w.heap.size v L ∧ L.map Prod.fst = rs ∧ Below w.heap.size w w'
/- Mk12 -/
theorem mkF_new {w w5 : World} (p s c l : Int) (st sk re fe ag : Bool) {pp : Int} {s1 s2 : Option Addr} {pn1 sc1 sc2 : Nat} {p1 p2 : Option Addr} {pc1 pc2 : Nat} {m : Res} {g1 k1 g2 k2 : Nat} (T : TypeId) (hb : Below w.heap.size w w5)
  (ho : PosO w5 w.heap.size (some ⟨g1, 0, none⟩) (some ⟨g2, 0, none⟩) g1 g2 pn1 2 (tkX c l p pp m.last m.xs) (tkY c l p pp m.last m.xs m.ys)) (l1 : g1 < w5.heap.size) (l2 : g2 < w5.heap.size) (h1 : pn1 ≤ k1) (h2 : 2 ≤ k2) :
  MkF w w p s c l st sk re fe ag pp s1 s2 pn1 sc1 sc2 p1 p2 pc1 pc2 m w5.heap.size g1 k1 g2 k2 ((w5.alloc (.cells zero21.toArray T)).setCells w5.heap.size 0 [.int .i64 p, .int .i64 s, .bool st, .bool sk, .bool re, .bool fe, .bool ag, .int .i64 c, .int .i64 l, .int .i64 pp, .slice s1 pn1 sc1, .slice s2 2 sc2, .int .i64 m.last, .int .i64 m.laps, .slice p1 pn1 pc1, .slice p2 2 pc2, .int .i64 pp, .slice (some ⟨g1, 0, none⟩) pn1 k1, .slice (some ⟨g2, 0, none⟩) 2 k2, .int .i64 m.last, .int .i64 m.laps]) :=
 ⟨World.rangeAt_setCells_same _ _ 0 _ (thN_new w5 T).th, by rw [size_sc]; simp, hb.size, below_sc w5.heap.size hb.size _ 0 (hb.alloc hb.size _), PosO.but (ho.below (al1 _ _)) (but_sc _ _ _ _) (by omega) (by omega), by rw [size_sc]; simp; omega, by rw [size_sc]; simp; omega, h1, h2⟩
theorem implFault_any (p s c l : Int) (st sk re fe ag : Bool) (p1 p2 : Option Addr) (pn1 pc1 pn2 pc2 : Nat) (pp : Int) (xs ys : List Int) (move : Int) (w : World) (h : PosR w p1 p2 pn1 pn2 xs ys) (hcap : pn1 ≤ pc1) (k : Bool) (hk : okP (okR p s c l st ag) p pn1 pn2 pp xs ys = k) :
  Calls Try.prog 30 #[.agg #[.int .i64 p, .int .i64 s, .bool st, .bool sk, .bool re, .bool fe, .bool ag, .int .i64 c, .int .i64 l], .agg #[.slice p1 pn1 pc1, .slice p2 pn2 pc2, .int .i64 pp], .int .i64 move] w fun e w' => e = .returned (.int .i64 (lgC c l p pp fe xs (mvCd k p pp st sk re xs ys move) (mvV k p pp st sk re xs ys move))) ∧ Below w.heap.size w w' := by
 have HS := Lib.hid (rp_new p s c l st sk re fe ag p1 p2 pn1 pc1 pn2 pc2 pp w 30 32)
 have HC : Hid (∀ u, Below w.heap.size w u → Calls Try.prog 50 #[.agg #[.int .i64 p, .int .i64 s, .bool st, .bool sk, .bool re, .bool fe, .bool ag, .int .i64 c, .int .i64 l], .agg #[.slice p1 pn1 pc1, .slice p2 pn2 pc2, .int .i64 pp], .int .i64 move] u (MkD (lgC c l p pp fe xs (mvCd k p pp st sk re xs ys move) (mvV k p pp st sk re xs ys move)) u)) := Lib.hid (fun u hu => (makeL_any p s c l st sk re fe ag p1 p2 pn1 pc1 pn2 pc2 pp xs ys move u (h.below hu) hcap k hk).mono (fun _ _ q => q.d))
 generalize lgC c l p pp fe xs (mvCd k p pp st sk re xs ys move) (mvV k p pp st sk re xs ys move) = cd at *
 clear h hk hcap
 go_enter Try.func30, Try.ntmps30
 go_wp2_with fail
 refine (HC.out _ HS.out.2.2).mono ?_
 rintro e w5 ⟨pz, sz, cz, lz, stz, skz, rez, fez, agz, playerz, s1z, s2z, sn1z, sc1z, sn2z, sc2z, spz, sqz, p1z, p2z, pn1z, pc1z, pn2z, pc2z, ppz, t1z, t2z, tn1z, tc1z, tn2z, tc2z, tpz, tqz, rfl, hb⟩
 have HS := Lib.hid (HS.out.below hb)
 clear hb
 go_wp2_with (refine wpList_store_mid rfl 75 _ _ rfl w5.heap.size 0 (List.toArray [.int .i64 pz, .int .i64 sz, .bool stz, .bool skz, .bool rez, .bool fez, .bool agz, .int .i64 cz, .int .i64 lz, .int .i64 playerz, .slice s1z sn1z sc1z, .slice s2z sn2z sc2z, .int .i64 spz, .int .i64 sqz, .slice p1z pn1z pc1z, .slice p2z pn2z pc2z, .int .i64 ppz, .slice t1z tn1z tc1z, .slice t2z tn2z tc2z, .int .i64 tpz, .int .i64 tqz]) rfl rfl (thN_new w5 75).th (by kernel_rfl) (mm_one pz sz cz lz stz skz rez fez agz playerz s1z s2z sn1z sc1z sn2z sc2z spz sqz p1z p2z pn1z pc1z pn2z pc2z ppz t1z t2z tn1z tc1z tn2z tc2z tpz tqz) ?_)
 go_ret
 exact ⟨rfl, below_sc w5.heap.size HS.out.2.2.size _ 0 (HS.out.2.2.alloc HS.out.2.2.size _)⟩
theorem implAgain_any (p s c l : Int) (st sk re fe ag : Bool) (p1 p2 : Option Addr) (pn1 pc1 pn2 pc2 : Nat) (pp : Int) (xs ys : List Int) (move : Int) (w : World) (h : PosR w p1 p2 pn1 pn2 xs ys) (hcap : pn1 ≤ pc1) (k : Bool) (hk : okP (okR p s c l st ag) p pn1 pn2 pp xs ys = k) :
  Calls Try.prog 32 #[.agg #[.int .i64 p, .int .i64 s, .bool st, .bool sk, .bool re, .bool fe, .bool ag, .int .i64 c, .int .i64 l], .agg #[.slice p1 pn1 pc1, .slice p2 pn2 pc2, .int .i64 pp], .int .i64 move] w fun e w' => e = .returned (.bool (agL ag (lgV c l p pp fe xs (mvV k p pp st sk re xs ys move)))) ∧ Below w.heap.size w w' := by
 have HS := Lib.hid (rp_new p s c l st sk re fe ag p1 p2 pn1 pc1 pn2 pc2 pp w 30 32)
 have HC : Hid (∀ u, Below w.heap.size w u → Calls Try.prog 50 #[.agg #[.int .i64 p, .int .i64 s, .bool st, .bool sk, .bool re, .bool fe, .bool ag, .int .i64 c, .int .i64 l], .agg #[.slice p1 pn1 pc1, .slice p2 pn2 pc2, .int .i64 pp], .int .i64 move] u (MkQ p s c l st sk re fe ag pp pn1 p1 p2 pc1 pc2 (lgV c l p pp fe xs (mvV k p pp st sk re xs ys move)) (lgC c l p pp fe xs (mvCd k p pp st sk re xs ys move) (mvV k p pp st sk re xs ys move)) u)) := Lib.hid (fun u hu => makeL_any p s c l st sk re fe ag p1 p2 pn1 pc1 pn2 pc2 pp xs ys move u (h.below hu) hcap k hk)
 cases hl : lgV c l p pp fe xs (mvV k p pp st sk re xs ys move) with
 | none =>
  have d := lg_none (s := s) (ag := ag) hk h.l1 hl
  have HC : Hid (∀ u, Below w.heap.size w u → Calls Try.prog 50 #[.agg #[.int .i64 p, .int .i64 s, .bool st, .bool sk, .bool re, .bool fe, .bool ag, .int .i64 c, .int .i64 l], .agg #[.slice p1 pn1 pc1, .slice p2 pn2 pc2, .int .i64 pp], .int .i64 move] u (MkD (lgC c l p pp fe xs (mvCd k p pp st sk re xs ys move) (mvV k p pp st sk re xs ys move)) u)) := Lib.hid (fun u hu => (HC.out u hu).mono (fun _ _ q => q.d))
  generalize lgC c l p pp fe xs (mvCd k p pp st sk re xs ys move) (mvV k p pp st sk re xs ys move) = cd at *
  clear h hk hcap hl
  go_enter Try.func32, Try.ntmps32
  go_upto_region 1 with fail
  go_cut [8] (fun s8 wx => s8 = .int .i64 cd ∧ Below w.heap.size w wx)
  case first =>
   go_wp2_with fail
   refine (HC.out _ HS.out.2.2).mono ?_
   rintro e w5 ⟨pz, sz, cz, lz, stz, skz, rez, fez, agz, playerz, s1z, s2z, sn1z, sc1z, sn2z, sc2z, spz, sqz, p1z, p2z, pn1z, pc1z, pn2z, pc2z, ppz, t1z, t2z, tn1z, tc1z, tn2z, tc2z, tpz, tqz, rfl, hb⟩
   have HS := Lib.hid (HS.out.below hb)
   clear hb
   go_wp2_with (refine wpList_store_mid rfl 75 _ _ rfl w5.heap.size 0 (List.toArray [.int .i64 pz, .int .i64 sz, .bool stz, .bool skz, .bool rez, .bool fez, .bool agz, .int .i64 cz, .int .i64 lz, .int .i64 playerz, .slice s1z sn1z sc1z, .slice s2z sn2z sc2z, .int .i64 spz, .int .i64 sqz, .slice p1z pn1z pc1z, .slice p2z pn2z pc2z, .int .i64 ppz, .slice t1z tn1z tc1z, .slice t2z tn2z tc2z, .int .i64 tpz, .int .i64 tqz]) rfl rfl (thN_new w5 75).th (by kernel_rfl) (mm_one pz sz cz lz stz skz rez fez agz playerz s1z s2z sn1z sc1z sn2z sc2z spz sqz p1z p2z pn1z pc1z pn2z pc2z ppz t1z t2z tn1z tc1z tn2z tc2z tpz tqz) ?_)
   go_meet
   exact ⟨rfl, below_sc w5.heap.size HS.out.2.2.size _ 0 (HS.out.2.2.alloc HS.out.2.2.size _)⟩
  case rest =>
   obtain ⟨rfl, hb⟩ := hcut
   have HB := Lib.hid hb
   clear hb
   go_wp2_with fail
   go_ret
   exact ⟨rfl, HB.out⟩
 | some m =>
  obtain ⟨hm, hc0⟩ := lg_some (cd := mvCd k p pp st sk re xs ys move) hl
  rw [hl, hc0] at HC
  clear h hk hcap hl hm hc0
  go_enter Try.func32, Try.ntmps32
  go_upto_region 1 with fail
  go_cut [7, 8] (fun s7 s8 wx => ∃ (s1 s2 : Option Addr) (sc1 sc2 M g1 k1 g2 k2 : Nat), s7 = .pointer (some ⟨M, 0, none⟩) ∧ s8 = .int .i64 0 ∧ MkF w w p s c l st sk re fe ag pp s1 s2 pn1 sc1 sc2 p1 p2 pc1 pc2 m M g1 k1 g2 k2 wx)
  case first =>
   go_wp2_with fail
   refine (HC.out _ HS.out.2.2).mono ?_
   rintro e w5 ⟨s1, s2, sc1, sc2, g1, k1, g2, k2, rfl, ho, hl1, hl2, hc1, hc2, hb⟩
   have HF := Lib.hid (mkF_new p s c l st sk re fe ag (s1 := s1) (s2 := s2) (sc1 := sc1) (sc2 := sc2) (p1 := p1) (p2 := p2) (pc1 := pc1) (pc2 := pc2) 75 (Below.trans HS.out.2.2 (Below.mono hb HS.out.2.2.size)) (ho.lower HS.out.2.2.size) hl1 hl2 hc1 hc2)
   clear hb ho hl1 hl2 hc1 hc2
   go_wp2_with (refine wpList_store_mid rfl 75 _ _ rfl w5.heap.size 0 (List.toArray [.int .i64 p, .int .i64 s, .bool st, .bool sk, .bool re, .bool fe, .bool ag, .int .i64 c, .int .i64 l, .int .i64 pp, .slice s1 pn1 sc1, .slice s2 2 sc2, .int .i64 m.last, .int .i64 m.laps, .slice p1 pn1 pc1, .slice p2 2 pc2, .int .i64 pp, .slice (some ⟨g1, 0, none⟩) pn1 k1, .slice (some ⟨g2, 0, none⟩) 2 k2, .int .i64 m.last, .int .i64 m.laps]) rfl rfl (thN_new w5 75).th (by kernel_rfl) (mm_one p s c l st sk re fe ag pp s1 s2 pn1 sc1 2 sc2 m.last m.laps p1 p2 pn1 pc1 2 pc2 pp (some ⟨g1, 0, none⟩) (some ⟨g2, 0, none⟩) pn1 k1 2 k2 m.last m.laps) ?_)
   go_meet
   exact ⟨s1, s2, sc1, sc2, w5.heap.size, g1, k1, g2, k2, rfl, rfl, HF.out⟩
  case rest =>
   obtain ⟨s1, s2, sc1, sc2, M, g1, k1, g2, k2, rfl, rfl, hF⟩ := hcut
   have HF := Lib.hid hF
   clear hF
   go_wp2_with (refine wpList_load_want (by rfl) 75 _ rfl M 0 rfl _ _ HF.out.rg Try.underlying75 rfl (by kernel_rfl) ?_)
   refine (again_any p s c l st sk re fe ag pp s1 s2 pn1 sc1 2 sc2 m.last m.laps p1 p2 pn1 pc1 2 pc2 pp (some ⟨g1, 0, none⟩) (some ⟨g2, 0, none⟩) pn1 k1 2 k2 m.last m.laps _).mono ?_
   rintro e w6 ⟨rfl, hb6⟩
   have HBe := Lib.hid (Below.trans HF.out.be (Below.mono hb6 HF.out.be.bel.size))
   clear hb6 HF
   go_wp2_with fail
   go_ret
   exact ⟨rfl, HBe.out⟩
/- Rm8 -/
def MrQ (c l p pp : Int) (ag : Bool) (pn1 : Nat) (xs ys : List Int) (move : Int) (LV : Option Res) (cd : Int) (w : World) (e : Ending) (w' : World) : Prop :=
 match LV with
 | none => MrE cd w e w'
 | some m => ∃ g1 k1 g2 k2, e = .returned (.tuple #[.agg #[.int .i64 move, .int .i64 (gnV c l p pp ys m), .bool (agV ag m), .slice (some ⟨g1, 0, none⟩) pn1 k1, .slice (some ⟨g2, 0, none⟩) 2 k2, .int .i64 (nxV ag pp m)], .int .i64 cd]) ∧
  PosO w' w.heap.size (some ⟨g1, 0, none⟩) (some ⟨g2, 0, none⟩) g1 g2 pn1 2 (tkX c l p pp m.last m.xs) (tkY c l p pp m.last m.xs m.ys) ∧ g1 < w'.heap.size ∧ g2 < w'.heap.size ∧ pn1 ≤ k1 ∧ 2 ≤ k2 ∧ Below w.heap.size w w'
def MrD (b : Bool) (cd : Int) (w : World) (e : Ending) (w' : World) : Prop :=
 ∃ (mv gn : Int) (s1 : Option Addr) (n1 c1 : Nat) (s2 : Option Addr) (n2 c2 : Nat) (nx : Int), e = .returned (.tuple #[.agg #[.int .i64 mv, .int .i64 gn, .bool b, .slice s1 n1 c1, .slice s2 n2 c2, .int .i64 nx], .int .i64 cd]) ∧ Below w.heap.size w w'
theorem MrQ.d {c l p pp : Int} {ag : Bool} {pn1 : Nat} {xs ys : List Int} {move : Int} {LV : Option Res} {cd : Int} {w w' : World} {e : Ending} (h : MrQ c l p pp ag pn1 xs ys move LV cd w e w') : MrD (agL ag LV) cd w e w' := by
 cases LV with
 | none => exact ⟨_, _, _, _, _, _, _, _, _, h.1, h.2⟩
 | some m =>
  obtain ⟨g1, k1, g2, k2, he, -, -, -, -, -, hb⟩ := h
  exact ⟨_, _, _, _, _, _, _, _, _, he, hb⟩
theorem l07Make_any (p s c l : Int) (st sk re fe ag : Bool) (p1 p2 : Option Addr) (pn1 pc1 pn2 pc2 : Nat) (pp : Int) (xs ys : List Int) (rb pb : Nat) (move : Int) (w : World) (hr : RuAt w rb p s c l st sk re fe ag) (hq : PoAt w pb p1 p2 pn1 pc1 pn2 pc2 pp) (h : PosR w p1 p2 pn1 pn2 xs ys) (k : Bool) (hk : okP (okR p s c l st ag) p pn1 pn2 pp xs ys = k) :
  Calls Try.prog 49 #[.pointer (some ⟨rb, 0, none⟩), .pointer (some ⟨pb, 0, none⟩), .int .i64 move] w (MrQ c l p pp ag pn1 xs ys move (lgV c l p pp fe xs (mvV k p pp st sk re xs ys move)) (lgC c l p pp fe xs (mvCd k p pp st sk re xs ys move) (mvV k p pp st sk re xs ys move)) w) := by
 have hC := fun u (hu : Below w.heap.size w u) => l05Move_any p s c l st sk re fe ag p1 p2 pn1 pc1 pn2 pc2 pp xs ys rb pb move u (hr.below hu) (hq.below hu) (h.below hu) k hk
 cases hm : mvV k p pp st sk re xs ys move with
 | none =>
  rw [hm] at hC
  have h0 : (mvCd k p pp st sk re xs ys move == 0) = false := by
   rcases mvV_none hk h.l1 hm with e | e | e | e <;> rw [e] <;> rfl
  exact l07Make_err p s c l st sk re fe ag rb pb pn1 move _ h0 w hC
 | some m =>
  obtain ⟨rfl, m0, m1, hc0, fin⟩ := mvV_fin hk h.l1 h.l2 hm
  obtain ⟨rfl, hpl⟩ := pl_of_ok hk
  rw [hm, hc0] at hC
  have hX := l07Make_some p s c l st sk re fe ag p1 p2 pn1 pc1 pc2 pp move xs ys rb pb m w hr hq h hk fin hC
  rw [hc0]
  have e1 : lgV c l p pp fe xs (some m) = if illB c l p pp fe xs m then none else some m := rfl
  have e2 : lgC c l p pp fe xs 0 (some m) = if illB c l p pp fe xs m then 9 else 0 := rfl
  rw [e1, e2]
  generalize illB c l p pp fe xs m = b at *
  cases b
  ·exact hX.mono (fun e w' q => by unfold MrL at q; rw [if_neg (by decide)] at q; exact q)
  ·exact hX.mono (fun e w' q => by unfold MrL at q; rw [if_pos rfl] at q; exact q)
theorem specFault_any (p s c l : Int) (st sk re fe ag : Bool) (p1 p2 : Option Addr) (pn1 pc1 pn2 pc2 : Nat) (pp : Int) (xs ys : List Int) (move : Int) (w : World) (h : PosR w p1 p2 pn1 pn2 xs ys) (k : Bool) (hk : okP (okR p s c l st ag) p pn1 pn2 pp xs ys = k) :
  Calls Try.prog 29 #[.agg #[.int .i64 p, .int .i64 s, .bool st, .bool sk, .bool re, .bool fe, .bool ag, .int .i64 c, .int .i64 l], .agg #[.slice p1 pn1 pc1, .slice p2 pn2 pc2, .int .i64 pp], .int .i64 move] w fun e w' => e = .returned (.int .i64 (lgC c l p pp fe xs (mvCd k p pp st sk re xs ys move) (mvV k p pp st sk re xs ys move))) ∧ Below w.heap.size w w' := by
 have HS := Lib.hid (rp_new p s c l st sk re fe ag p1 p2 pn1 pc1 pn2 pc2 pp w 30 32)
 have HC : Hid (∀ u, RpAt w p s c l st sk re fe ag p1 p2 pn1 pc1 pn2 pc2 pp u → Calls Try.prog 49 #[.pointer (some ⟨w.heap.size, 0, none⟩), .pointer (some ⟨w.heap.size + 1, 0, none⟩), .int .i64 move] u (MrD (agL ag (lgV c l p pp fe xs (mvV k p pp st sk re xs ys move))) (lgC c l p pp fe xs (mvCd k p pp st sk re xs ys move) (mvV k p pp st sk re xs ys move)) u)) := Lib.hid (fun u hu => (l07Make_any p s c l st sk re fe ag p1 p2 pn1 pc1 pn2 pc2 pp xs ys _ _ move u hu.1 hu.2.1 (h.below hu.2.2) k hk).mono (fun _ _ q => q.d))
 generalize lgC c l p pp fe xs (mvCd k p pp st sk re xs ys move) (mvV k p pp st sk re xs ys move) = cd at *
 generalize agL ag (lgV c l p pp fe xs (mvV k p pp st sk re xs ys move)) = b at *
 clear h hk
 go_enter Try.func29, Try.ntmps29
 go_wp2_with fail
 refine (HC.out _ HS.out).mono ?_
 rintro e w5 ⟨mv, gn, s1, n1, c1, s2, n2, c2, nx, rfl, hb⟩
 have HS := Lib.hid (HS.out.below hb)
 clear hb
 go_wp2_with fail
 go_ret
 exact ⟨rfl, HS.out.2.2.alloc HS.out.2.2.size _⟩
theorem specAgain_any (p s c l : Int) (st sk re fe ag : Bool) (p1 p2 : Option Addr) (pn1 pc1 pn2 pc2 : Nat) (pp : Int) (xs ys : List Int) (move : Int) (w : World) (h : PosR w p1 p2 pn1 pn2 xs ys) (k : Bool) (hk : okP (okR p s c l st ag) p pn1 pn2 pp xs ys = k) :
  Calls Try.prog 31 #[.agg #[.int .i64 p, .int .i64 s, .bool st, .bool sk, .bool re, .bool fe, .bool ag, .int .i64 c, .int .i64 l], .agg #[.slice p1 pn1 pc1, .slice p2 pn2 pc2, .int .i64 pp], .int .i64 move] w fun e w' => e = .returned (.bool (agL ag (lgV c l p pp fe xs (mvV k p pp st sk re xs ys move)))) ∧ Below w.heap.size w w' := by
 have HS := Lib.hid (rp_new p s c l st sk re fe ag p1 p2 pn1 pc1 pn2 pc2 pp w 30 32)
 have HC : Hid (∀ u, RpAt w p s c l st sk re fe ag p1 p2 pn1 pc1 pn2 pc2 pp u → Calls Try.prog 49 #[.pointer (some ⟨w.heap.size, 0, none⟩), .pointer (some ⟨w.heap.size + 1, 0, none⟩), .int .i64 move] u (MrD (agL ag (lgV c l p pp fe xs (mvV k p pp st sk re xs ys move))) (lgC c l p pp fe xs (mvCd k p pp st sk re xs ys move) (mvV k p pp st sk re xs ys move)) u)) := Lib.hid (fun u hu => (l07Make_any p s c l st sk re fe ag p1 p2 pn1 pc1 pn2 pc2 pp xs ys _ _ move u hu.1 hu.2.1 (h.below hu.2.2) k hk).mono (fun _ _ q => q.d))
 generalize lgC c l p pp fe xs (mvCd k p pp st sk re xs ys move) (mvV k p pp st sk re xs ys move) = cd at *
 generalize agL ag (lgV c l p pp fe xs (mvV k p pp st sk re xs ys move)) = b at *
 clear h hk
 go_enter Try.func31, Try.ntmps31
 go_wp2_with fail
 refine (HC.out _ HS.out).mono ?_
 rintro e w5 ⟨mv, gn, s1, n1, c1, s2, n2, c2, nx, rfl, hb⟩
 have HS := Lib.hid (HS.out.below hb)
 clear hb
 go_wp2_with fail
 go_ret
 exact ⟨rfl, HS.out.2.2.alloc HS.out.2.2.size _⟩
/- Mv8 -/
theorem mvV_n1 {p s c l pp : Int} {st sk re ag : Bool} {n1 n2 : Nat} {xs ys : List Int} {k : Bool} (hk : okP (okR p s c l st ag) p n1 n2 pp xs ys = k) (l1 : xs.length = n1) {move : Int} {m : Res} (h : mvV k p pp st sk re xs ys move = some m) : mvCd k p pp st sk re xs ys move = 0 ∧ n1 ≤ 16 := by
 refine mv_cases (sk := sk) (re := re) hk l1 move (fun cd MV => MV = some m → cd = 0 ∧ n1 ≤ 16) ?_ ?_ ?_ ?_ h
 ·intro _ e; cases e
 ·intro _ _ e; cases e
 ·intro _ _ _ _ _ _ _ e; cases e
 ·rintro e m0 m1 F hF hf he MV hMV rfl
  obtain ⟨q1, q2, -⟩ := okP_parts (hk.trans e)
  obtain ⟨r1, r2, -⟩ := okR_bd q1
  exact ⟨rfl, by omega⟩
end Go.Proofs.Ytdhkfkfoibddnaa
