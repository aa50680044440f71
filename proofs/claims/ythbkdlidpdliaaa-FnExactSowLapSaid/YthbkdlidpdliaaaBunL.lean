/- WatS, Mv7, Mv8, Lp5S, Lp8, one after the other. No conditions. -/
import Derived.Test.YthbkdlidpdliaaaWat
import Derived.Test.YthbkdlidpdliaaaBoxS
import Derived.Test.YthbkdlidpdliaaaMov5
import Derived.Test.YthbkdlidpdliaaaEnd5
import Derived.Test.YthbkdlidpdliaaaBegin5
import Derived.Test.YthbkdlidpdliaaaSow5S
import Derived.Test.YthbkdlidpdliaaaCode5
import Derived.Test.YthbkdlidpdliaaaLp6
/- WatS: Sown seeds that a law keeps in variables of its own. -/
namespace Go.Proofs.Ythbkdlidpdliaaa
open Go.Joins Go.ChangeShapes Go.WideShapes Go.ChangeAt Go.RowKit Go.Deep
set_option linter.unusedVariables false

theorem PosO.set4 {w : World} {B z : Nat} {a1 a2 : Option Addr} {b1 b2 n1 n2 : Nat} {xs ys : List Int} (h : PosO w B a1 a2 b1 b2 n1 n2 xs ys) (x y t q : Value) (k1 : b1 ≠ z) (k2 : b2 ≠ z) : PosO ((((w.setCell ⟨z, 0, none⟩ x).setCell ⟨z, 1, none⟩ y).setCell ⟨z, 2, none⟩ t).setCell ⟨z, 3, none⟩ q) B a1 a2 b1 b2 n1 n2 xs ys :=
  h.but (but4 z w x y t q) k1 k2
/-- A variable at block A with a position whose rows lie in blocks of their own, all from lo up to hi. -/
structure WAtS (u : World) (lo hi A : Nat) (a1 a2 : Option Addr) (b1 b2 n1 c1 n2 c2 : Nat) (pl pk : Int) (us vs : List Int) : Prop where
  po : SoAt u A a1 a2 n1 c1 n2 c2 pl pk
  o : PosO u lo a1 a2 b1 b2 n1 n2 us vs
  lo_le : lo ≤ A
  lt : A < hi
  lt1 : b1 < hi
  lt2 : b2 < hi
  hi_le : hi ≤ u.heap.size
  ne1 : A ≠ b1
  ne2 : A ≠ b2
section
variable {u v w : World} {lo hi A b1 b2 n1 c1 n2 c2 : Nat} {a1 a2 : Option Addr} {pl pk : Int} {us vs : List Int}
theorem WAtS.below (h : WAtS u lo hi A a1 a2 b1 b2 n1 c1 n2 c2 pl pk us vs) (k : Below u.heap.size u v) : WAtS v lo hi A a1 a2 b1 b2 n1 c1 n2 c2 pl pk us vs :=
  ⟨h.po.below k, h.o.below k, h.lo_le, h.lt, h.lt1, h.lt2, Nat.le_trans h.hi_le k.size, h.ne1, h.ne2⟩
theorem WAtS.drew (h : WAtS u lo hi A a1 a2 b1 b2 n1 c1 n2 c2 pl pk us vs) : WAtS u.drew lo hi A a1 a2 b1 b2 n1 c1 n2 c2 pl pk us vs := h.below (Below.refl _ _).drew
theorem SoAt.but2 {b c d : Nat} {x1 x2 : Option Addr} {xn1 xc1 xn2 xc2 : Nat} {xp xq : Int} (h : SoAt u d x1 x2 xn1 xc1 xn2 xc2 xp xq) (k : But2 b c u v) (hb : d ≠ b) (hc : d ≠ c) : SoAt v d x1 x2 xn1 xc1 xn2 xc2 xp xq := by
  obtain ⟨hd, h⟩ := h
  have e := fun o => k.cell (d := d) (o := o) hd hb hc
  exact ⟨Nat.lt_of_lt_of_le hd k.size, by rw [e, e, e, e]; exact h⟩
/-- Only blocks outside of a variable's reach are turned. -/
theorem WAtS.but2 {b c : Nat} (h : WAtS u lo hi A a1 a2 b1 b2 n1 c1 n2 c2 pl pk us vs) (k : But2 b c u v) (hb : hi ≤ b ∨ b < lo) (hc : hi ≤ c ∨ c < lo) : WAtS v lo hi A a1 a2 b1 b2 n1 c1 n2 c2 pl pk us vs := by
  have h1 := h.lo_le
  have h2 := h.lt
  have h3 := h.lt1
  have h4 := h.lt2
  have h5 := h.o.o1.new
  have h6 := h.o.o2.new
  exact ⟨h.po.but2 k (by omega) (by omega), h.o.but2 k (by omega) (by omega) (by omega) (by omega), h1, h2, h3, h4, Nat.le_trans h.hi_le k.size, h.ne1, h.ne2⟩
/-- The marks stand in the rows of a variable. -/
theorem WAtS.mark {xs ys : List Int} {us' vs' : List Int} (h : WAtS u lo hi A a1 a2 b1 b2 n1 c1 n2 c2 pl pk us vs) (k : But2 b1 b2 u v) (o : PosO v lo a1 a2 b1 b2 n1 n2 us' vs') : WAtS v lo hi A a1 a2 b1 b2 n1 c1 n2 c2 pl pk us' vs' :=
  ⟨h.po.but2 k h.ne1 h.ne2, o, h.lo_le, h.lt, h.lt1, h.lt2, Nat.le_trans h.hi_le k.size, h.ne1, h.ne2⟩
theorem wats_new (T : TypeId) (pl pk : Int) (c1 c2 : Nat) (ho : PosO u lo a1 a2 b1 b2 n1 n2 us vs) (h1 : b1 < u.heap.size) (h2 : b2 < u.heap.size) (hlo : lo ≤ u.heap.size) :
    WAtS (u.alloc (.cells #[.slice a1 n1 c1, .slice a2 n2 c2, .int .i64 pl, .int .i64 pk] T)) lo (u.heap.size + 1) u.heap.size a1 a2 b1 b2 n1 c1 n2 c2 pl pk us vs :=
  ⟨so_new _ _ _ _ _ _ _ _ u T, ho.below (al1 _ _), hlo, by omega, by omega, by omega, by simp, by omega, by omega⟩
theorem so_set (hz : Z4 u A) (pl pk : Int) (c1 c2 n1 n2 : Nat) (a1 a2 : Option Addr) : SoAt ((((u.setCell ⟨A, 0, none⟩ (.slice a1 n1 c1)).setCell ⟨A, 1, none⟩ (.slice a2 n2 c2)).setCell ⟨A, 2, none⟩ (.int .i64 pl)).setCell ⟨A, 3, none⟩ (.int .i64 pk)) A a1 a2 n1 c1 n2 c2 pl pk := by
  obtain ⟨zl, z0, z1, z2, z3, f0, f1, f2, f3⟩ := hz
  exact ⟨by simpa using zl, by go_simp, by go_simp, by go_simp, by go_simp⟩
theorem wats_set (hz : Z4 u A) (pl pk : Int) (c1 c2 : Nat) (ho : PosO u lo a1 a2 b1 b2 n1 n2 us vs) (h1 : b1 < u.heap.size) (h2 : b2 < u.heap.size) (hlo : lo ≤ A) (k1 : A ≠ b1) (k2 : A ≠ b2) :
    WAtS ((((u.setCell ⟨A, 0, none⟩ (.slice a1 n1 c1)).setCell ⟨A, 1, none⟩ (.slice a2 n2 c2)).setCell ⟨A, 2, none⟩ (.int .i64 pl)).setCell ⟨A, 3, none⟩ (.int .i64 pk)) lo u.heap.size A a1 a2 b1 b2 n1 c1 n2 c2 pl pk us vs :=
  ⟨so_set hz pl pk c1 c2 n1 n2 a1 a2, ho.set4 _ _ _ _ (fun e => k1 e.symm) (fun e => k2 e.symm), hlo, hz.lt, h1, h2, by simp, k1, k2⟩
theorem WAtS.set4 {z : Nat} (h : WAtS u lo hi A a1 a2 b1 b2 n1 c1 n2 c2 pl pk us vs) (x y t q : Value) (hz : hi ≤ z) : WAtS ((((u.setCell ⟨z, 0, none⟩ x).setCell ⟨z, 1, none⟩ y).setCell ⟨z, 2, none⟩ t).setCell ⟨z, 3, none⟩ q) lo hi A a1 a2 b1 b2 n1 c1 n2 c2 pl pk us vs :=
  h.but2 (b := z) (c := z) (.of_l (but4 z u x y t q)) (.inl hz) (.inl hz)
theorem WAt.set4 {z : Nat} (h : WAt u lo hi A a1 a2 b1 b2 n1 c1 n2 c2 pl us vs) (x y t q : Value) (hz : hi ≤ z) : WAt ((((u.setCell ⟨z, 0, none⟩ x).setCell ⟨z, 1, none⟩ y).setCell ⟨z, 2, none⟩ t).setCell ⟨z, 3, none⟩ q) lo hi A a1 a2 b1 b2 n1 c1 n2 c2 pl us vs :=
  h.but2 (b := z) (c := z) (.of_l (but4 z u x y t q)) (.inl hz) (.inl hz)
variable {p s c l : Int} {st sk re fe ag : Bool} {p1 p2 : Option Addr} {pn1 pc1 pn2 pc2 : Nat} {pp : Int}
theorem RpAt.setB (h : RpAt w p s c l st sk re fe ag p1 p2 pn1 pc1 pn2 pc2 pp u) {z : Nat} (hz : w.heap.size + 1 < z) (x y t q : Value) : RpAt w p s c l st sk re fe ag p1 p2 pn1 pc1 pn2 pc2 pp ((((u.setCell ⟨z, 0, none⟩ x).setCell ⟨z, 1, none⟩ y).setCell ⟨z, 2, none⟩ t).setCell ⟨z, 3, none⟩ q) :=
  ⟨h.1.but (but4 z u x y t q) (by omega), h.2.1.but (but4 z u x y t q) (by omega), OnW.set4 h.2.2 (by omega) x y t q⟩
end
end Go.Proofs.Ythbkdlidpdliaaa

/- Mv7: A whole move in any position: what the reference's and the program's SowMove answer. -/
namespace Go.Proofs.Ythbkdlidpdliaaa
open Go.Joins Go.ChangeShapes Go.WideShapes Go.ChangeAt Go.RowKit Go.Deep
set_option linter.unusedVariables false

def inM (p move : Int) : Bool := decide (0 ≤ move) && decide (move < p)
/-- What a move leads to, if it ends. -/
def mvV (k : Bool) (p pp : Int) (st sk re : Bool) (xs ys : List Int) (move : Int) : Option Res :=
  if k && (inM p move && decide (xs.getD (pp * p + move).toNat 0 ≠ 0)) then mvF ⟨p, pp, st, sk, re⟩ 100 xs ys (pp * p + move) 0 [] else none
/-- The code of a move. -/
def mvCd (k : Bool) (p pp : Int) (st sk re : Bool) (xs ys : List Int) (move : Int) : Int :=
  if k then (if inM p move then (if xs.getD (pp * p + move).toNat 0 = 0 then 6 else if (mvF ⟨p, pp, st, sk, re⟩ 100 xs ys (pp * p + move) 0 []).isNone then 10 else 0) else 2) else 1
/-- The four kinds of moves. -/
theorem mv_cases {p s c l : Int} {st sk re ag : Bool} {n1 n2 : Nat} {pp : Int} {xs ys : List Int} {k : Bool} (hk : okP (okR p s c l st ag) p n1 n2 pp xs ys = k) (l1 : xs.length = n1) (move : Int) (M : Int → Option Res → Prop)
    (h1 : k = false → M 1 none) (h2 : k = true → ¬ (0 ≤ move ∧ move < p) → M 2 none)
    (h6 : k = true → 0 ≤ move → move < p → ∀ F : Nat, F < n1 → pp * p + move = F → xs.getD F 0 = 0 → M 6 none)
    (hy : k = true → 0 ≤ move → move < p → ∀ F : Nat, F < n1 → pp * p + move = F → xs.getD F 0 ≠ 0 → ∀ MV, mvF ⟨p, pp, st, sk, re⟩ 100 xs ys F 0 [] = MV → M (if MV.isNone then 10 else 0) MV) :
    M (mvCd k p pp st sk re xs ys move) (mvV k p pp st sk re xs ys move) := by
  unfold mvCd mvV
  cases k
  · simpa using h1 rfl
  · by_cases hm : 0 ≤ move ∧ move < p
    · have e1 : inM p move = true := by unfold inM; simp [hm.1, hm.2]
      obtain ⟨q1, q2, q3, q4, -⟩ := okP_parts hk
      obtain ⟨r1, r2, -⟩ := okR_bd q1
      have hmul : 0 ≤ pp * p ∧ pp * p ≤ p := by
        rcases (by omega : pp = 0 ∨ pp = 1) with e | e <;> subst e <;> omega
      obtain ⟨F, hF⟩ : ∃ F : Nat, pp * p + move = F := ⟨(pp * p + move).toNat, by omega⟩
      have hF1 : F < n1 := by omega
      rw [hF, e1]
      simp only [Bool.true_and, Int.toNat_natCast, if_true]
      by_cases he : xs.getD F 0 = 0
      · rw [if_pos he, if_neg (by simpa using he)]
        exact h6 rfl hm.1 hm.2 F hF1 hF he
      · have hd : decide (xs.getD F 0 ≠ 0) = true := decide_eq_true he
        rw [if_neg he, hd]
        exact hy rfl hm.1 hm.2 F hF1 hF he _ rfl
    · have e1 : inM p move = false := by
        unfold inM
        by_cases h : 0 ≤ move
        · simp; omega
        · simp [h]
      rw [e1]
      simpa using h2 rfl hm
theorem pl_of_ok {p s c l : Int} {st ag : Bool} {n1 n2 : Nat} {pp : Int} {xs ys : List Int} (hk : okP (okR p s c l st ag) p n1 n2 pp xs ys = true) : n2 = 2 ∧ (pp = 0 ∨ pp = 1) := by
  obtain ⟨q1, q2, q3, q4, -⟩ := okP_parts hk
  exact ⟨q3, by omega⟩
theorem l05Move_any (p s c l : Int) (st sk re fe ag : Bool) (p1 p2 : Option Addr) (pn1 pc1 pn2 pc2 : Nat) (pp : Int) (xs ys : List Int) (rb pb : Nat) (move : Int) (w : World) (hr : RuAt w rb p s c l st sk re fe ag) (hq : PoAt w pb p1 p2 pn1 pc1 pn2 pc2 pp) (h : PosR w p1 p2 pn1 pn2 xs ys) (k : Bool) (hk : okP (okR p s c l st ag) p pn1 pn2 pp xs ys = k) :
    Calls Try.prog 55 #[.pointer (some ⟨rb, 0, none⟩), .pointer (some ⟨pb, 0, none⟩), .int .i64 move] w (SwC pn1 (mvCd k p pp st sk re xs ys move) (mvV k p pp st sk re xs ys move) w) := by
  refine mv_cases (sk := sk) (re := re) hk h.l1 move (fun cd MV => Calls Try.prog 55 #[.pointer (some ⟨rb, 0, none⟩), .pointer (some ⟨pb, 0, none⟩), .int .i64 move] w (SwC pn1 cd MV w)) ?_ ?_ ?_ ?_
  · intro e
    exact l05Move_err rb pb move 1 rfl w (fun u hu => code_invalid p s c l st sk re fe ag _ _ _ _ _ _ _ xs ys rb pb move u (hr.below hu) (hq.below hu) (h.below hu) (hk.trans e))
  · intro e hm
    exact l05Move_err rb pb move 2 rfl w (fun u hu => code_range p s c l st sk re fe ag _ _ _ _ _ _ _ xs ys rb pb move u (hr.below hu) (hq.below hu) (h.below hu) (hk.trans e) hm)
  · intro e m0 m1 F hF hf he
    exact l05Move_err rb pb move 6 rfl w (fun u hu => code_empty p s c l st sk re fe ag _ _ _ _ _ _ _ xs ys rb pb move u (hr.below hu) (hq.below hu) (h.below hu) (hk.trans e) F hF hf m0 m1 he)
  · intro e m0 m1 F hF hf he MV hMV
    have hk1 := hk.trans e
    obtain ⟨rfl, hpl⟩ := pl_of_ok hk1
    have hC : Calls Try.prog 55 #[.pointer (some ⟨rb, 0, none⟩), .pointer (some ⟨pb, 0, none⟩), .int .i64 move] w (SwC pn1 10 MV w) := by
      rcases hpl with rfl | rfl
      · exact l05Move_yes0 p s c l st sk re fe ag p1 p2 pn1 pc1 pc2 xs ys F rb pb move w hr hq h hk1 hF hf m0 m1 he MV hMV
      · exact l05Move_yes1 p s c l st sk re fe ag p1 p2 pn1 pc1 pc2 xs ys F rb pb move w hr hq h hk1 hF hf m0 m1 he MV hMV
    cases MV
    · exact hC
    · exact hC
/-- What SowMove answers. -/
def SoV (n1 : Nat) (cd : Int) (MV : Option Res) (w : World) (e : Ending) (w' : World) : Prop :=
  match MV with
  | none => SoZ 0 0 0 0 cd [] [] w e w'
  | some m => SoZ n1 2 m.last m.laps 0 m.xs m.ys w e w'
theorem implMove_any (p s c l : Int) (st sk re fe ag : Bool) (p1 p2 : Option Addr) (pn1 pc1 pn2 pc2 : Nat) (pp : Int) (xs ys : List Int) (move : Int) (w : World) (h : PosR w p1 p2 pn1 pn2 xs ys) (k : Bool) (hk : okP (okR p s c l st ag) p pn1 pn2 pp xs ys = k) :
    Calls Try.prog 71 #[.agg #[.int .i64 p, .int .i64 s, .bool st, .bool sk, .bool re, .bool fe, .bool ag, .int .i64 c, .int .i64 l], .agg #[.slice p1 pn1 pc1, .slice p2 pn2 pc2, .int .i64 pp], .int .i64 move] w (SoV pn1 (mvCd k p pp st sk re xs ys move) (mvV k p pp st sk re xs ys move) w) := by
  refine mv_cases (sk := sk) (re := re) hk h.l1 move (fun cd MV => Calls Try.prog 71 #[.agg #[.int .i64 p, .int .i64 s, .bool st, .bool sk, .bool re, .bool fe, .bool ag, .int .i64 c, .int .i64 l], .agg #[.slice p1 pn1 pc1, .slice p2 pn2 pc2, .int .i64 pp], .int .i64 move] w (SoV pn1 cd MV w)) ?_ ?_ ?_ ?_
  · intro e
    exact implMove_err p s c l st sk re fe ag p1 p2 pn1 pc1 pn2 pc2 pp move 1 rfl w (fun u hu => begin_invalid p s c l st sk re fe ag _ _ _ _ _ _ _ xs ys move u (h.below hu) (hk.trans e))
  · intro e hm
    exact implMove_err p s c l st sk re fe ag p1 p2 pn1 pc1 pn2 pc2 pp move 2 rfl w (fun u hu => begin_range p s c l st sk re fe ag _ _ _ _ _ _ _ xs ys move u (h.below hu) (hk.trans e) hm)
  · intro e m0 m1 F hF hf he
    exact implMove_err p s c l st sk re fe ag p1 p2 pn1 pc1 pn2 pc2 pp move 6 rfl w (fun u hu => begin_empty p s c l st sk re fe ag _ _ _ _ _ _ _ xs ys move u (h.below hu) (hk.trans e) F hF hf m0 m1 he)
  · intro e m0 m1 F hF hf he MV hMV
    have hk1 := hk.trans e
    obtain ⟨rfl, hpl⟩ := pl_of_ok hk1
    have hC : Calls Try.prog 71 #[.agg #[.int .i64 p, .int .i64 s, .bool st, .bool sk, .bool re, .bool fe, .bool ag, .int .i64 c, .int .i64 l], .agg #[.slice p1 pn1 pc1, .slice p2 2 pc2, .int .i64 pp], .int .i64 move] w (MvQ pn1 MV w) := by
      rcases hpl with rfl | rfl
      · exact implMove0 p s c l st sk re fe ag p1 p2 pn1 pc1 2 pc2 xs ys move w h hk1 F hF hf m0 m1 he MV hMV
      · exact implMove1 p s c l st sk re fe ag p1 p2 pn1 pc1 2 pc2 xs ys move w h hk1 F hF hf m0 m1 he MV hMV
    cases MV
    · exact hC
    · exact hC
end Go.Proofs.Ythbkdlidpdliaaa

/- Mv8: SowMove of the reference. -/
namespace Go.Proofs.Ythbkdlidpdliaaa
open Go.Joins Go.ChangeShapes Go.WideShapes Go.ChangeAt Go.RowKit Go.Deep
set_option linter.unusedVariables false

/-- The result's variable behind rules and a position. -/
theorem z4_at2 (p s c l : Int) (st sk re fe ag : Bool) (p1 p2 : Option Addr) (pn1 pc1 pn2 pc2 : Nat) (pp : Int) (w : World) (T U V : TypeId) : Z4 (((w.alloc (.cells #[.int .i64 p, .int .i64 s, .bool st, .bool sk, .bool re, .bool fe, .bool ag, .int .i64 c, .int .i64 l] T)).alloc (.cells #[.slice p1 pn1 pc1, .slice p2 pn2 pc2, .int .i64 pp] U)).alloc (.cells #[.slice none 0 0, .slice none 0 0, .int .i64 0, .int .i64 0] V)) (w.heap.size + 1 + 1) := by
  have := z4_new ((w.alloc (.cells #[.int .i64 p, .int .i64 s, .bool st, .bool sk, .bool re, .bool fe, .bool ag, .int .i64 c, .int .i64 l] T)).alloc (.cells #[.slice p1 pn1 pc1, .slice p2 pn2 pc2, .int .i64 pp] U)) V
  simpa using this
theorem mvV_n1 {p s c l pp : Int} {st sk re ag : Bool} {n1 n2 : Nat} {xs ys : List Int} {k : Bool} (hk : okP (okR p s c l st ag) p n1 n2 pp xs ys = k) (l1 : xs.length = n1) {move : Int} {m : Res} (h : mvV k p pp st sk re xs ys move = some m) : mvCd k p pp st sk re xs ys move = 0 ∧ n1 ≤ 16 := by
  refine mv_cases (sk := sk) (re := re) hk l1 move (fun cd MV => MV = some m → cd = 0 ∧ n1 ≤ 16) ?_ ?_ ?_ ?_ h
  · intro _ e; cases e
  · intro _ _ e; cases e
  · intro _ _ _ _ _ _ _ e; cases e
  · rintro e m0 m1 F hF hf he MV hMV rfl
    obtain ⟨q1, q2, -⟩ := okP_parts (hk.trans e)
    obtain ⟨r1, r2, -⟩ := okR_bd q1
    exact ⟨rfl, by omega⟩
end Go.Proofs.Ythbkdlidpdliaaa

/- Lp5S: The first lap of a move, as the reference makes it. -/
namespace Go.Proofs.Ythbkdlidpdliaaa
open Go.Joins Go.ChangeShapes Go.WideShapes Go.ChangeAt Go.RowKit Go.Deep
set_option linter.unusedVariables false

set_option maxHeartbeats 4000000 in
set_option maxRecDepth 100000 in
theorem specLapM_err (p s c l : Int) (st sk re fe ag : Bool) (p1 p2 : Option Addr) (pn1 pc1 pn2 pc2 : Nat) (pp : Int) (move cd : Int) (hcd : (cd == 0) = false) (w : World) (hC : ∀ u, RpAt w p s c l st sk re fe ag p1 p2 pn1 pc1 pn2 pc2 pp u → Calls Try.prog 59 #[.pointer (some ⟨w.heap.size, 0, none⟩), .pointer (some ⟨w.heap.size + 1, 0, none⟩), .int .i64 move] u (Still (.int .i64 cd) u)) :
    Calls Try.prog 39 #[.agg #[.int .i64 p, .int .i64 s, .bool st, .bool sk, .bool re, .bool fe, .bool ag, .int .i64 c, .int .i64 l], .agg #[.slice p1 pn1 pc1, .slice p2 pn2 pc2, .int .i64 pp], .int .i64 move] w (SoZ 0 0 0 0 cd [] [] w) := by
  have HC := Lib.hid hC
  have HS := Lib.hid ((rp_new p s c l st sk re fe ag p1 p2 pn1 pc1 pn2 pc2 pp w 31 41).below (al1 _ (.cells #[.slice none 0 0, .slice none 0 0, .int .i64 0, .int .i64 0] 28)))
  have HZ := Lib.hid (z4_at2 p s c l st sk re fe ag p1 p2 pn1 pc1 pn2 pc2 pp w 31 41 28)
  have hcd2 : (cd != 0) = true := by simpa [bne] using hcd
  clear hC
  go_enter Try.func39, Try.ntmps39
  go_wp2_with fail
  refine (HC.out _ HS.out).mono ?_
  generalize ((w.alloc (.cells #[.int .i64 p, .int .i64 s, .bool st, .bool sk, .bool re, .bool fe, .bool ag, .int .i64 c, .int .i64 l] 31)).alloc (.cells #[.slice p1 pn1 pc1, .slice p2 pn2 pc2, .int .i64 pp] 41)).alloc (.cells #[.slice none 0 0, .slice none 0 0, .int .i64 0, .int .i64 0] 28) = u at *
  rintro e u2 ⟨rfl, m, rfl⟩
  have HB := Lib.hid (show OnW w (u.drewN m) from below_dn HS.out.2.2 m)
  obtain ⟨zl, z0, z1, z2, z3, y0, y1, y2, y3⟩ := HZ.out
  go_wp2_with fail
  refine bodyPost_ret (v := .tuple #[.agg #[.slice none 0 0, .slice none 0 0, .int .i64 0, .int .i64 0], .int .i64 cd]) (by simp [results, Try.results39, go_sem, z0, z1, z2, z3]) rfl ?_
  exact soZ_zero cd (OnW.set4 HB.out (by omega) _ _ _ _) (by simp; omega)
set_option maxHeartbeats 8000000 in
set_option maxRecDepth 100000 in
theorem specLapM0 (p s c l : Int) (st sk re fe ag : Bool) (p1 p2 : Option Addr) (pn1 pc1 pc2 : Nat) (xs ys : List Int) (move : Int) (w : World) (h : PosR w p1 p2 pn1 2 xs ys) (hk : okP (okR p s c l st ag) p pn1 2 0 xs ys = true) (F : Nat) (hF : F < pn1) (hf : 0 * p + move = F) (hm0 : 0 ≤ move) (hm1 : move < p) (he : xs.getD F 0 ≠ 0) :
    Calls Try.prog 39 #[.agg #[.int .i64 p, .int .i64 s, .bool st, .bool sk, .bool re, .bool fe, .bool ag, .int .i64 c, .int .i64 l], .agg #[.slice p1 pn1 pc1, .slice p2 2 pc2, .int .i64 0], .int .i64 move] w (SoZ pn1 2 (lst ⟨p, 0, st, sk, re⟩ xs F) 1 0 (cx ⟨p, 0, st, sk, re⟩ xs F (cnt xs F)) (cy ⟨p, 0, st, sk, re⟩ ys F (cnt xs F)) w) := by
  have hbd := okR_bd (okP_parts hk).1
  have hp := hbd.1
  have hp8 := hbd.2.1
  obtain ⟨M, rfl⟩ : ∃ M : Nat, move = (M : Int) := ⟨move.toNat, by omega⟩
  have HFe : Hid ((M : Int) = (F : Int)) := Lib.hid (by omega)
  have HC : Hid (∀ u, RpAt w p s c l st sk re fe ag p1 p2 pn1 pc1 2 pc2 0 u → Calls Try.prog 59 #[.pointer (some ⟨w.heap.size, 0, none⟩), .pointer (some ⟨w.heap.size + 1, 0, none⟩), .int .i64 (M : Int)] u (Still (.int .i64 0) u)) := Lib.hid (fun u hu => code_yes p s c l st sk re fe ag _ _ _ _ _ _ _ xs ys _ _ (M : Int) u hu.1 hu.2.1 (h.below hu.2.2) hk F hF hf hm0 hm1 he)
  have HL := Lib.hid (lap_of_ok (sk := sk) (re := re) hk h.l1 h.l2 hF he)
  have HS := Lib.hid ((rp_new p s c l st sk re fe ag p1 p2 pn1 pc1 2 pc2 0 w 31 41).below (al1 _ (.cells #[.slice none 0 0, .slice none 0 0, .int .i64 0, .int .i64 0] 28)))
  have HZ := Lib.hid (z4_at2 p s c l st sk re fe ag p1 p2 pn1 pc1 2 pc2 0 w 31 41 28)
  have HN1 : Hid (xs ≠ []) := Lib.hid (by intro e; have := h.l1; subst e; simp at this; omega)
  have HN2 : Hid (ys ≠ []) := Lib.hid (by intro e; have := h.l2; subst e; simp at this)
  have hle1 : pn1 ≤ 1000000000000 := by have := h.r1.1; rwa [h.l1] at this
  have hle2 : 2 ≤ 1000000000000 := by omega
  have H := Lib.hid h
  have hw1 : IntKind.i64.wrap (0 * p) = 0 * p := IntWalk.i64_in _ ⟨by omega, by omega⟩
  have hw2 : IntKind.i64.wrap (0 * p + (M : Int)) = 0 * p + (M : Int) := IntWalk.i64_in _ ⟨by omega, by omega⟩
  have hw3 : IntKind.i64.wrap (p + (M : Int)) = p + (M : Int) := IntWalk.i64_in _ ⟨by omega, by omega⟩
  have hw4 : IntKind.i64.wrap (M : Int) = (M : Int) := IntWalk.i64_in _ ⟨by omega, by omega⟩
  have hw5 : IntKind.i64.wrap p = p := IntWalk.i64_in _ ⟨by omega, by omega⟩
  clear hk h he hf hbd
  go_enter Try.func39, Try.ntmps39
  go_wp2_with fail
  refine (HC.out _ HS.out).mono ?_
  generalize ((w.alloc (.cells #[.int .i64 p, .int .i64 s, .bool st, .bool sk, .bool re, .bool fe, .bool ag, .int .i64 c, .int .i64 l] 31)).alloc (.cells #[.slice p1 pn1 pc1, .slice p2 2 pc2, .int .i64 0] 41)).alloc (.cells #[.slice none 0 0, .slice none 0 0, .int .i64 0, .int .i64 0] 28) = u at *
  rintro e u2 ⟨rfl, m, rfl⟩
  have HS := Lib.hid (HS.out.below (below_dn (Below.refl _ _) m))
  have HZ := Lib.hid (HZ.out.below (below_dn (Below.refl _ _) m))
  generalize u.drewN m = u2 at *
  have HP := Lib.hid HS.out.2.1
  have HU := Lib.hid HS.out.1
  have HW : Hid (Below w.heap.size w u2) := Lib.hid HS.out.2.2
  go_upto_region 4 with fail
  have H := Lib.hid (H.out.below HW.out)
  have hwu : w.heap.size + 1 + 1 < u2.heap.size := HZ.out.lt
  obtain ⟨pb, hpb⟩ : ∃ b, b = w.heap.size + 1 := ⟨_, rfl⟩
  obtain ⟨rb, hrb⟩ : ∃ b, b = w.heap.size := ⟨_, rfl⟩
  obtain ⟨zb, hzb⟩ : ∃ b, b = w.heap.size + 1 + 1 := ⟨_, rfl⟩
  rw [← hpb] at HP
  rw [← hrb] at HU
  rw [← hzb] at HZ
  rw [← hzb, ← hpb, ← hrb]
  have Hb := Lib.hid (And.intro hpb (And.intro hrb hzb))
  have hrbl : rb < u2.heap.size := by omega
  have hpbl : pb < u2.heap.size := by omega
  have hzbl : zb < u2.heap.size := by omega
  have hwz : w.heap.size ≤ u2.heap.size := by omega
  clear hpb hrb hzb HS hwu
  have HB := Lib.hid (show OnW u2 u2 from Below.refl _ _)
  have HT : Hid (∀ u : World, PoAt u pb p1 p2 pn1 pc1 2 pc2 0 → OnW u2 u → (pb < u.heap.size ∧ u.cell? ⟨pb, 0, none⟩ = some (.slice p1 pn1 pc1) ∧ u.cell? ⟨pb, 1, none⟩ = some (.slice p2 2 pc2) ∧ u.cell? ⟨pb, 2, none⟩ = some (.int .i64 0)) ∧ Below u2.heap.size u2 u) := Lib.hid (fun u h k => ⟨h, k⟩)
  go_cut [9] (fun s9 wx => ∃ s0 b5 c5 b6 c6 : Nat, s9 = .pointer (some ⟨s0, 0, none⟩) ∧ SowF u2 p s c l st sk re fe ag p1 p2 pn1 pc1 2 pc2 0 rb pb s0 b5 c5 b6 c6 xs ys wx)
  case first =>
    go_region_held3 (fun u => (pb < u.heap.size ∧ u.cell? ⟨pb, 0, none⟩ = some (.slice p1 pn1 pc1) ∧ u.cell? ⟨pb, 1, none⟩ = some (.slice p2 2 pc2) ∧ u.cell? ⟨pb, 2, none⟩ = some (.int .i64 0)) ∧ Below u2.heap.size u2 u) (first | with_reducible exact HT.out _ HP.out HB.out | with_reducible exact HT.out _ HP.out.drew HB.out.drew | with_reducible exact HT.out _ (HP.out.below (al1 _ _)) (HB.out.below (al1 _ _)) | with_reducible exact HT.out _ (HP.out.drew.below (al1 _ _)) (HB.out.drew.below (al1 _ _)) | with_reducible exact HT.out _ (HP.out.below (al1 _ _)).drew (HB.out.below (al1 _ _)).drew | with_reducible exact HT.out _ (HP.out.set4 (by omega) _ _ _ _) (HB.out.set4 (by omega) _ _ _ _) | with_reducible exact HT.out _ ((HP.out.below (al1 _ _)).set4 (by omega) _ _ _ _) ((HB.out.below (al1 _ _)).set4 (by omega) _ _ _ _))
      (first
      | (go_at_call 60; (with_reducible refine (l00Own_any p1 pc1 pn1 xs _ H.out.l1 ?_ HN1.out).mono ?_); (first | with_reducible exact H.out.r1.below (HB.out).bel | with_reducible exact H.out.r1.below (HB.out.drew).bel | with_reducible exact H.out.r1.below (HB.out.below (al1 _ _)).bel | with_reducible exact H.out.r1.below (HB.out.drew.below (al1 _ _)).bel | with_reducible exact H.out.r1.below ((HB.out.below (al1 _ _)).drew).bel); rintro e w5 ⟨v1, rfl, hown, hb5⟩; (obtain ⟨c5, b5, rfl, o5, hlt5, hc5⟩ := outN_own hown H.out.l1 hle1 HN1.out); have O1 := Lib.hid o5; have nb1 := o5.new; (first | have HY := Lib.hid ((z4_new u2 28).drew.below hb5) | have HY := Lib.hid ((z4_new u2.drew 28).below hb5) | have HY := Lib.hid ((z4_new u2 28).below hb5) | skip); (first | have HG := Lib.hid ((nf_new u2 _ 28).drew.below hb5) | have HG := Lib.hid ((nf_new u2.drew _ 28).below hb5) | have HG := Lib.hid ((nf_new u2 _ 28).below hb5) | skip); (first | have HP := Lib.hid (HP.out.below hb5) | have HP := Lib.hid (HP.out.drew.below hb5) | have HP := Lib.hid ((HP.out.below (al1 _ _)).below hb5) | have HP := Lib.hid ((HP.out.below (al1 _ _)).drew.below hb5)); (first | have HU := Lib.hid (HU.out.below hb5) | have HU := Lib.hid (HU.out.drew.below hb5) | have HU := Lib.hid ((HU.out.below (al1 _ _)).below hb5) | have HU := Lib.hid ((HU.out.below (al1 _ _)).drew.below hb5)); (first | have HB := Lib.hid (HB.out.below hb5) | have HB := Lib.hid (HB.out.drew.below hb5) | have HB := Lib.hid ((HB.out.below (al1 _ _)).below hb5) | have HB := Lib.hid ((HB.out.below (al1 _ _)).drew.below hb5)); have nz5 := HP.out.1; have nb5 := HB.out.size; clear hown hb5 o5)
      | (go_at_call 60; (with_reducible refine (l00Own_any p2 pc2 2 ys _ H.out.l2 ?_ HN2.out).mono ?_); (first | with_reducible exact H.out.r2.below (HB.out).bel | with_reducible exact H.out.r2.below (HB.out.drew).bel | with_reducible exact H.out.r2.below (HB.out.below (al1 _ _)).bel | with_reducible exact H.out.r2.below (HB.out.drew.below (al1 _ _)).bel | with_reducible exact H.out.r2.below ((HB.out.below (al1 _ _)).drew).bel); rintro e w6 ⟨v2, rfl, hown, hb6⟩; (obtain ⟨c6, b6, rfl, o6, hlt6, hc6⟩ := outN_own hown H.out.l2 hle2 HN2.out); have O2 := Lib.hid o6; have nb2 := o6.new; (first | have HY := Lib.hid (HY.out.below hb6) | have HY := Lib.hid (HY.out.drew.below hb6) | have HY := Lib.hid ((z4_new w5 28).below hb6) | have HY := Lib.hid ((z4_new w5 28).drew.below hb6) | have HY := Lib.hid ((z4_new w5.drew 28).below hb6) | skip); (first | have HG := Lib.hid (HG.out.below hb6) | have HG := Lib.hid (HG.out.drew.below hb6) | have HG := Lib.hid ((nf_new w5 _ 28).below hb6) | have HG := Lib.hid ((nf_new w5 _ 28).drew.below hb6) | have HG := Lib.hid ((nf_new w5.drew _ 28).below hb6) | skip); (try obtain ⟨yz, y0, y1, y2, y3, k0, k1, k2, k3⟩ := HY.out); (first | have HP := Lib.hid (HP.out.below hb6) | have HP := Lib.hid (HP.out.drew.below hb6) | have HP := Lib.hid ((HP.out.below (al1 _ _)).below hb6) | have HP := Lib.hid ((HP.out.below (al1 _ _)).drew.below hb6)); (first | have HU := Lib.hid (HU.out.below hb6) | have HU := Lib.hid (HU.out.drew.below hb6) | have HU := Lib.hid ((HU.out.below (al1 _ _)).below hb6) | have HU := Lib.hid ((HU.out.below (al1 _ _)).drew.below hb6)); (first | have HB := Lib.hid (HB.out.below hb6) | have HB := Lib.hid (HB.out.drew.below hb6) | have HB := Lib.hid ((HB.out.below (al1 _ _)).below hb6) | have HB := Lib.hid ((HB.out.below (al1 _ _)).drew.below hb6)); (first | have O1 := Lib.hid (O1.out.below hb6) | have O1 := Lib.hid (O1.out.drew.below hb6) | have O1 := Lib.hid ((O1.out.below (al1 _ _)).below hb6) | have O1 := Lib.hid ((O1.out.below (al1 _ _)).drew.below hb6)); have nz6 := HP.out.1; have nb6 := HB.out.size; clear hown hb6 o6))
    all_goals (try simp at nb1)
    all_goals (try simp at nb2)
    all_goals go_wp2_with fail
    all_goals go_meet
    all_goals have hl5 := (O1.out.free HN1.out).1
    all_goals have hb5' := HB.out.size
    all_goals first
      | exact ⟨_, _, _, _, _, rfl, sow_fin2 p s c l st sk re fe ag p1 p2 pn1 pc1 2 pc2 0 28 HP.out HU.out HB.out O1.out O2.out H.out.l1 H.out.l2 (by omega) hl5 hlt6 (by first | omega | (simp; done) | (simp; omega)) (by first | omega | (simp; done) | (simp; omega)) hc5 hc6⟩
      | exact ⟨_, _, _, _, _, rfl, sow_fin p s c l st sk re fe ag p1 p2 pn1 pc1 2 pc2 0 HP.out HU.out HB.out HY.out HG.out.2 O1.out O2.out H.out.l1 H.out.l2 (by omega) (by omega) (by omega) hl5 hlt6 (by omega) (by omega) (by omega) (by first | omega | (simp; done) | (simp; omega)) (by first | omega | (simp; done) | (simp; omega)) hc5 hc6⟩
  case rest =>
    obtain ⟨s0, b5, c5, b6, c6, rfl, hF⟩ := hcut
    have HF := Lib.hid hF
    obtain ⟨_, t0, t1, t2⟩ := hF.po
    obtain ⟨_, g0, -, -, -, -, -, -, -, -⟩ := hF.ru
    clear hF HU HB HT
    have hl5 := HF.out.l5
    have hl6 := HF.out.l6
    have hms := HF.out.ms
    have hs0 := HF.out.so.so.1
    have hn5 := HF.out.so.o1.new
    have hn6 := HF.out.so.o2.new
    have hk5 := HF.out.k5
    have hk6 := HF.out.k6
    have hwc : u2.heap.size ≤ wc.heap.size := Below.size HF.out.on
    have HLap : Hid (Calls Try.prog 61 #[.pointer (some ⟨rb, 0, none⟩), .pointer (some ⟨s0, 0, none⟩), .int .i64 0, .int .i64 ((M : Int)), .slice (some ⟨wc.heap.size, 0, none⟩) 0 0] (wc.alloc (.cells #[] 2)) (LapD u2 (wc.alloc (.cells #[] 2)) ⟨p, 0, st, sk, re⟩ (fun u => RuAt u rb p s c l st sk re fe ag) s0 b5 c5 b6 c6 pn1 wc.heap.size 0 F xs ys [])) := Lib.hid (by
      have hrow0 := World.ownsRow_made (e := 2) (size := 1) wc #[] 0 (Nat.le_refl _) (by decide) rfl
      have HFb := Lib.hid (show RuAt _ rb p s c l st sk re fe ag ∧ SoS _ u2.heap.size s0 b5 c5 b6 c6 pn1 0 0 xs ys ∧ Below u2.heap.size u2 _ from ⟨HF.out.ru.below (al1 wc (.cells #[] 2)), HF.out.so.below (al1 wc (.cells #[] 2)), OnW.below (show OnW u2 wc from HF.out.on) (al1 wc (.cells #[] 2))⟩)
      rw [HFe.out]
      exact specLap0 u2 (wc.alloc (.cells #[] 2)) ⟨p, 0, st, sk, re⟩ p s c l st sk re fe ag rfl _ rb s0 b5 c5 b6 c6 pn1 wc.heap.size 0 0 F xs ys [] _ hp hp8 HL.out HFb.out.2.2 HFb.out.1 HFb.out.2.1 hrow0 (by simp) hwc (by omega) hs0 hl5 hl6 (by omega) (by omega) (by omega) (by omega) (by omega) (by simp) hms)
    go_wp2_with fail
    refine HLap.out.mono ?_
    rintro e w3 ⟨v3, rfl, hb3, hr3, hs3, hrow3, hsz3⟩
    have HZ3 := Lib.hid (HZ.out.below hb3)
    have hs3' : SoS w3 u2.heap.size s0 b5 c5 b6 c6 pn1 (lst ⟨p, 0, st, sk, re⟩ xs F) 1 (cx ⟨p, 0, st, sk, re⟩ xs F (cnt xs F)) (cy ⟨p, 0, st, sk, re⟩ ys F (cnt xs F)) := hs3
    have HS3 := Lib.hid hs3'
    have HB3 := Lib.hid (show OnW w w3 from Below.trans HW.out (Below.mono hb3 hwz))
    obtain ⟨_, k0, k1, k2, k3⟩ := hs3'.so
    obtain ⟨zl, z0, z1, z2, z3, y0, y1, y2, y3⟩ := HZ3.out
    have hsz4 : wc.heap.size ≤ w3.heap.size := by have := hsz3; simp at this; omega
    have hne : s0 ≠ zb := by omega
    have hne' : zb ≠ s0 := by omega
    clear hb3 hr3 hs3 hrow3 hsz3 HLap t0 t1 t2 g0 hw1 hw2 hw3 hw4 hw5
    generalize lst ⟨p, 0, st, sk, re⟩ xs F = la at *
    generalize cx ⟨p, 0, st, sk, re⟩ xs F (cnt xs F) = xx at *
    generalize cy ⟨p, 0, st, sk, re⟩ ys F (cnt xs F) = yy at *
    go_wp2_with fail
    refine bodyPost_ret (v := .tuple #[.agg #[.slice (some ⟨b5, 0, none⟩) pn1 c5, .slice (some ⟨b6, 0, none⟩) 2 c6, .int .i64 la, .int .i64 1], .int .i64 0]) (by simp [results, Try.results39, go_sem, z0, z1, z2, z3]) rfl ?_
    have hb := but4 zb w3 (.slice (some ⟨b5, 0, none⟩) pn1 c5) (.slice (some ⟨b6, 0, none⟩) 2 c6) (.int .i64 la) (.int .i64 1)
    have hh := Hb.out
    exact ⟨_, _, b5, _, _, b6, rfl, ⟨(HS3.out.o1.but hb (by omega)).lower (by omega), (HS3.out.o2.but hb (by omega)).lower (by omega), HS3.out.d3, HS3.out.l1, HS3.out.l2⟩, by simp; omega, by simp; omega, hk5, hk6, OnW.set4 HB3.out (by omega) _ _ _ _⟩
set_option maxHeartbeats 8000000 in
set_option maxRecDepth 100000 in
theorem specLapM1 (p s c l : Int) (st sk re fe ag : Bool) (p1 p2 : Option Addr) (pn1 pc1 pc2 : Nat) (xs ys : List Int) (move : Int) (w : World) (h : PosR w p1 p2 pn1 2 xs ys) (hk : okP (okR p s c l st ag) p pn1 2 1 xs ys = true) (F : Nat) (hF : F < pn1) (hf : 1 * p + move = F) (hm0 : 0 ≤ move) (hm1 : move < p) (he : xs.getD F 0 ≠ 0) :
    Calls Try.prog 39 #[.agg #[.int .i64 p, .int .i64 s, .bool st, .bool sk, .bool re, .bool fe, .bool ag, .int .i64 c, .int .i64 l], .agg #[.slice p1 pn1 pc1, .slice p2 2 pc2, .int .i64 1], .int .i64 move] w (SoZ pn1 2 (lst ⟨p, 1, st, sk, re⟩ xs F) 1 0 (cx ⟨p, 1, st, sk, re⟩ xs F (cnt xs F)) (cy ⟨p, 1, st, sk, re⟩ ys F (cnt xs F)) w) := by
  have hbd := okR_bd (okP_parts hk).1
  have hp := hbd.1
  have hp8 := hbd.2.1
  obtain ⟨M, rfl⟩ : ∃ M : Nat, move = (M : Int) := ⟨move.toNat, by omega⟩
  have HFe : Hid (p + (M : Int) = (F : Int)) := Lib.hid (by omega)
  have HC : Hid (∀ u, RpAt w p s c l st sk re fe ag p1 p2 pn1 pc1 2 pc2 1 u → Calls Try.prog 59 #[.pointer (some ⟨w.heap.size, 0, none⟩), .pointer (some ⟨w.heap.size + 1, 0, none⟩), .int .i64 (M : Int)] u (Still (.int .i64 0) u)) := Lib.hid (fun u hu => code_yes p s c l st sk re fe ag _ _ _ _ _ _ _ xs ys _ _ (M : Int) u hu.1 hu.2.1 (h.below hu.2.2) hk F hF hf hm0 hm1 he)
  have HL := Lib.hid (lap_of_ok (sk := sk) (re := re) hk h.l1 h.l2 hF he)
  have HS := Lib.hid ((rp_new p s c l st sk re fe ag p1 p2 pn1 pc1 2 pc2 1 w 31 41).below (al1 _ (.cells #[.slice none 0 0, .slice none 0 0, .int .i64 0, .int .i64 0] 28)))
  have HZ := Lib.hid (z4_at2 p s c l st sk re fe ag p1 p2 pn1 pc1 2 pc2 1 w 31 41 28)
  have HN1 : Hid (xs ≠ []) := Lib.hid (by intro e; have := h.l1; subst e; simp at this; omega)
  have HN2 : Hid (ys ≠ []) := Lib.hid (by intro e; have := h.l2; subst e; simp at this)
  have hle1 : pn1 ≤ 1000000000000 := by have := h.r1.1; rwa [h.l1] at this
  have hle2 : 2 ≤ 1000000000000 := by omega
  have H := Lib.hid h
  have hw1 : IntKind.i64.wrap (1 * p) = 1 * p := IntWalk.i64_in _ ⟨by omega, by omega⟩
  have hw2 : IntKind.i64.wrap (1 * p + (M : Int)) = 1 * p + (M : Int) := IntWalk.i64_in _ ⟨by omega, by omega⟩
  have hw3 : IntKind.i64.wrap (p + (M : Int)) = p + (M : Int) := IntWalk.i64_in _ ⟨by omega, by omega⟩
  have hw4 : IntKind.i64.wrap (M : Int) = (M : Int) := IntWalk.i64_in _ ⟨by omega, by omega⟩
  have hw5 : IntKind.i64.wrap p = p := IntWalk.i64_in _ ⟨by omega, by omega⟩
  clear hk h he hf hbd
  go_enter Try.func39, Try.ntmps39
  go_wp2_with fail
  refine (HC.out _ HS.out).mono ?_
  generalize ((w.alloc (.cells #[.int .i64 p, .int .i64 s, .bool st, .bool sk, .bool re, .bool fe, .bool ag, .int .i64 c, .int .i64 l] 31)).alloc (.cells #[.slice p1 pn1 pc1, .slice p2 2 pc2, .int .i64 1] 41)).alloc (.cells #[.slice none 0 0, .slice none 0 0, .int .i64 0, .int .i64 0] 28) = u at *
  rintro e u2 ⟨rfl, m, rfl⟩
  have HS := Lib.hid (HS.out.below (below_dn (Below.refl _ _) m))
  have HZ := Lib.hid (HZ.out.below (below_dn (Below.refl _ _) m))
  generalize u.drewN m = u2 at *
  have HP := Lib.hid HS.out.2.1
  have HU := Lib.hid HS.out.1
  have HW : Hid (Below w.heap.size w u2) := Lib.hid HS.out.2.2
  go_upto_region 4 with fail
  have H := Lib.hid (H.out.below HW.out)
  have hwu : w.heap.size + 1 + 1 < u2.heap.size := HZ.out.lt
  obtain ⟨pb, hpb⟩ : ∃ b, b = w.heap.size + 1 := ⟨_, rfl⟩
  obtain ⟨rb, hrb⟩ : ∃ b, b = w.heap.size := ⟨_, rfl⟩
  obtain ⟨zb, hzb⟩ : ∃ b, b = w.heap.size + 1 + 1 := ⟨_, rfl⟩
  rw [← hpb] at HP
  rw [← hrb] at HU
  rw [← hzb] at HZ
  rw [← hzb, ← hpb, ← hrb]
  have Hb := Lib.hid (And.intro hpb (And.intro hrb hzb))
  have hrbl : rb < u2.heap.size := by omega
  have hpbl : pb < u2.heap.size := by omega
  have hzbl : zb < u2.heap.size := by omega
  have hwz : w.heap.size ≤ u2.heap.size := by omega
  clear hpb hrb hzb HS hwu
  have HB := Lib.hid (show OnW u2 u2 from Below.refl _ _)
  have HT : Hid (∀ u : World, PoAt u pb p1 p2 pn1 pc1 2 pc2 1 → OnW u2 u → (pb < u.heap.size ∧ u.cell? ⟨pb, 0, none⟩ = some (.slice p1 pn1 pc1) ∧ u.cell? ⟨pb, 1, none⟩ = some (.slice p2 2 pc2) ∧ u.cell? ⟨pb, 2, none⟩ = some (.int .i64 1)) ∧ Below u2.heap.size u2 u) := Lib.hid (fun u h k => ⟨h, k⟩)
  go_cut [9] (fun s9 wx => ∃ s0 b5 c5 b6 c6 : Nat, s9 = .pointer (some ⟨s0, 0, none⟩) ∧ SowF u2 p s c l st sk re fe ag p1 p2 pn1 pc1 2 pc2 1 rb pb s0 b5 c5 b6 c6 xs ys wx)
  case first =>
    go_region_held3 (fun u => (pb < u.heap.size ∧ u.cell? ⟨pb, 0, none⟩ = some (.slice p1 pn1 pc1) ∧ u.cell? ⟨pb, 1, none⟩ = some (.slice p2 2 pc2) ∧ u.cell? ⟨pb, 2, none⟩ = some (.int .i64 1)) ∧ Below u2.heap.size u2 u) (first | with_reducible exact HT.out _ HP.out HB.out | with_reducible exact HT.out _ HP.out.drew HB.out.drew | with_reducible exact HT.out _ (HP.out.below (al1 _ _)) (HB.out.below (al1 _ _)) | with_reducible exact HT.out _ (HP.out.drew.below (al1 _ _)) (HB.out.drew.below (al1 _ _)) | with_reducible exact HT.out _ (HP.out.below (al1 _ _)).drew (HB.out.below (al1 _ _)).drew | with_reducible exact HT.out _ (HP.out.set4 (by omega) _ _ _ _) (HB.out.set4 (by omega) _ _ _ _) | with_reducible exact HT.out _ ((HP.out.below (al1 _ _)).set4 (by omega) _ _ _ _) ((HB.out.below (al1 _ _)).set4 (by omega) _ _ _ _))
      (first
      | (go_at_call 60; (with_reducible refine (l00Own_any p1 pc1 pn1 xs _ H.out.l1 ?_ HN1.out).mono ?_); (first | with_reducible exact H.out.r1.below (HB.out).bel | with_reducible exact H.out.r1.below (HB.out.drew).bel | with_reducible exact H.out.r1.below (HB.out.below (al1 _ _)).bel | with_reducible exact H.out.r1.below (HB.out.drew.below (al1 _ _)).bel | with_reducible exact H.out.r1.below ((HB.out.below (al1 _ _)).drew).bel); rintro e w5 ⟨v1, rfl, hown, hb5⟩; (obtain ⟨c5, b5, rfl, o5, hlt5, hc5⟩ := outN_own hown H.out.l1 hle1 HN1.out); have O1 := Lib.hid o5; have nb1 := o5.new; (first | have HY := Lib.hid ((z4_new u2 28).drew.below hb5) | have HY := Lib.hid ((z4_new u2.drew 28).below hb5) | have HY := Lib.hid ((z4_new u2 28).below hb5) | skip); (first | have HG := Lib.hid ((nf_new u2 _ 28).drew.below hb5) | have HG := Lib.hid ((nf_new u2.drew _ 28).below hb5) | have HG := Lib.hid ((nf_new u2 _ 28).below hb5) | skip); (first | have HP := Lib.hid (HP.out.below hb5) | have HP := Lib.hid (HP.out.drew.below hb5) | have HP := Lib.hid ((HP.out.below (al1 _ _)).below hb5) | have HP := Lib.hid ((HP.out.below (al1 _ _)).drew.below hb5)); (first | have HU := Lib.hid (HU.out.below hb5) | have HU := Lib.hid (HU.out.drew.below hb5) | have HU := Lib.hid ((HU.out.below (al1 _ _)).below hb5) | have HU := Lib.hid ((HU.out.below (al1 _ _)).drew.below hb5)); (first | have HB := Lib.hid (HB.out.below hb5) | have HB := Lib.hid (HB.out.drew.below hb5) | have HB := Lib.hid ((HB.out.below (al1 _ _)).below hb5) | have HB := Lib.hid ((HB.out.below (al1 _ _)).drew.below hb5)); have nz5 := HP.out.1; have nb5 := HB.out.size; clear hown hb5 o5)
      | (go_at_call 60; (with_reducible refine (l00Own_any p2 pc2 2 ys _ H.out.l2 ?_ HN2.out).mono ?_); (first | with_reducible exact H.out.r2.below (HB.out).bel | with_reducible exact H.out.r2.below (HB.out.drew).bel | with_reducible exact H.out.r2.below (HB.out.below (al1 _ _)).bel | with_reducible exact H.out.r2.below (HB.out.drew.below (al1 _ _)).bel | with_reducible exact H.out.r2.below ((HB.out.below (al1 _ _)).drew).bel); rintro e w6 ⟨v2, rfl, hown, hb6⟩; (obtain ⟨c6, b6, rfl, o6, hlt6, hc6⟩ := outN_own hown H.out.l2 hle2 HN2.out); have O2 := Lib.hid o6; have nb2 := o6.new; (first | have HY := Lib.hid (HY.out.below hb6) | have HY := Lib.hid (HY.out.drew.below hb6) | have HY := Lib.hid ((z4_new w5 28).below hb6) | have HY := Lib.hid ((z4_new w5 28).drew.below hb6) | have HY := Lib.hid ((z4_new w5.drew 28).below hb6) | skip); (first | have HG := Lib.hid (HG.out.below hb6) | have HG := Lib.hid (HG.out.drew.below hb6) | have HG := Lib.hid ((nf_new w5 _ 28).below hb6) | have HG := Lib.hid ((nf_new w5 _ 28).drew.below hb6) | have HG := Lib.hid ((nf_new w5.drew _ 28).below hb6) | skip); (try obtain ⟨yz, y0, y1, y2, y3, k0, k1, k2, k3⟩ := HY.out); (first | have HP := Lib.hid (HP.out.below hb6) | have HP := Lib.hid (HP.out.drew.below hb6) | have HP := Lib.hid ((HP.out.below (al1 _ _)).below hb6) | have HP := Lib.hid ((HP.out.below (al1 _ _)).drew.below hb6)); (first | have HU := Lib.hid (HU.out.below hb6) | have HU := Lib.hid (HU.out.drew.below hb6) | have HU := Lib.hid ((HU.out.below (al1 _ _)).below hb6) | have HU := Lib.hid ((HU.out.below (al1 _ _)).drew.below hb6)); (first | have HB := Lib.hid (HB.out.below hb6) | have HB := Lib.hid (HB.out.drew.below hb6) | have HB := Lib.hid ((HB.out.below (al1 _ _)).below hb6) | have HB := Lib.hid ((HB.out.below (al1 _ _)).drew.below hb6)); (first | have O1 := Lib.hid (O1.out.below hb6) | have O1 := Lib.hid (O1.out.drew.below hb6) | have O1 := Lib.hid ((O1.out.below (al1 _ _)).below hb6) | have O1 := Lib.hid ((O1.out.below (al1 _ _)).drew.below hb6)); have nz6 := HP.out.1; have nb6 := HB.out.size; clear hown hb6 o6))
    all_goals (try simp at nb1)
    all_goals (try simp at nb2)
    all_goals go_wp2_with fail
    all_goals go_meet
    all_goals have hl5 := (O1.out.free HN1.out).1
    all_goals have hb5' := HB.out.size
    all_goals first
      | exact ⟨_, _, _, _, _, rfl, sow_fin2 p s c l st sk re fe ag p1 p2 pn1 pc1 2 pc2 1 28 HP.out HU.out HB.out O1.out O2.out H.out.l1 H.out.l2 (by omega) hl5 hlt6 (by first | omega | (simp; done) | (simp; omega)) (by first | omega | (simp; done) | (simp; omega)) hc5 hc6⟩
      | exact ⟨_, _, _, _, _, rfl, sow_fin p s c l st sk re fe ag p1 p2 pn1 pc1 2 pc2 1 HP.out HU.out HB.out HY.out HG.out.2 O1.out O2.out H.out.l1 H.out.l2 (by omega) (by omega) (by omega) hl5 hlt6 (by omega) (by omega) (by omega) (by first | omega | (simp; done) | (simp; omega)) (by first | omega | (simp; done) | (simp; omega)) hc5 hc6⟩
  case rest =>
    obtain ⟨s0, b5, c5, b6, c6, rfl, hF⟩ := hcut
    have HF := Lib.hid hF
    obtain ⟨_, t0, t1, t2⟩ := hF.po
    obtain ⟨_, g0, -, -, -, -, -, -, -, -⟩ := hF.ru
    clear hF HU HB HT
    have hl5 := HF.out.l5
    have hl6 := HF.out.l6
    have hms := HF.out.ms
    have hs0 := HF.out.so.so.1
    have hn5 := HF.out.so.o1.new
    have hn6 := HF.out.so.o2.new
    have hk5 := HF.out.k5
    have hk6 := HF.out.k6
    have hwc : u2.heap.size ≤ wc.heap.size := Below.size HF.out.on
    have HLap : Hid (Calls Try.prog 61 #[.pointer (some ⟨rb, 0, none⟩), .pointer (some ⟨s0, 0, none⟩), .int .i64 1, .int .i64 (p + (M : Int)), .slice (some ⟨wc.heap.size, 0, none⟩) 0 0] (wc.alloc (.cells #[] 2)) (LapD u2 (wc.alloc (.cells #[] 2)) ⟨p, 1, st, sk, re⟩ (fun u => RuAt u rb p s c l st sk re fe ag) s0 b5 c5 b6 c6 pn1 wc.heap.size 0 F xs ys [])) := Lib.hid (by
      have hrow0 := World.ownsRow_made (e := 2) (size := 1) wc #[] 0 (Nat.le_refl _) (by decide) rfl
      have HFb := Lib.hid (show RuAt _ rb p s c l st sk re fe ag ∧ SoS _ u2.heap.size s0 b5 c5 b6 c6 pn1 0 0 xs ys ∧ Below u2.heap.size u2 _ from ⟨HF.out.ru.below (al1 wc (.cells #[] 2)), HF.out.so.below (al1 wc (.cells #[] 2)), OnW.below (show OnW u2 wc from HF.out.on) (al1 wc (.cells #[] 2))⟩)
      rw [HFe.out]
      exact specLap1 u2 (wc.alloc (.cells #[] 2)) ⟨p, 1, st, sk, re⟩ p s c l st sk re fe ag rfl _ rb s0 b5 c5 b6 c6 pn1 wc.heap.size 0 0 F xs ys [] _ hp hp8 HL.out HFb.out.2.2 HFb.out.1 HFb.out.2.1 hrow0 (by simp) hwc (by omega) hs0 hl5 hl6 (by omega) (by omega) (by omega) (by omega) (by omega) (by simp) hms)
    go_wp2_with fail
    refine HLap.out.mono ?_
    rintro e w3 ⟨v3, rfl, hb3, hr3, hs3, hrow3, hsz3⟩
    have HZ3 := Lib.hid (HZ.out.below hb3)
    have hs3' : SoS w3 u2.heap.size s0 b5 c5 b6 c6 pn1 (lst ⟨p, 1, st, sk, re⟩ xs F) 1 (cx ⟨p, 1, st, sk, re⟩ xs F (cnt xs F)) (cy ⟨p, 1, st, sk, re⟩ ys F (cnt xs F)) := hs3
    have HS3 := Lib.hid hs3'
    have HB3 := Lib.hid (show OnW w w3 from Below.trans HW.out (Below.mono hb3 hwz))
    obtain ⟨_, k0, k1, k2, k3⟩ := hs3'.so
    obtain ⟨zl, z0, z1, z2, z3, y0, y1, y2, y3⟩ := HZ3.out
    have hsz4 : wc.heap.size ≤ w3.heap.size := by have := hsz3; simp at this; omega
    have hne : s0 ≠ zb := by omega
    have hne' : zb ≠ s0 := by omega
    clear hb3 hr3 hs3 hrow3 hsz3 HLap t0 t1 t2 g0 hw1 hw2 hw3 hw4 hw5
    generalize lst ⟨p, 1, st, sk, re⟩ xs F = la at *
    generalize cx ⟨p, 1, st, sk, re⟩ xs F (cnt xs F) = xx at *
    generalize cy ⟨p, 1, st, sk, re⟩ ys F (cnt xs F) = yy at *
    go_wp2_with fail
    refine bodyPost_ret (v := .tuple #[.agg #[.slice (some ⟨b5, 0, none⟩) pn1 c5, .slice (some ⟨b6, 0, none⟩) 2 c6, .int .i64 la, .int .i64 1], .int .i64 0]) (by simp [results, Try.results39, go_sem, z0, z1, z2, z3]) rfl ?_
    have hb := but4 zb w3 (.slice (some ⟨b5, 0, none⟩) pn1 c5) (.slice (some ⟨b6, 0, none⟩) 2 c6) (.int .i64 la) (.int .i64 1)
    have hh := Hb.out
    exact ⟨_, _, b5, _, _, b6, rfl, ⟨(HS3.out.o1.but hb (by omega)).lower (by omega), (HS3.out.o2.but hb (by omega)).lower (by omega), HS3.out.d3, HS3.out.l1, HS3.out.l2⟩, by simp; omega, by simp; omega, hk5, hk6, OnW.set4 HB3.out (by omega) _ _ _ _⟩
end Go.Proofs.Ythbkdlidpdliaaa

/- Lp8: SowLap in any position. -/
namespace Go.Proofs.Ythbkdlidpdliaaa
open Go.Joins Go.ChangeShapes Go.WideShapes Go.ChangeAt Go.RowKit Go.Deep
set_option linter.unusedVariables false

theorem lap_ex (p s c l : Int) (st sk re fe ag : Bool) (pn1 pn2 : Nat) (pp : Int) (xs ys : List Int) (move : Int) (l1 : xs.length = pn1) (l2 : ys.length = pn2) :
    ∃ (m1 m2 : Nat) (pl pk cd : Int) (us vs : List Int), m1 ≤ 10000000 ∧ m2 ≤ 10000000 ∧
      (∀ (g1 g2 : Nat) (w : World), PosR w (some ⟨g1, 0, none⟩) (some ⟨g2, 0, none⟩) pn1 pn2 xs ys → Calls Try.prog 39 #[.agg #[.int .i64 p, .int .i64 s, .bool st, .bool sk, .bool re, .bool fe, .bool ag, .int .i64 c, .int .i64 l], .agg #[.slice (some ⟨g1, 0, none⟩) pn1 pn1, .slice (some ⟨g2, 0, none⟩) pn2 pn2, .int .i64 pp], .int .i64 move] w (SoZ m1 m2 pl pk cd us vs w)) ∧
      (∀ (g1 g2 : Nat) (w : World), PosR w (some ⟨g1, 0, none⟩) (some ⟨g2, 0, none⟩) pn1 pn2 xs ys → Calls Try.prog 40 #[.agg #[.int .i64 p, .int .i64 s, .bool st, .bool sk, .bool re, .bool fe, .bool ag, .int .i64 c, .int .i64 l], .agg #[.slice (some ⟨g1, 0, none⟩) pn1 pn1, .slice (some ⟨g2, 0, none⟩) pn2 pn2, .int .i64 pp], .int .i64 move] w (SoZ m1 m2 pl pk cd us vs w)) := by
  rcases hk : okP (okR p s c l st ag) p pn1 pn2 pp xs ys with _ | _
  · exact ⟨0, 0, 0, 0, 1, [], [], by omega, by omega,
      fun g1 g2 w h => specLapM_err p s c l st sk re fe ag _ _ _ _ _ _ _ move 1 rfl w (fun u hu => code_invalid p s c l st sk re fe ag _ _ _ _ _ _ _ xs ys _ _ move u hu.1 hu.2.1 (h.below hu.2.2) hk),
      fun g1 g2 w h => implLap_err p s c l st sk re fe ag _ _ _ _ _ _ _ move 1 rfl w (fun u hu => begin_invalid p s c l st sk re fe ag _ _ _ _ _ _ _ xs ys move u (h.below hu) hk)⟩
  · by_cases hm : 0 ≤ move ∧ move < p
    · obtain ⟨q1, q2, q3, q4, -⟩ := okP_parts hk
      obtain ⟨r1, r2, -⟩ := okR_bd q1
      have hmul : 0 ≤ pp * p ∧ pp * p ≤ p := by
        rcases (by omega : pp = 0 ∨ pp = 1) with e | e <;> subst e <;> omega
      obtain ⟨F, hF⟩ : ∃ F : Nat, pp * p + move = F := ⟨(pp * p + move).toNat, by omega⟩
      have hF1 : F < pn1 := by omega
      by_cases he : xs.getD F 0 = 0
      · exact ⟨0, 0, 0, 0, 6, [], [], by omega, by omega,
          fun g1 g2 w h => specLapM_err p s c l st sk re fe ag _ _ _ _ _ _ _ move 6 rfl w (fun u hu => code_empty p s c l st sk re fe ag _ _ _ _ _ _ _ xs ys _ _ move u hu.1 hu.2.1 (h.below hu.2.2) hk F hF1 hF hm.1 hm.2 he),
          fun g1 g2 w h => implLap_err p s c l st sk re fe ag _ _ _ _ _ _ _ move 6 rfl w (fun u hu => begin_empty p s c l st sk re fe ag _ _ _ _ _ _ _ xs ys move u (h.below hu) hk F hF1 hF hm.1 hm.2 he)⟩
      · obtain ⟨rfl, hpl⟩ := pl_of_ok hk
        refine ⟨pn1, 2, lst ⟨p, pp, st, sk, re⟩ xs F, 1, 0, cx ⟨p, pp, st, sk, re⟩ xs F (cnt xs F), cy ⟨p, pp, st, sk, re⟩ ys F (cnt xs F), by omega, by omega, ?_, ?_⟩
        · rcases hpl with rfl | rfl
          · exact fun g1 g2 w h => specLapM0 p s c l st sk re fe ag _ _ _ _ _ xs ys move w h hk F hF1 hF hm.1 hm.2 he
          · exact fun g1 g2 w h => specLapM1 p s c l st sk re fe ag _ _ _ _ _ xs ys move w h hk F hF1 hF hm.1 hm.2 he
        · rcases hpl with rfl | rfl
          · exact fun g1 g2 w h => implLap0 p s c l st sk re fe ag _ _ _ _ _ _ xs ys move w h hk F hF1 hF hm.1 hm.2 he
          · exact fun g1 g2 w h => implLap1 p s c l st sk re fe ag _ _ _ _ _ _ xs ys move w h hk F hF1 hF hm.1 hm.2 he
    · exact ⟨0, 0, 0, 0, 2, [], [], by omega, by omega,
        fun g1 g2 w h => specLapM_err p s c l st sk re fe ag _ _ _ _ _ _ _ move 2 rfl w (fun u hu => code_range p s c l st sk re fe ag _ _ _ _ _ _ _ xs ys _ _ move u hu.1 hu.2.1 (h.below hu.2.2) hk hm),
        fun g1 g2 w h => implLap_err p s c l st sk re fe ag _ _ _ _ _ _ _ move 2 rfl w (fun u hu => begin_range p s c l st sk re fe ag _ _ _ _ _ _ _ xs ys move u (h.below hu) hk hm)⟩
end Go.Proofs.Ythbkdlidpdliaaa
