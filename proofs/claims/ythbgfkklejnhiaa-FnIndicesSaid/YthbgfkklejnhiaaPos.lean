/- Positions in memory, and what the laws' own functions on them do. No conditions. -/
import Derived.Test.YthbgfkklejnhiaaRowN
namespace Go.Proofs.Ythbgfkklejnhiaa
open Go.Joins Go.ChangeShapes Go.WideShapes Go.ChangeAt Go.RowKit Go.Deep
set_option linter.unusedVariables false

/-- The rows of a position: pits xs and stores ys. -/
structure PosR (w : World) (a1 a2 : Option Addr) (n1 n2 : Nat) (xs ys : List Int) : Prop where
  r1 : RowN w a1 xs
  r2 : RowN w a2 ys
  l1 : xs.length = n1
  l2 : ys.length = n2
theorem PosR.below {w w' : World} {a1 a2 : Option Addr} {n1 n2 : Nat} {xs ys : List Int} (h : PosR w a1 a2 n1 n2 xs ys) (k : Below w.heap.size w w') : PosR w' a1 a2 n1 n2 xs ys :=
  ⟨h.r1.below k, h.r2.below k, h.l1, h.l2⟩
theorem PosR.alloc {w : World} {a1 a2 : Option Addr} {n1 n2 : Nat} {xs ys : List Int} (h : PosR w a1 a2 n1 n2 xs ys) (o : Obj) : PosR (w.alloc o) a1 a2 n1 n2 xs ys := ⟨h.r1.alloc o, h.r2.alloc o, h.l1, h.l2⟩
theorem PosR.drewN {w : World} {a1 a2 : Option Addr} {n1 n2 : Nat} {xs ys : List Int} (h : PosR w a1 a2 n1 n2 xs ys) (q : Nat) : PosR (w.drewN q) a1 a2 n1 n2 xs ys := ⟨h.r1.drewN q, h.r2.drewN q, h.l1, h.l2⟩
theorem PosR.but {w w' : World} {a1 a2 : Option Addr} {n1 n2 : Nat} {xs ys : List Int} {b : Nat} (h : PosR w a1 a2 n1 n2 xs ys) (k : But b w w') (h1 : ∀ g o, a1 = some ⟨g, o, none⟩ → g ≠ b) (h2 : ∀ g o, a2 = some ⟨g, o, none⟩ → g ≠ b) : PosR w' a1 a2 n1 n2 xs ys :=
  ⟨h.r1.but k h1, h.r2.but k h2, h.l1, h.l2⟩
theorem PosR.but2 {w w' : World} {a1 a2 : Option Addr} {n1 n2 : Nat} {xs ys : List Int} {b c : Nat} (h : PosR w a1 a2 n1 n2 xs ys) (k : But2 b c w w') (h1 : ∀ g o, a1 = some ⟨g, o, none⟩ → g ≠ b ∧ g ≠ c) (h2 : ∀ g o, a2 = some ⟨g, o, none⟩ → g ≠ b ∧ g ≠ c) : PosR w' a1 a2 n1 n2 xs ys :=
  ⟨h.r1.but2 k h1, h.r2.but2 k h2, h.l1, h.l2⟩
/-- A position in two blocks of its own, not below B. -/
structure PosO (w : World) (B : Nat) (a1 a2 : Option Addr) (b1 b2 n1 n2 : Nat) (xs ys : List Int) : Prop where
  o1 : OutN w B a1 b1 xs
  o2 : OutN w B a2 b2 ys
  ne : b1 ≠ b2
  l1 : xs.length = n1
  l2 : ys.length = n2
section
variable {w w' : World} {B b1 b2 n1 n2 : Nat} {a1 a2 : Option Addr} {xs ys : List Int}
theorem PosO.r (h : PosO w B a1 a2 b1 b2 n1 n2 xs ys) : PosR w a1 a2 n1 n2 xs ys := ⟨h.o1.row, h.o2.row, h.l1, h.l2⟩
theorem PosO.below (h : PosO w B a1 a2 b1 b2 n1 n2 xs ys) (k : Below w.heap.size w w') : PosO w' B a1 a2 b1 b2 n1 n2 xs ys := ⟨h.o1.below k, h.o2.below k, h.ne, h.l1, h.l2⟩
theorem PosO.but {c : Nat} (h : PosO w B a1 a2 b1 b2 n1 n2 xs ys) (k : But c w w') (h1 : b1 ≠ c) (h2 : b2 ≠ c) : PosO w' B a1 a2 b1 b2 n1 n2 xs ys := ⟨h.o1.but k h1, h.o2.but k h2, h.ne, h.l1, h.l2⟩
theorem PosO.but2 {c d : Nat} (h : PosO w B a1 a2 b1 b2 n1 n2 xs ys) (k : But2 c d w w') (h1 : b1 ≠ c) (h2 : b2 ≠ c) (h3 : b1 ≠ d) (h4 : b2 ≠ d) : PosO w' B a1 a2 b1 b2 n1 n2 xs ys := ⟨h.o1.but2 k h1 h3, h.o2.but2 k h2 h4, h.ne, h.l1, h.l2⟩
theorem PosO.lower {C : Nat} (h : PosO w B a1 a2 b1 b2 n1 n2 xs ys) (hc : C ≤ B) : PosO w C a1 a2 b1 b2 n1 n2 xs ys := ⟨h.o1.lower hc, h.o2.lower hc, h.ne, h.l1, h.l2⟩
theorem PosO.drewN (h : PosO w B a1 a2 b1 b2 n1 n2 xs ys) (q : Nat) : PosO (w.drewN q) B a1 a2 b1 b2 n1 n2 xs ys := ⟨h.o1.drewN q, h.o2.drewN q, h.ne, h.l1, h.l2⟩
end

/-- A position of a call's own. -/
def PosP (n1 n2 : Nat) (pl : Int) (xs ys : List Int) (w : World) (e : Ending) (w' : World) : Prop :=
  ∃ g1 g2, e = .returned (.agg #[.slice (some ⟨g1, 0, none⟩) n1 n1, .slice (some ⟨g2, 0, none⟩) n2 n2, .int .i64 pl]) ∧ PosO w' w.heap.size (some ⟨g1, 0, none⟩) (some ⟨g2, 0, none⟩) g1 g2 n1 n2 xs ys ∧ g1 < w'.heap.size ∧ g2 < w'.heap.size ∧ Below w.heap.size w w'

theorem set3 {w u : World} (h : Below w.heap.size w u) (x y z : Value) : Below w.heap.size w (((u.setCell ⟨w.heap.size, 0, none⟩ x).setCell ⟨w.heap.size, 1, none⟩ y).setCell ⟨w.heap.size, 2, none⟩ z) :=
  ((h.setCell (p := ⟨w.heap.size, 0, none⟩) (Nat.le_refl _) _).setCell (p := ⟨w.heap.size, 1, none⟩) (Nat.le_refl _) _).setCell (p := ⟨w.heap.size, 2, none⟩) (Nat.le_refl _) _
/-- A variable for a position, as it is made. -/
structure ZeroP (u : World) (z : Nat) : Prop where
  lt : z < u.heap.size
  c0 : u.cell? ⟨z, 0, none⟩ = some (.slice none 0 0)
  c1 : u.cell? ⟨z, 1, none⟩ = some (.slice none 0 0)
  c2 : u.cell? ⟨z, 2, none⟩ = some (.int .i64 0)
  fr : ∀ o, u.frozen? ⟨z, o, none⟩ = false
theorem ZeroP.below {u v : World} {z : Nat} (h : ZeroP u z) (k : Below u.heap.size u v) : ZeroP v z :=
  ⟨Nat.lt_of_lt_of_le h.lt k.size, (k.cell (p := ⟨z, 0, none⟩) h.lt).trans h.c0, (k.cell (p := ⟨z, 1, none⟩) h.lt).trans h.c1, (k.cell (p := ⟨z, 2, none⟩) h.lt).trans h.c2, fun o => (k.frozen (p := ⟨z, o, none⟩) h.lt).trans (h.fr o)⟩
theorem ZeroP.but {u v : World} {z b : Nat} (h : ZeroP u z) (k : But b u v) (hb : z ≠ b) : ZeroP v z :=
  ⟨Nat.lt_of_lt_of_le h.lt k.size, (k.cell h.lt hb).trans h.c0, (k.cell h.lt hb).trans h.c1, (k.cell h.lt hb).trans h.c2, fun o => (k.frozen h.lt hb).trans (h.fr o)⟩
theorem ZeroP.grown {u v : World} {z : Nat} {row : Option Nat} (h : ZeroP u z) (hg : u.grownBy v row) (hr : ∀ k, row = some k → k ≠ z) : ZeroP v z :=
  have hb := hg.block z h.lt (fun e => hr z e.symm rfl)
  ⟨Nat.lt_of_lt_of_le h.lt hg.size, (World.cell?_of_block (a := ⟨z, 0, none⟩) hb).trans h.c0, (World.cell?_of_block (a := ⟨z, 1, none⟩) hb).trans h.c1, (World.cell?_of_block (a := ⟨z, 2, none⟩) hb).trans h.c2, fun o => (World.frozen?_of_block (a := ⟨z, o, none⟩) hb).trans (h.fr o)⟩
theorem ZeroP.drew {u : World} {z : Nat} (h : ZeroP u z) : ZeroP u.drew z := ⟨h.lt, h.c0, h.c1, h.c2, h.fr⟩
theorem ZeroP.alloc {u : World} {z : Nat} (h : ZeroP u z) (o : Obj) : ZeroP (u.alloc o) z := h.below ((Below.refl _ _).alloc (Nat.le_refl _) o)
theorem zero_new (w : World) (T : TypeId) : ZeroP (w.alloc (.cells #[.slice none 0 0, .slice none 0 0, .int .i64 0] T)) w.heap.size :=
  ⟨by simp, by go_simp, by go_simp, by go_simp, fun o => by go_simp⟩
/-- A position of a call's own, of whatever room. -/
def PosQ (n1 n2 : Nat) (pl : Int) (xs ys : List Int) (w : World) (e : Ending) (w' : World) : Prop :=
  ∃ g1 c1 g2 c2, e = .returned (.agg #[.slice (some ⟨g1, 0, none⟩) n1 c1, .slice (some ⟨g2, 0, none⟩) n2 c2, .int .i64 pl]) ∧ PosO w' w.heap.size (some ⟨g1, 0, none⟩) (some ⟨g2, 0, none⟩) g1 g2 n1 n2 xs ys ∧ g1 < w'.heap.size ∧ g2 < w'.heap.size ∧ n1 ≤ c1 ∧ n2 ≤ c2 ∧ Below w.heap.size w w'
set_option maxHeartbeats 2000000 in
theorem toPos_any (p1 p2 : Option Addr) (pn1 pc1 pn2 pc2 : Nat) (pp : Int) (xs ys : List Int) (w : World) (h : PosR w p1 p2 pn1 pn2 xs ys) :
    Calls Try.prog 30 #[.agg #[.slice p1 pn1 pc1, .slice p2 pn2 pc2, .int .i64 pp]] w (PosP pn1 pn2 pp xs ys w) := by
  have H := Lib.hid h
  clear h
  go_enter Try.func30, Try.ntmps30
  go_wp2_with fail
  refine (toRow_any p1 pc1 pn1 xs _ H.out.l1 (((H.out.r1.alloc _).alloc _).alloc _)).mono ?_
  rintro e u ⟨g1, rfl, o1, hl1, b1⟩
  have O1 := Lib.hid o1
  have hs1 := b1.size
  simp at hs1
  have hg1 := o1.new
  simp at hg1
  obtain ⟨k1, f1⟩ := bcell b1
  have x1 := fun o => k1 w.heap.size o (by simp; omega)
  have y1 := fun o => k1 (w.heap.size + 1) o (by simp)
  have z1 := fun o => k1 (w.heap.size + 1 + 1) o (by simp)
  have v1 := fun o => f1 (w.heap.size + 1) o (by simp)
  have r1 := fun o => f1 (w.heap.size + 1 + 1) o (by simp)
  have B1 : Below w.heap.size w u := ((((Below.refl _ _).alloc (Nat.le_refl _) _).alloc (by simp) _).alloc (by simp; omega) _).trans (b1.mono (by simp; omega))
  have HB1 := Lib.hid B1
  clear k1 f1 o1 b1 B1
  go_wp2_with fail
  refine (toRow_any p2 pc2 pn2 ys _ H.out.l2 (H.out.r2.setNew HB1.out (by simp; omega) _)).mono ?_
  rintro e u2 ⟨g2, rfl, o2, hl2, b2⟩
  have O2 := Lib.hid o2
  have hs2 := b2.size
  simp at hs2
  have hg2 := o2.new
  simp at hg2
  have hg1u := (O1.out.setCell (p := ⟨w.heap.size + 1 + 1, 0, none⟩) (by simp; omega) (.slice (some ⟨g1, 0, none⟩) pn1 pn1)).below b2
  have O1' := Lib.hid hg1u
  obtain ⟨k2, f2⟩ := bcell b2
  have x2 := fun o => k2 w.heap.size o (by simp; omega)
  have y2 := fun o => k2 (w.heap.size + 1) o (by simp; omega)
  have z2 := fun o => k2 (w.heap.size + 1 + 1) o (by simp; omega)
  have v2 := fun o => f2 (w.heap.size + 1) o (by simp; omega)
  have r2 := fun o => f2 (w.heap.size + 1 + 1) o (by simp; omega)
  have B2 : Below w.heap.size w u2 := (HB1.out.setCell (p := ⟨w.heap.size + 1 + 1, 0, none⟩) (by simp; omega) _).trans (b2.mono (by simp; omega))
  have HB2 := Lib.hid B2
  clear k2 f2 o2 b2 B2 hg1u
  go_wp2_with fail
  have hn1 : g1 ≠ w.heap.size + 1 := by omega
  have hn2 : g2 ≠ w.heap.size + 1 := by omega
  have hm1 : g1 ≠ w.heap.size + 1 + 1 := by omega
  have hm2 : g2 ≠ w.heap.size + 1 + 1 := by omega
  refine bodyPost_ret (v := .agg #[.slice (some ⟨g1, 0, none⟩) pn1 pn1, .slice (some ⟨g2, 0, none⟩) pn2 pn2, .int .i64 pp]) (by simp [results, Try.results30, go_sem, y2, y1]) rfl ⟨g1, g2, rfl, ⟨?_, ?_, by omega, H.out.l1, H.out.l2⟩, ?_, ?_, ?_⟩
  · exact ((((((O1'.out.setCell hm1 _).setCell hm1 _).setCell hn1 _).setCell hn1 _).setCell hn1 _).lower (by simp; omega))
  · exact ((((((O2.out.setCell hm2 _).setCell hm2 _).setCell hn2 _).setCell hn2 _).setCell hn2 _).lower (by simp; omega))
  · simp; omega
  · simp; omega
  · exact (((((HB2.out.setCell (p := ⟨w.heap.size + 1 + 1, 1, none⟩) (by simp; omega) _).setCell (p := ⟨w.heap.size + 1 + 1, 2, none⟩) (by simp; omega) _).setCell (p := ⟨w.heap.size + 1, 0, none⟩) (by simp) _).setCell (p := ⟨w.heap.size + 1, 1, none⟩) (by simp) _).setCell (p := ⟨w.heap.size + 1, 2, none⟩) (by simp) _)
theorem szN_any (a : Option Addr) (c n : Nat) (left : Int) (hl : 0 ≤ left) (hl2 : left ≤ 1048576) (hn : n ≤ 9223372036854775807) (w : World) :
    Calls Try.prog 60 #[.slice a n c, .int .i64 left] w fun e w' => e = .returned (.int .i64 (if (n : Int) ≤ left then left - n else -1)) ∧ w = w' := by
  by_cases h : (n : Int) ≤ left
  · rw [if_pos h]
    go_enter Try.func60, Try.ntmps60
    go_wp2
    go_ret
    exact ⟨rfl, rfl⟩
  · rw [if_neg h]
    have h' : left - (n : Int) < 0 := by omega
    go_enter Try.func60, Try.ntmps60
    go_wp2
    go_ret
    exact ⟨rfl, rfl⟩
/-- The rest behind a position. -/
def szV (left : Int) (n1 n2 : Nat) : Int := if (n1 : Int) + n2 ≤ left then left - n1 - n2 else -1
theorem szV_yes {left : Int} {n1 n2 : Nat} (h : (n1 : Int) + n2 ≤ left) : szV left n1 n2 = left - n1 - n2 := if_pos h
theorem szV_no {left : Int} {n1 n2 : Nat} (h : ¬ (n1 : Int) + n2 ≤ left) : szV left n1 n2 = -1 := if_neg h
theorem szP_any (p1 p2 : Option Addr) (pn1 pc1 pn2 pc2 : Nat) (pp : Int) (left : Int) (hl : 0 ≤ left) (hl2 : left ≤ 1048576) (hn1 : pn1 ≤ 9223372036854775807) (hn2 : pn2 ≤ 9223372036854775807) (w : World) :
    Calls Try.prog 28 #[.agg #[.slice p1 pn1 pc1, .slice p2 pn2 pc2, .int .i64 pp], .int .i64 left] w fun e w' => e = .returned (.int .i64 (szV left pn1 pn2)) ∧ Below w.heap.size w w' := by
  by_cases h1 : (pn1 : Int) ≤ left
  · have e1 : (if (pn1 : Int) ≤ left then left - pn1 else -1) = left - pn1 := if_pos h1
    by_cases h2 : (pn2 : Int) ≤ left - pn1
    · have e2 : (if (pn2 : Int) ≤ left - pn1 then left - pn1 - pn2 else -1) = left - pn1 - pn2 := if_pos h2
      rw [szV_yes (by omega)]
      have E1 := Lib.hid e1
      have E2 := Lib.hid e2
      clear e1 e2
      go_enter Try.func28, Try.ntmps28
      go_wp2_with fail
      refine (szN_any p1 pc1 pn1 left hl hl2 hn1 _).mono ?_
      rintro e w' ⟨rfl, rfl⟩
      rw [E1.out]
      go_wp2_with fail
      refine (szN_any p2 pc2 pn2 (left - pn1) (by omega) (by omega) hn2 _).mono ?_
      rintro e w' ⟨rfl, rfl⟩
      rw [E2.out]
      go_wp2_with fail
      go_ret
      exact ⟨rfl, (Below.refl _ _).alloc (Nat.le_refl _) _⟩
    · have e2 : (if (pn2 : Int) ≤ left - pn1 then left - pn1 - pn2 else -1) = -1 := if_neg h2
      rw [szV_no (by omega)]
      have E1 := Lib.hid e1
      have E2 := Lib.hid e2
      clear e1 e2
      go_enter Try.func28, Try.ntmps28
      go_wp2_with fail
      refine (szN_any p1 pc1 pn1 left hl hl2 hn1 _).mono ?_
      rintro e w' ⟨rfl, rfl⟩
      rw [E1.out]
      go_wp2_with fail
      refine (szN_any p2 pc2 pn2 (left - pn1) (by omega) (by omega) hn2 _).mono ?_
      rintro e w' ⟨rfl, rfl⟩
      rw [E2.out]
      go_wp2_with fail
      go_ret
      exact ⟨rfl, (Below.refl _ _).alloc (Nat.le_refl _) _⟩
  · have e1 : (if (pn1 : Int) ≤ left then left - pn1 else -1) = -1 := if_neg h1
    rw [szV_no (by omega)]
    have E1 := Lib.hid e1
    clear e1
    go_enter Try.func28, Try.ntmps28
    go_wp2_with fail
    refine (szN_any p1 pc1 pn1 left hl hl2 hn1 _).mono ?_
    rintro e w' ⟨rfl, rfl⟩
    rw [E1.out]
    go_wp2_with fail
    go_ret
    exact ⟨rfl, (Below.refl _ _).alloc (Nat.le_refl _) _⟩

set_option maxHeartbeats 1000000 in
theorem eqP_same (a1 a2 d1 d2 : Option Addr) (n1 n2 c1 c2 e1 e2 : Nat) (pl : Int) (xs ys : List Int) (w : World) (ha : PosR w a1 a2 n1 n2 xs ys) (hd : PosR w d1 d2 n1 n2 xs ys) :
    Calls Try.prog 31 #[.agg #[.slice a1 n1 c1, .slice a2 n2 c2, .int .i64 pl], .agg #[.slice d1 n1 e1, .slice d2 n2 e2, .int .i64 pl]] w fun e w' => e = .returned (.bool true) ∧ Below w.heap.size w w' := by
  have HA := Lib.hid ha
  have HD := Lib.hid hd
  clear ha hd
  go_enter Try.func31, Try.ntmps31
  go_wp2_with fail
  refine (eqN_same a1 d1 c1 e1 n1 xs _ HA.out.l1 ((HA.out.r1.alloc _).alloc _) ((HD.out.r1.alloc _).alloc _)).mono ?_
  rintro e u ⟨rfl, b1⟩
  have hs1 := b1.size
  simp at hs1
  obtain ⟨k1, f1⟩ := bcell b1
  have x1 := fun o => k1 w.heap.size o (by simp; omega)
  have y1 := fun o => k1 (w.heap.size + 1) o (by simp)
  have HA1 := Lib.hid (((HA.out.alloc _).alloc _).below b1)
  have HD1 := Lib.hid (((HD.out.alloc _).alloc _).below b1)
  have HB1 := Lib.hid b1
  clear k1 f1 b1
  go_wp2_with fail
  refine (eqN_same a2 d2 c2 e2 n2 ys _ HA1.out.l2 HA1.out.r2 HD1.out.r2).mono ?_
  rintro e u2 ⟨rfl, b2⟩
  have hs2 := b2.size
  obtain ⟨k2, f2⟩ := bcell b2
  have x2 := fun o => k2 w.heap.size o (by omega)
  have y2 := fun o => k2 (w.heap.size + 1) o (by omega)
  have HB2 := Lib.hid b2
  clear k2 f2 b2
  go_wp2_with fail
  go_ret
  exact ⟨rfl, (((Below.refl _ _).alloc (Nat.le_refl _) _).alloc (by simp) _).trans ((HB1.out.trans (HB2.out.mono (by simp; omega))).mono (by simp; omega))⟩

/-- What writing the marks into a position leaves. -/
def MarkPP (B b1 b2 : Nat) (a1 a2 : Option Addr) (n1 n2 k : Nat) (w : World) (e : Ending) (w' : World) : Prop :=
  e = .returned (.int .i64 ((k + n1 + n2 : Nat) : Int)) ∧ But2 b1 b2 w w' ∧ PosO w' B a1 a2 b1 b2 n1 n2 (marksN k n1) (marksN (k + n1) n2)
set_option maxHeartbeats 1000000 in
theorem markP_any (B b1 b2 : Nat) (a1 a2 : Option Addr) (n1 n2 c1 c2 k : Nat) (pl : Int) (xs ys : List Int) (w : World) (h : PosO w B a1 a2 b1 b2 n1 n2 xs ys) (hB : B ≤ w.heap.size) (hlt : b1 < w.heap.size ∧ b2 < w.heap.size) (hk2 : k ≤ 1000) (hn : n1 ≤ 10000000) :
    Calls Try.prog 33 #[.agg #[.slice a1 n1 c1, .slice a2 n2 c2, .int .i64 pl], .int .i64 k] w (MarkPP B b1 b2 a1 a2 n1 n2 k w) := by
  have H := Lib.hid h
  obtain ⟨hl1, hl2⟩ := hlt
  clear h
  go_enter Try.func33, Try.ntmps33
  go_wp2_with fail
  refine (marksN_any B b1 a1 c1 n1 k xs _ H.out.l1 (H.out.o1.alloc _) (by omega)).mono ?_
  rintro e u ⟨rfl, b1', o1⟩
  have hs1 := b1'.size
  simp at hs1
  have x1 := fun o => b1'.cell (c := w.heap.size) (o := o) (by simp) (by omega)
  have O2 := Lib.hid ((H.out.o2.alloc _).but b1' (by have := H.out.ne; omega))
  have O1 := Lib.hid o1
  have B1 := Lib.hid b1'
  clear o1 b1'
  go_wp2_with fail
  refine (marksN_any B b2 a2 c2 n2 (k + n1) ys _ H.out.l2 O2.out (by omega)).mono ?_
  rintro e u2 ⟨rfl, b2', o2⟩
  have O1' := Lib.hid (O1.out.but b2' H.out.ne)
  have O2' := Lib.hid o2
  have B2 := Lib.hid b2'
  clear b2' o2
  go_wp2_with fail
  go_ret
  exact ⟨rfl, ((But2.of_below ((Below.refl _ _).alloc (Nat.le_refl _) _)).trans (.of_l B1.out)).trans (.of_r B2.out), O1'.out, O2'.out, H.out.ne, marksN_len _ _, marksN_len _ _⟩
theorem heldP_any (a1 a2 : Option Addr) (n1 n2 c1 c2 k : Nat) (pl : Int) (w : World) (h : PosR w a1 a2 n1 n2 (marksN k n1) (marksN (k + n1) n2)) (hk2 : k ≤ 1000) (hn : n1 ≤ 10000000) :
    Calls Try.prog 34 #[.agg #[.slice a1 n1 c1, .slice a2 n2 c2, .int .i64 pl], .int .i64 k] w fun e w' => e = .returned (.int .i64 ((k + n1 + n2 : Nat) : Int)) ∧ Below w.heap.size w w' := by
  have H := Lib.hid h
  have hl2 : n2 ≤ 1000000000000 := by have := h.r2.1; rwa [marksN_len] at this
  clear h
  go_enter Try.func34, Try.ntmps34
  go_wp2_with fail
  refine (heldN_any a1 c1 n1 k _ (H.out.r1.alloc _) (by omega)).mono ?_
  rintro e u ⟨rfl, b1⟩
  have hs1 := b1.size
  simp at hs1
  have x1 := fun o => (bcell b1).1 w.heap.size o (by simp)
  have R2 := Lib.hid ((H.out.r2.alloc _).below b1)
  have B1 := Lib.hid b1
  have q0 : (0 : Int) ≤ ((k + n1 : Nat) : Int) := by omega
  clear b1
  go_wp2_with fail
  refine (heldN_any a2 c2 n2 (k + n1) _ R2.out (by omega)).mono ?_
  rintro e u2 ⟨rfl, b2⟩
  have B2 := Lib.hid b2
  have q1 : (0 : Int) ≤ ((k + n1 + n2 : Nat) : Int) := by omega
  clear b2
  go_wp2_with fail
  go_ret
  exact ⟨rfl, ((Below.refl _ _).alloc (Nat.le_refl _) _).trans ((B1.out.mono (by simp)).trans (B2.out.mono (by omega)))⟩
end Go.Proofs.Ythbgfkklejnhiaa
