/- Positions in memory, and what the laws' own functions on them do. No conditions. -/
import Derived.Test.YtmoilphgibigkaaDoorRowN
namespace Go.Proofs.YtmoilphgibigkaaDoor
open Go.Joins Go.ChangeShapes Go.WideShapes Go.ChangeAt Go.RowKit Go.Deep
set_option linter.unusedVariables false

/-- The rows of a position: pits xs and stores ys. -/
structure PosR (w : World) (a1 a2 : Option Addr) (n1 n2 : Nat) (xs ys : List Int) : Prop where
  r1 : RowN w a1 xs
  r2 : RowN w a2 ys
  l1 : xs.length = n1
  l2 : ys.length = n2
theorem PosR.below {w w' : World} {a1 a2 : Option Addr} {n1 n2 : Nat} {xs ys : List Int} (h : PosR w a1 a2 n1 n2 xs ys) (k : Below w.heap.size w w') : PosR w' a1 a2 n1 n2 xs ys :=
  ⟨h.r1.below k, h.r2.below k, h.l1, h.l2⟩
theorem PosR.alloc {w : World} {a1 a2 : Option Addr} {n1 n2 : Nat} {xs ys : List Int} (h : PosR w a1 a2 n1 n2 xs ys) (o : Obj) : PosR (w.alloc o) a1 a2 n1 n2 xs ys := ⟨h.r1.alloc o, h.r2.alloc o, h.l1, h.l2⟩
theorem PosR.drewN {w : World} {a1 a2 : Option Addr} {n1 n2 : Nat} {xs ys : List Int} (h : PosR w a1 a2 n1 n2 xs ys) (q : Nat) : PosR (w.drewN q) a1 a2 n1 n2 xs ys := ⟨h.r1.drewN q, h.r2.drewN q, h.l1, h.l2⟩
theorem PosR.but {w w' : World} {a1 a2 : Option Addr} {n1 n2 : Nat} {xs ys : List Int} {b : Nat} (h : PosR w a1 a2 n1 n2 xs ys) (k : But b w w') (h1 : ∀ g o, a1 = some ⟨g, o, none⟩ → g ≠ b) (h2 : ∀ g o, a2 = some ⟨g, o, none⟩ → g ≠ b) : PosR w' a1 a2 n1 n2 xs ys :=
  ⟨h.r1.but k h1, h.r2.but k h2, h.l1, h.l2⟩
theorem PosR.but2 {w w' : World} {a1 a2 : Option Addr} {n1 n2 : Nat} {xs ys : List Int} {b c : Nat} (h : PosR w a1 a2 n1 n2 xs ys) (k : But2 b c w w') (h1 : ∀ g o, a1 = some ⟨g, o, none⟩ → g ≠ b ∧ g ≠ c) (h2 : ∀ g o, a2 = some ⟨g, o, none⟩ → g ≠ b ∧ g ≠ c) : PosR w' a1 a2 n1 n2 xs ys :=
  ⟨h.r1.but2 k h1, h.r2.but2 k h2, h.l1, h.l2⟩
/-- A position in two blocks of its own, not below B. -/
structure PosO (w : World) (B : Nat) (a1 a2 : Option Addr) (b1 b2 n1 n2 : Nat) (xs ys : List Int) : Prop where
  o1 : OutN w B a1 b1 xs
  o2 : OutN w B a2 b2 ys
  ne : b1 ≠ b2
  l1 : xs.length = n1
  l2 : ys.length = n2
section
variable {w w' : World} {B b1 b2 n1 n2 : Nat} {a1 a2 : Option Addr} {xs ys : List Int}
theorem PosO.r (h : PosO w B a1 a2 b1 b2 n1 n2 xs ys) : PosR w a1 a2 n1 n2 xs ys := ⟨h.o1.row, h.o2.row, h.l1, h.l2⟩
theorem PosO.below (h : PosO w B a1 a2 b1 b2 n1 n2 xs ys) (k : Below w.heap.size w w') : PosO w' B a1 a2 b1 b2 n1 n2 xs ys := ⟨h.o1.below k, h.o2.below k, h.ne, h.l1, h.l2⟩
theorem PosO.but {c : Nat} (h : PosO w B a1 a2 b1 b2 n1 n2 xs ys) (k : But c w w') (h1 : b1 ≠ c) (h2 : b2 ≠ c) : PosO w' B a1 a2 b1 b2 n1 n2 xs ys := ⟨h.o1.but k h1, h.o2.but k h2, h.ne, h.l1, h.l2⟩
theorem PosO.but2 {c d : Nat} (h : PosO w B a1 a2 b1 b2 n1 n2 xs ys) (k : But2 c d w w') (h1 : b1 ≠ c) (h2 : b2 ≠ c) (h3 : b1 ≠ d) (h4 : b2 ≠ d) : PosO w' B a1 a2 b1 b2 n1 n2 xs ys := ⟨h.o1.but2 k h1 h3, h.o2.but2 k h2 h4, h.ne, h.l1, h.l2⟩
theorem PosO.lower {C : Nat} (h : PosO w B a1 a2 b1 b2 n1 n2 xs ys) (hc : C ≤ B) : PosO w C a1 a2 b1 b2 n1 n2 xs ys := ⟨h.o1.lower hc, h.o2.lower hc, h.ne, h.l1, h.l2⟩
theorem PosO.drewN (h : PosO w B a1 a2 b1 b2 n1 n2 xs ys) (q : Nat) : PosO (w.drewN q) B a1 a2 b1 b2 n1 n2 xs ys := ⟨h.o1.drewN q, h.o2.drewN q, h.ne, h.l1, h.l2⟩
end

/-- A position of a call's own. -/
def PosP (n1 n2 : Nat) (pl : Int) (xs ys : List Int) (w : World) (e : Ending) (w' : World) : Prop :=
  ∃ g1 g2, e = .returned (.agg #[.slice (some ⟨g1, 0, none⟩) n1 n1, .slice (some ⟨g2, 0, none⟩) n2 n2, .int .i64 pl]) ∧ PosO w' w.heap.size (some ⟨g1, 0, none⟩) (some ⟨g2, 0, none⟩) g1 g2 n1 n2 xs ys ∧ g1 < w'.heap.size ∧ g2 < w'.heap.size ∧ Below w.heap.size w w'

theorem set3 {w u : World} (h : Below w.heap.size w u) (x y z : Value) : Below w.heap.size w (((u.setCell ⟨w.heap.size, 0, none⟩ x).setCell ⟨w.heap.size, 1, none⟩ y).setCell ⟨w.heap.size, 2, none⟩ z) :=
  ((h.setCell (p := ⟨w.heap.size, 0, none⟩) (Nat.le_refl _) _).setCell (p := ⟨w.heap.size, 1, none⟩) (Nat.le_refl _) _).setCell (p := ⟨w.heap.size, 2, none⟩) (Nat.le_refl _) _
/-- A variable for a position, as it is made. -/
structure ZeroP (u : World) (z : Nat) : Prop where
  lt : z < u.heap.size
  c0 : u.cell? ⟨z, 0, none⟩ = some (.slice none 0 0)
  c1 : u.cell? ⟨z, 1, none⟩ = some (.slice none 0 0)
  c2 : u.cell? ⟨z, 2, none⟩ = some (.int .i64 0)
  fr : ∀ o, u.frozen? ⟨z, o, none⟩ = false
theorem ZeroP.below {u v : World} {z : Nat} (h : ZeroP u z) (k : Below u.heap.size u v) : ZeroP v z :=
  ⟨Nat.lt_of_lt_of_le h.lt k.size, (k.cell (p := ⟨z, 0, none⟩) h.lt).trans h.c0, (k.cell (p := ⟨z, 1, none⟩) h.lt).trans h.c1, (k.cell (p := ⟨z, 2, none⟩) h.lt).trans h.c2, fun o => (k.frozen (p := ⟨z, o, none⟩) h.lt).trans (h.fr o)⟩
theorem ZeroP.but {u v : World} {z b : Nat} (h : ZeroP u z) (k : But b u v) (hb : z ≠ b) : ZeroP v z :=
  ⟨Nat.lt_of_lt_of_le h.lt k.size, (k.cell h.lt hb).trans h.c0, (k.cell h.lt hb).trans h.c1, (k.cell h.lt hb).trans h.c2, fun o => (k.frozen h.lt hb).trans (h.fr o)⟩
theorem ZeroP.grown {u v : World} {z : Nat} {row : Option Nat} (h : ZeroP u z) (hg : u.grownBy v row) (hr : ∀ k, row = some k → k ≠ z) : ZeroP v z :=
  have hb := hg.block z h.lt (fun e => hr z e.symm rfl)
  ⟨Nat.lt_of_lt_of_le h.lt hg.size, (World.cell?_of_block (a := ⟨z, 0, none⟩) hb).trans h.c0, (World.cell?_of_block (a := ⟨z, 1, none⟩) hb).trans h.c1, (World.cell?_of_block (a := ⟨z, 2, none⟩) hb).trans h.c2, fun o => (World.frozen?_of_block (a := ⟨z, o, none⟩) hb).trans (h.fr o)⟩
theorem ZeroP.drew {u : World} {z : Nat} (h : ZeroP u z) : ZeroP u.drew z := ⟨h.lt, h.c0, h.c1, h.c2, h.fr⟩
theorem ZeroP.alloc {u : World} {z : Nat} (h : ZeroP u z) (o : Obj) : ZeroP (u.alloc o) z := h.below ((Below.refl _ _).alloc (Nat.le_refl _) o)
theorem zero_new (w : World) (T : TypeId) : ZeroP (w.alloc (.cells #[.slice none 0 0, .slice none 0 0, .int .i64 0] T)) w.heap.size :=
  ⟨by simp, by go_simp, by go_simp, by go_simp, fun o => by go_simp⟩
/-- A position of a call's own, of whatever room. -/
def PosQ (n1 n2 : Nat) (pl : Int) (xs ys : List Int) (w : World) (e : Ending) (w' : World) : Prop :=
  ∃ g1 c1 g2 c2, e = .returned (.agg #[.slice (some ⟨g1, 0, none⟩) n1 c1, .slice (some ⟨g2, 0, none⟩) n2 c2, .int .i64 pl]) ∧ PosO w' w.heap.size (some ⟨g1, 0, none⟩) (some ⟨g2, 0, none⟩) g1 g2 n1 n2 xs ys ∧ g1 < w'.heap.size ∧ g2 < w'.heap.size ∧ n1 ≤ c1 ∧ n2 ≤ c2 ∧ Below w.heap.size w w'
end Go.Proofs.YtmoilphgibigkaaDoor
