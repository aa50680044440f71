/- A world that is another but for new blocks and one block. No conditions. -/
import Derived.Test.YtkfflhhnaohhaaaOpen
namespace Go.Proofs.Ytkfflhhnaohhaaa
open Go.Joins Go.ChangeShapes Go.WideShapes Go.ChangeAt Go.RowKit Go.Deep
set_option linter.unusedVariables false

/-- w' is w but for new blocks and for block b. -/
structure But (b : Nat) (w w' : World) : Prop where
  os : w'.os = w.os
  tape : w'.tape = w.tape
  output : w'.output = w.output
  size : w.heap.size ≤ w'.heap.size
  block : ∀ k, k < w.heap.size → k ≠ b → w'.heap[k]? = w.heap[k]?
theorem But.refl (b : Nat) (w : World) : But b w w := ⟨rfl, rfl, rfl, Nat.le_refl _, fun _ _ _ => rfl⟩
theorem But.trans {b : Nat} {w u v : World} (h : But b w u) (k : But b u v) : But b w v :=
  ⟨k.os.trans h.os, k.tape.trans h.tape, k.output.trans h.output, Nat.le_trans h.size k.size, fun i hi hb => (k.block i (Nat.lt_of_lt_of_le hi h.size) hb).trans (h.block i hi hb)⟩
theorem But.of_below {b : Nat} {w w' : World} (h : Below w.heap.size w w') : But b w w' := ⟨h.os, h.tape, h.output, h.size, fun k hk _ => h.block k hk⟩
theorem But.drew {b : Nat} {w u : World} (h : But b w u) : But b w u.drew := ⟨h.os, h.tape, h.output, h.size, h.block⟩
theorem But.drewN {b : Nat} {w u : World} (n : Nat) (h : But b w u) : But b w (u.drewN n) := by
  unfold World.drewN
  exact ⟨h.os, h.tape, h.output, h.size, h.block⟩
theorem But.alloc {b : Nat} {w u : World} (h : But b w u) (o : Obj) : But b w (u.alloc o) :=
  h.trans (But.of_below ((Below.refl _ _).alloc (Nat.le_refl _) o))
theorem But.setCell {b : Nat} {w u : World} (h : But b w u) {p : Addr} (hp : p.block = b) (x : Value) : But b w (u.setCell p x) :=
  h.trans ⟨rfl, rfl, rfl, by simp, fun k hk hb => Below.heap_setCell u p x k (by rw [hp]; exact hb)⟩
theorem But.below {B b : Nat} {a w w' : World} (h : Below B a w) (k : But b w w') (hb : B ≤ b) (hw : B ≤ w.heap.size) : Below B a w' :=
  ⟨k.os.trans h.os, k.tape.trans h.tape, k.output.trans h.output, Nat.le_trans h.size k.size, fun i hi => (k.block i (Nat.lt_of_lt_of_le hi hw) (by omega)).trans (h.block i hi)⟩
theorem But.cell {b : Nat} {w w' : World} (h : But b w w') {c o : Nat} (hc : c < w.heap.size) (hb : c ≠ b) : w'.cell? ⟨c, o, none⟩ = w.cell? ⟨c, o, none⟩ := World.cell?_of_block (w := w) (h.block c hc hb)
theorem But.frozen {b : Nat} {w w' : World} (h : But b w w') {c o : Nat} (hc : c < w.heap.size) (hb : c ≠ b) : w'.frozen? ⟨c, o, none⟩ = w.frozen? ⟨c, o, none⟩ := World.frozen?_of_block (w := w) (h.block c hc hb)

/-- A draw changes nothing below. -/
theorem below_dn {B : Nat} {a w : World} (h : Below B a w) (q : Nat) : Below B a (w.drewN q) := ⟨h.os, h.tape, h.output, h.size, h.block⟩
theorem But.lift {b : Nat} {a w w' : World} (h : Below a.heap.size a w) (k : But b w w') (hb : a.heap.size ≤ b) : Below a.heap.size a w' := But.below h k hb h.size
/-- w' is w but for new blocks and for blocks b and c. -/
structure But2 (b c : Nat) (w w' : World) : Prop where
  os : w'.os = w.os
  tape : w'.tape = w.tape
  output : w'.output = w.output
  size : w.heap.size ≤ w'.heap.size
  block : ∀ k, k < w.heap.size → k ≠ b → k ≠ c → w'.heap[k]? = w.heap[k]?
section
variable {b c : Nat} {w u v : World}
theorem But2.of_l (h : But b w u) : But2 b c w u := ⟨h.os, h.tape, h.output, h.size, fun k hk hb _ => h.block k hk hb⟩
theorem But2.of_r (h : But c w u) : But2 b c w u := ⟨h.os, h.tape, h.output, h.size, fun k hk _ hc => h.block k hk hc⟩
theorem But2.of_below (h : Below w.heap.size w u) : But2 b c w u := ⟨h.os, h.tape, h.output, h.size, fun k hk _ _ => h.block k hk⟩
theorem But2.trans (h : But2 b c w u) (k : But2 b c u v) : But2 b c w v :=
  ⟨k.os.trans h.os, k.tape.trans h.tape, k.output.trans h.output, Nat.le_trans h.size k.size, fun i hi hb hc => (k.block i (Nat.lt_of_lt_of_le hi h.size) hb hc).trans (h.block i hi hb hc)⟩
theorem But2.below {B : Nat} {a : World} (h : Below B a w) (k : But2 b c w u) (hb : B ≤ b) (hc : B ≤ c) (hw : B ≤ w.heap.size) : Below B a u :=
  ⟨k.os.trans h.os, k.tape.trans h.tape, k.output.trans h.output, Nat.le_trans h.size k.size, fun i hi => (k.block i (Nat.lt_of_lt_of_le hi hw) (by omega) (by omega)).trans (h.block i hi)⟩
theorem But2.cell (h : But2 b c w u) {d o : Nat} (hd : d < w.heap.size) (hb : d ≠ b) (hc : d ≠ c) : u.cell? ⟨d, o, none⟩ = w.cell? ⟨d, o, none⟩ := World.cell?_of_block (w := w) (h.block d hd hb hc)
theorem But2.frozen (h : But2 b c w u) {d o : Nat} (hd : d < w.heap.size) (hb : d ≠ b) (hc : d ≠ c) : u.frozen? ⟨d, o, none⟩ = w.frozen? ⟨d, o, none⟩ := World.frozen?_of_block (w := w) (h.block d hd hb hc)
end
/-- A value; nothing but draws. -/
def Still (v : Value) (w : World) (e : Ending) (w' : World) : Prop := e = .returned v ∧ ∃ m, w' = w.drewN m
end Go.Proofs.Ytkfflhhnaohhaaa
