/- A move while its seeds are sown, in memory: what take, put and isEndless do. No conditions. -/
import Derived.Test.YtmngmbpdiaocjaaSownAt
import Derived.Test.YtmngmbpdiaocjaaRng5
import Derived.Deep.DeepCutAuto
namespace Go.Proofs.Ytmngmbpdiaocjaa
open Go.Joins Go.ChangeShapes Go.WideShapes Go.ChangeAt Go.RowKit Go.Deep
set_option linter.unusedVariables false

/-- What stays while a move is sown: rules, player, first pit, and where things lie. -/
structure Cfg where
  p : Int
  s : Int
  c : Int
  l : Int
  st : Bool
  sk : Bool
  re : Bool
  fe : Bool
  ag : Bool
  pl : Int
  fi : Int
  B : Nat
  b : Nat
  g1 : Nat
  c1 : Nat
  g2 : Nat
  c2 : Nat
  n1 : Nat
/-- The move's struct at K.b: ha seeds in the hand, the last place la, lp laps, pits xs, stores ys. -/
structure SwS (W : World) (K : Cfg) (ha la lp : Int) (xs ys : List Int) : Prop where
  lt : K.b < W.heap.size
  q0 : W.cell? ⟨K.b, 0, none⟩ = some (.int .i64 K.p)
  q1 : W.cell? ⟨K.b, 1, none⟩ = some (.int .i64 K.s)
  q2 : W.cell? ⟨K.b, 2, none⟩ = some (.bool K.st)
  q3 : W.cell? ⟨K.b, 3, none⟩ = some (.bool K.sk)
  q4 : W.cell? ⟨K.b, 4, none⟩ = some (.bool K.re)
  q5 : W.cell? ⟨K.b, 5, none⟩ = some (.bool K.fe)
  q6 : W.cell? ⟨K.b, 6, none⟩ = some (.bool K.ag)
  q7 : W.cell? ⟨K.b, 7, none⟩ = some (.int .i64 K.c)
  q8 : W.cell? ⟨K.b, 8, none⟩ = some (.int .i64 K.l)
  q9 : W.cell? ⟨K.b, 9, none⟩ = some (.int .i64 K.pl)
  q10 : W.cell? ⟨K.b, 10, none⟩ = some (.int .i64 K.fi)
  q11 : W.cell? ⟨K.b, 11, none⟩ = some (.int .i64 ha)
  q12 : W.cell? ⟨K.b, 12, none⟩ = some (.slice (some ⟨K.g1, 0, none⟩) K.n1 K.c1)
  q13 : W.cell? ⟨K.b, 13, none⟩ = some (.slice (some ⟨K.g2, 0, none⟩) 2 K.c2)
  q14 : W.cell? ⟨K.b, 14, none⟩ = some (.int .i64 la)
  q15 : W.cell? ⟨K.b, 15, none⟩ = some (.int .i64 lp)
  fr : ∀ o, W.frozen? ⟨K.b, o, none⟩ = false
  o1 : OutN W K.B (some ⟨K.g1, 0, none⟩) K.g1 xs
  o2 : OutN W K.B (some ⟨K.g2, 0, none⟩) K.g2 ys
  l1 : xs.length = K.n1
  l2 : ys.length = 2
  d1 : K.b ≠ K.g1
  d2 : K.b ≠ K.g2
  d3 : K.g1 ≠ K.g2
  h1 : K.g1 < W.heap.size
  h2 : K.g2 < W.heap.size
theorem OutN.keep {W Z : World} {B b : Nat} {a : Option Addr} {xs : List Int} (h : OutN W B a b xs) (k : Z.heap[b]? = W.heap[b]?) (hs : W.heap.size ≤ Z.heap.size) : OutN Z B a b xs := by
  have ec : ∀ o, Z.cell? ⟨b, o, none⟩ = W.cell? ⟨b, o, none⟩ := fun o => World.cell?_of_block (a := ⟨b, o, none⟩) k
  refine ⟨⟨h.row.1, ?_⟩, h.at_b, h.new, fun hn => ⟨Nat.lt_of_lt_of_le (h.free hn).1 hs, fun o => (World.frozen?_of_block (a := ⟨b, o, none⟩) k).trans ((h.free hn).2 o)⟩⟩
  rcases h.row.2 with h0 | ⟨g, o, ha, hg, hx⟩
  · exact .inl h0
  · obtain rfl := h.at_b g o ha
    exact .inr ⟨g, o, ha, Nat.lt_of_lt_of_le hg hs, fun i x hi => (ec _).trans (hx i x hi)⟩
section
variable {W Z : World} {K : Cfg} {ha la lp : Int} {xs ys : List Int} {i : Nat}
/-- What leaves the struct and its rows alone. -/
theorem SwS.keep (h : SwS W K ha la lp xs ys) (k0 : Z.heap[K.b]? = W.heap[K.b]?) (k1 : Z.heap[K.g1]? = W.heap[K.g1]?) (k2 : Z.heap[K.g2]? = W.heap[K.g2]?) (hs : W.heap.size ≤ Z.heap.size) : SwS Z K ha la lp xs ys := by
  have ec : ∀ o, Z.cell? ⟨K.b, o, none⟩ = W.cell? ⟨K.b, o, none⟩ := fun o => World.cell?_of_block (a := ⟨K.b, o, none⟩) k0
  exact ⟨Nat.lt_of_lt_of_le h.lt hs, (ec 0).trans h.q0, (ec 1).trans h.q1, (ec 2).trans h.q2, (ec 3).trans h.q3, (ec 4).trans h.q4, (ec 5).trans h.q5, (ec 6).trans h.q6, (ec 7).trans h.q7, (ec 8).trans h.q8, (ec 9).trans h.q9, (ec 10).trans h.q10, (ec 11).trans h.q11, (ec 12).trans h.q12, (ec 13).trans h.q13, (ec 14).trans h.q14, (ec 15).trans h.q15,
    fun o => (World.frozen?_of_block (a := ⟨K.b, o, none⟩) k0).trans (h.fr o), h.o1.keep k1 hs, h.o2.keep k2 hs, h.l1, h.l2, h.d1, h.d2, h.d3, Nat.lt_of_lt_of_le h.h1 hs, Nat.lt_of_lt_of_le h.h2 hs⟩
theorem SwS.below (h : SwS W K ha la lp xs ys) (k : Below W.heap.size W Z) : SwS Z K ha la lp xs ys :=
  h.keep (k.block _ h.lt) (k.block _ h.h1) (k.block _ h.h2) k.size
theorem SwS.isCells (h : SwS W K ha la lp xs ys) : ∀ r o, (r = K.b ∨ r = K.g1 ∨ r = K.g2) → 1 ≤ K.n1 → W.heap[r]? = some o → o.isCells = true := by
  intro r o hr hn ho
  have key : ∀ (q : Nat) v, W.cell? ⟨r, q, none⟩ = some v → o.isCells = true := fun q v hc => by
    unfold World.cell? at hc
    rw [ho] at hc
    cases o <;> simp_all [Obj.isCells]
  rcases hr with rfl | rfl | rfl
  · exact key 0 _ h.q0
  · exact key 0 _ (h.o1.at0 (by rw [h.l1]; omega))
  · exact key 0 _ (h.o2.at0 (by rw [h.l2]; omega))
theorem SwS.putObj (h : SwS W K ha la lp xs ys) (hn : 1 ≤ K.n1) {r : Nat} {o : Obj} (hr : W.heap[r]? = some o) (ho : o.isCells = false) (o' : Obj) : SwS (W.putObj r o') K ha la lp xs ys := by
  have ne : ∀ k, (k = K.b ∨ k = K.g1 ∨ k = K.g2) → k ≠ r := fun k hk e => by
    subst e
    have := h.isCells k o hk hn hr
    rw [ho] at this
    cases this
  exact h.keep (World.putObj_heap_other (ne _ (.inl rfl))) (World.putObj_heap_other (ne _ (.inr (.inl rfl)))) (World.putObj_heap_other (ne _ (.inr (.inr rfl)))) (by simp)
theorem SwS.x (h : SwS W K ha la lp xs ys) (hi : i < K.n1) : W.cell? ⟨K.g1, i, none⟩ = some (.int .i64 (xs.getD i 0)) ∧ W.frozen? ⟨K.g1, i, none⟩ = false := by
  have hne : xs ≠ [] := by intro e; have := h.l1; subst e; simp at this; omega
  exact ⟨h.o1.at0 (by rw [h.l1]; exact hi), (h.o1.free hne).2 _⟩
theorem SwS.y (h : SwS W K ha la lp xs ys) (hi : i < 2) : W.cell? ⟨K.g2, i, none⟩ = some (.int .i64 (ys.getD i 0)) ∧ W.frozen? ⟨K.g2, i, none⟩ = false := by
  have hne : ys ≠ [] := by intro e; have := h.l2; subst e; simp at this
  exact ⟨h.o2.at0 (by rw [h.l2]; exact hi), (h.o2.free hne).2 _⟩
theorem SwS.setX (h : SwS W K ha la lp xs ys) (hi : i < K.n1) (v : Int) : SwS (W.setCell ⟨K.g1, i, none⟩ (.int .i64 v)) K ha la lp (xs.set i v) ys := by
  have k0 : (W.setCell ⟨K.g1, i, none⟩ (.int .i64 v)).heap[K.b]? = W.heap[K.b]? := Below.heap_setCell W ⟨K.g1, i, none⟩ _ K.b h.d1
  have k2 : (W.setCell ⟨K.g1, i, none⟩ (.int .i64 v)).heap[K.g2]? = W.heap[K.g2]? := Below.heap_setCell W ⟨K.g1, i, none⟩ _ K.g2 (fun e => h.d3 e.symm)
  have hs : W.heap.size ≤ (W.setCell ⟨K.g1, i, none⟩ (.int .i64 v)).heap.size := by simp
  have ec : ∀ o, (W.setCell ⟨K.g1, i, none⟩ (.int .i64 v)).cell? ⟨K.b, o, none⟩ = W.cell? ⟨K.b, o, none⟩ := fun o => World.cell?_of_block (a := ⟨K.b, o, none⟩) k0
  exact ⟨Nat.lt_of_lt_of_le h.lt hs, (ec 0).trans h.q0, (ec 1).trans h.q1, (ec 2).trans h.q2, (ec 3).trans h.q3, (ec 4).trans h.q4, (ec 5).trans h.q5, (ec 6).trans h.q6, (ec 7).trans h.q7, (ec 8).trans h.q8, (ec 9).trans h.q9, (ec 10).trans h.q10, (ec 11).trans h.q11, (ec 12).trans h.q12, (ec 13).trans h.q13, (ec 14).trans h.q14, (ec 15).trans h.q15,
    fun o => (World.frozen?_of_block (a := ⟨K.b, o, none⟩) k0).trans (h.fr o), h.o1.set (by rw [h.l1]; exact hi) v, h.o2.keep k2 hs, by rw [List.length_set]; exact h.l1, h.l2, h.d1, h.d2, h.d3, Nat.lt_of_lt_of_le h.h1 hs, Nat.lt_of_lt_of_le h.h2 hs⟩
theorem SwS.setY (h : SwS W K ha la lp xs ys) (hi : i < 2) (v : Int) : SwS (W.setCell ⟨K.g2, i, none⟩ (.int .i64 v)) K ha la lp xs (ys.set i v) := by
  have k0 : (W.setCell ⟨K.g2, i, none⟩ (.int .i64 v)).heap[K.b]? = W.heap[K.b]? := Below.heap_setCell W ⟨K.g2, i, none⟩ _ K.b h.d2
  have k1 : (W.setCell ⟨K.g2, i, none⟩ (.int .i64 v)).heap[K.g1]? = W.heap[K.g1]? := Below.heap_setCell W ⟨K.g2, i, none⟩ _ K.g1 h.d3
  have hs : W.heap.size ≤ (W.setCell ⟨K.g2, i, none⟩ (.int .i64 v)).heap.size := by simp
  have ec : ∀ o, (W.setCell ⟨K.g2, i, none⟩ (.int .i64 v)).cell? ⟨K.b, o, none⟩ = W.cell? ⟨K.b, o, none⟩ := fun o => World.cell?_of_block (a := ⟨K.b, o, none⟩) k0
  exact ⟨Nat.lt_of_lt_of_le h.lt hs, (ec 0).trans h.q0, (ec 1).trans h.q1, (ec 2).trans h.q2, (ec 3).trans h.q3, (ec 4).trans h.q4, (ec 5).trans h.q5, (ec 6).trans h.q6, (ec 7).trans h.q7, (ec 8).trans h.q8, (ec 9).trans h.q9, (ec 10).trans h.q10, (ec 11).trans h.q11, (ec 12).trans h.q12, (ec 13).trans h.q13, (ec 14).trans h.q14, (ec 15).trans h.q15,
    fun o => (World.frozen?_of_block (a := ⟨K.b, o, none⟩) k0).trans (h.fr o), h.o1.keep k1 hs, h.o2.set (by rw [h.l2]; exact hi) v, h.l1, by rw [List.length_set]; exact h.l2, h.d1, h.d2, h.d3, Nat.lt_of_lt_of_le h.h1 hs, Nat.lt_of_lt_of_le h.h2 hs⟩
theorem SwS.setHand (h : SwS W K ha la lp xs ys) (v : Int) : SwS (W.setCell ⟨K.b, 11, none⟩ (.int .i64 v)) K v la lp xs ys := by
  have k1 : (W.setCell ⟨K.b, 11, none⟩ (.int .i64 v)).heap[K.g1]? = W.heap[K.g1]? := Below.heap_setCell W ⟨K.b, 11, none⟩ _ K.g1 (fun e => h.d1 e.symm)
  have k2 : (W.setCell ⟨K.b, 11, none⟩ (.int .i64 v)).heap[K.g2]? = W.heap[K.g2]? := Below.heap_setCell W ⟨K.b, 11, none⟩ _ K.g2 (fun e => h.d2 e.symm)
  have hs : W.heap.size ≤ (W.setCell ⟨K.b, 11, none⟩ (.int .i64 v)).heap.size := by simp
  obtain ⟨hlt, q0, q1, q2, q3, q4, q5, q6, q7, q8, q9, q10, q11, q12, q13, q14, q15, fr, o1, o2, l1, l2, d1, d2, d3, h1, h2⟩ := h
  exact ⟨by simpa using hlt, by go_simp, by go_simp, by go_simp, by go_simp, by go_simp, by go_simp, by go_simp, by go_simp, by go_simp, by go_simp, by go_simp, by go_simp, by go_simp, by go_simp, by go_simp, by go_simp,
    fun o => by have := fr o; go_simp, o1.keep k1 hs, o2.keep k2 hs, l1, l2, d1, d2, d3, Nat.lt_of_lt_of_le h1 hs, Nat.lt_of_lt_of_le h2 hs⟩
theorem SwS.setLast (h : SwS W K ha la lp xs ys) (v : Int) : SwS (W.setCell ⟨K.b, 14, none⟩ (.int .i64 v)) K ha v lp xs ys := by
  have k1 : (W.setCell ⟨K.b, 14, none⟩ (.int .i64 v)).heap[K.g1]? = W.heap[K.g1]? := Below.heap_setCell W ⟨K.b, 14, none⟩ _ K.g1 (fun e => h.d1 e.symm)
  have k2 : (W.setCell ⟨K.b, 14, none⟩ (.int .i64 v)).heap[K.g2]? = W.heap[K.g2]? := Below.heap_setCell W ⟨K.b, 14, none⟩ _ K.g2 (fun e => h.d2 e.symm)
  have hs : W.heap.size ≤ (W.setCell ⟨K.b, 14, none⟩ (.int .i64 v)).heap.size := by simp
  obtain ⟨hlt, q0, q1, q2, q3, q4, q5, q6, q7, q8, q9, q10, q11, q12, q13, q14, q15, fr, o1, o2, l1, l2, d1, d2, d3, h1, h2⟩ := h
  exact ⟨by simpa using hlt, by go_simp, by go_simp, by go_simp, by go_simp, by go_simp, by go_simp, by go_simp, by go_simp, by go_simp, by go_simp, by go_simp, by go_simp, by go_simp, by go_simp, by go_simp, by go_simp,
    fun o => by have := fr o; go_simp, o1.keep k1 hs, o2.keep k2 hs, l1, l2, d1, d2, d3, Nat.lt_of_lt_of_le h1 hs, Nat.lt_of_lt_of_le h2 hs⟩
theorem SwS.setLaps (h : SwS W K ha la lp xs ys) (v : Int) : SwS (W.setCell ⟨K.b, 15, none⟩ (.int .i64 v)) K ha la v xs ys := by
  have k1 : (W.setCell ⟨K.b, 15, none⟩ (.int .i64 v)).heap[K.g1]? = W.heap[K.g1]? := Below.heap_setCell W ⟨K.b, 15, none⟩ _ K.g1 (fun e => h.d1 e.symm)
  have k2 : (W.setCell ⟨K.b, 15, none⟩ (.int .i64 v)).heap[K.g2]? = W.heap[K.g2]? := Below.heap_setCell W ⟨K.b, 15, none⟩ _ K.g2 (fun e => h.d2 e.symm)
  have hs : W.heap.size ≤ (W.setCell ⟨K.b, 15, none⟩ (.int .i64 v)).heap.size := by simp
  obtain ⟨hlt, q0, q1, q2, q3, q4, q5, q6, q7, q8, q9, q10, q11, q12, q13, q14, q15, fr, o1, o2, l1, l2, d1, d2, d3, h1, h2⟩ := h
  exact ⟨by simpa using hlt, by go_simp, by go_simp, by go_simp, by go_simp, by go_simp, by go_simp, by go_simp, by go_simp, by go_simp, by go_simp, by go_simp, by go_simp, by go_simp, by go_simp, by go_simp, by go_simp,
    fun o => by have := fr o; go_simp, o1.keep k1 hs, o2.keep k2 hs, l1, l2, d1, d2, d3, Nat.lt_of_lt_of_le h1 hs, Nat.lt_of_lt_of_le h2 hs⟩
end
/-- From W to Z only the struct and its rows have turned, and new blocks have come. -/
structure Ch (K : Cfg) (W Z : World) : Prop where
  os : Z.os = W.os
  tape : Z.tape = W.tape
  output : Z.output = W.output
  size : W.heap.size ≤ Z.heap.size
  keep : ∀ k, k < W.heap.size → k ≠ K.b → k ≠ K.g1 → k ≠ K.g2 → Z.heap[k]? = W.heap[k]?
theorem Ch.refl (K : Cfg) (W : World) : Ch K W W := ⟨rfl, rfl, rfl, Nat.le_refl _, fun _ _ _ _ _ => rfl⟩
theorem Ch.trans {K : Cfg} {W Y Z : World} (h : Ch K W Y) (k : Ch K Y Z) : Ch K W Z :=
  ⟨k.os.trans h.os, k.tape.trans h.tape, k.output.trans h.output, Nat.le_trans h.size k.size, fun i hi a b c => (k.keep i (Nat.lt_of_lt_of_le hi h.size) a b c).trans (h.keep i hi a b c)⟩
theorem Ch.setCell {K : Cfg} {W Z : World} (h : Ch K W Z) {q : Addr} (hq : q.block = K.b ∨ q.block = K.g1 ∨ q.block = K.g2) (x : Value) : Ch K W (Z.setCell q x) :=
  h.trans ⟨rfl, rfl, rfl, by simp, fun k hk a b c => Below.heap_setCell Z q x k (by rcases hq with e | e | e <;> rw [e] <;> assumption)⟩
theorem Ch.drewN {K : Cfg} {W Z : World} (h : Ch K W Z) (m : Nat) : Ch K W (Z.drewN m) := h.trans ⟨rfl, rfl, rfl, Nat.le_refl _, fun _ _ _ _ _ => rfl⟩
theorem Ch.drew {K : Cfg} {W Z : World} (h : Ch K W Z) : Ch K W Z.drew := h.trans ⟨rfl, rfl, rfl, Nat.le_refl _, fun _ _ _ _ _ => rfl⟩
theorem Ch.below {K : Cfg} {W Z : World} {B : Nat} {a : World} (h : Ch K W Z) (k : Below B a W) (b0 : B ≤ K.b) (b1 : B ≤ K.g1) (b2 : B ≤ K.g2) (hB : B ≤ W.heap.size) : Below B a Z :=
  ⟨h.os.trans k.os, h.tape.trans k.tape, h.output.trans k.output, Nat.le_trans k.size h.size, fun i hi => (h.keep i (by omega) (by omega) (by omega) (by omega)).trans (k.block i hi)⟩

set_option maxHeartbeats 4000000 in
theorem take_any (K : Cfg) (F : Nat) (ha la lp : Int) (xs ys : List Int) (W : World) (h : SwS W K ha la lp xs ys) (hF : F < K.n1) (hl0 : 0 ≤ lp) (hl1 : lp ≤ 1000) (hn : K.n1 ≤ 1000) :
    Calls Try.prog 100 #[.pointer (some ⟨K.b, 0, none⟩), .int .i64 F] W fun e W' => (∃ v, e = .returned v) ∧ SwS W' K (xs.getD F 0) la (lp + 1) (xs.set F 0) ys ∧ Ch K W W' := by
  obtain ⟨x1, x2⟩ := h.x hF
  have H := Lib.hid h
  have HS := Lib.hid (((h.setHand (xs.getD F 0)).setX hF 0).setLaps (lp + 1))
  have HC := Lib.hid ((((Ch.refl K W).setCell (q := ⟨K.b, 11, none⟩) (.inl rfl) (.int .i64 (xs.getD F 0))).setCell (q := ⟨K.g1, F, none⟩) (.inr (.inl rfl)) (.int .i64 0)).setCell (q := ⟨K.b, 15, none⟩) (.inl rfl) (.int .i64 (lp + 1)))
  obtain ⟨hlt, q0, q1, q2, q3, q4, q5, q6, q7, q8, q9, q10, q11, q12, q13, q14, q15, fr, o1, o2, l1, l2, d1, d2, d3, h1, h2⟩ := h
  have f11 := fr 11
  have f15 := fr 15
  have p0 : (F : Int) < (K.n1 : Int) := by omega
  generalize xs.getD F 0 = xv at *
  clear fr o1 o2 l1 l2
  obtain ⟨p, s, c, l, st, sk, re, fe, ag, pl, fi, B, b, g1, c1, g2, c2, n1⟩ := K
  dsimp only at *
  go_enter Try.func100, Try.ntmps100
  go_wp2
  go_end0
  exact ⟨⟨_, rfl⟩, HS.out, HC.out⟩
theorem endless_any (K : Cfg) (ha la lp : Int) (xs ys : List Int) (W : World) (h : SwS W K ha la lp xs ys) :
    Calls Try.prog 90 #[.pointer (some ⟨K.b, 0, none⟩)] W fun e W' => e = .returned (.bool (decide (100 < lp))) ∧ W = W' := by
  have q15 := h.q15
  clear h
  obtain ⟨p, s, c, l, st, sk, re, fe, ag, pl, fi, B, b, g1, c1, g2, c2, n1⟩ := K
  dsimp only at *
  go_enter Try.func90, Try.ntmps90
  go_wp2
  go_ret
  exact ⟨rfl, rfl⟩
end Go.Proofs.Ytmngmbpdiaocjaa
