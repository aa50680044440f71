/- A game marked, and held by its marks. No conditions. -/
import Derived.Test.YtmngmbpdiaocjaaGame4
namespace Go.Proofs.Ytmngmbpdiaocjaa
open Go.Joins Go.ChangeShapes Go.WideShapes Go.ChangeAt Go.RowKit Go.Deep
set_option linter.unusedVariables false

/-- The rows of a game lie in blocks that are all different. -/
structure GamD (w : World) (k1 k2 k3 k4 k5 : Nat) : Prop where
  l1 : k1 < w.heap.size
  l2 : k2 < w.heap.size
  l3 : k3 < w.heap.size
  l4 : k4 < w.heap.size
  l5 : k5 < w.heap.size
  n13 : k1 ≠ k3
  n23 : k2 ≠ k3
  n14 : k1 ≠ k4
  n24 : k2 ≠ k4
  n15 : k1 ≠ k5
  n25 : k2 ≠ k5
  n34 : k3 ≠ k4
  n35 : k3 ≠ k5
theorem GmAt.but2 {u v : World} {b c d : Nat} {ggp ggs ggc ggl : Int} {ggst ggsk ggre ggfe ggag : Bool} {gga1 gga2 : Option Addr} {ggan1 ggac1 ggan2 ggac2 : Nat} {ggap : Int} {ggm : Option Addr} {ggmn ggmc : Nat} {ggb1 ggb2 : Option Addr} {ggbn1 ggbc1 ggbn2 ggbc2 : Nat} {ggbp ggrg : Int} (h : GmAt u b ggp ggs ggc ggl ggst ggsk ggre ggfe ggag gga1 gga2 ggan1 ggac1 ggan2 ggac2 ggap ggm ggmn ggmc ggb1 ggb2 ggbn1 ggbc1 ggbn2 ggbc2 ggbp ggrg) (k : But2 c d u v) (hc : b ≠ c) (hd : b ≠ d) : GmAt v b ggp ggs ggc ggl ggst ggsk ggre ggfe ggag gga1 gga2 ggan1 ggac1 ggan2 ggac2 ggap ggm ggmn ggmc ggb1 ggb2 ggbn1 ggbc1 ggbn2 ggbc2 ggbp ggrg := by
  obtain ⟨hb, h⟩ := h
  have e := fun o => k.cell (o := o) hb hc hd
  exact ⟨Nat.lt_of_lt_of_le hb k.size, by rw [e, e, e, e, e, e, e, e, e, e, e, e, e, e, e, e, e]; exact h⟩
/-- w' is w but for new blocks and the five blocks. -/
structure But5 (k1 k2 k3 k4 k5 : Nat) (w w' : World) : Prop where
  os : w'.os = w.os
  tape : w'.tape = w.tape
  output : w'.output = w.output
  size : w.heap.size ≤ w'.heap.size
  block : ∀ k, k < w.heap.size → k ≠ k1 → k ≠ k2 → k ≠ k3 → k ≠ k4 → k ≠ k5 → w'.heap[k]? = w.heap[k]?
section
variable {k1 k2 k3 k4 k5 : Nat} {w u v : World}
theorem But5.of_below (h : Below w.heap.size w u) : But5 k1 k2 k3 k4 k5 w u := ⟨h.os, h.tape, h.output, h.size, fun k hk _ _ _ _ _ => h.block k hk⟩
theorem But5.of12 (h : But2 k1 k2 w u) : But5 k1 k2 k3 k4 k5 w u := ⟨h.os, h.tape, h.output, h.size, fun k hk a b _ _ _ => h.block k hk a b⟩
theorem But5.of3 (h : But k3 w u) : But5 k1 k2 k3 k4 k5 w u := ⟨h.os, h.tape, h.output, h.size, fun k hk _ _ a _ _ => h.block k hk a⟩
theorem But5.of45 (h : But2 k4 k5 w u) : But5 k1 k2 k3 k4 k5 w u := ⟨h.os, h.tape, h.output, h.size, fun k hk _ _ _ a b => h.block k hk a b⟩
theorem But5.trans (h : But5 k1 k2 k3 k4 k5 w u) (k : But5 k1 k2 k3 k4 k5 u v) : But5 k1 k2 k3 k4 k5 w v :=
  ⟨k.os.trans h.os, k.tape.trans h.tape, k.output.trans h.output, Nat.le_trans h.size k.size, fun i hi a b c d e => (k.block i (Nat.lt_of_lt_of_le hi h.size) a b c d e).trans (h.block i hi a b c d e)⟩
/-- Below where all five blocks lie. -/
theorem But5.below {B : Nat} (h : But5 k1 k2 k3 k4 k5 w u) (hB : B ≤ w.heap.size) (a1 : B ≤ k1) (a2 : B ≤ k2) (a3 : B ≤ k3) (a4 : B ≤ k4) (a5 : B ≤ k5) : Below B w u :=
  ⟨h.os, h.tape, h.output, h.size, fun i hi => h.block i (by omega) (by omega) (by omega) (by omega) (by omega) (by omega)⟩
theorem But5.cell (h : But5 k1 k2 k3 k4 k5 w u) {c o : Nat} (hc : c < w.heap.size) (a1 : c ≠ k1) (a2 : c ≠ k2) (a3 : c ≠ k3) (a4 : c ≠ k4) (a5 : c ≠ k5) : u.cell? ⟨c, o, none⟩ = w.cell? ⟨c, o, none⟩ := World.cell?_of_block (w := w) (h.block c hc a1 a2 a3 a4 a5)
theorem GmAt.but5 {b : Nat} {ggp ggs ggc ggl : Int} {ggst ggsk ggre ggfe ggag : Bool} {gga1 gga2 : Option Addr} {ggan1 ggac1 ggan2 ggac2 : Nat} {ggap : Int} {ggm : Option Addr} {ggmn ggmc : Nat} {ggb1 ggb2 : Option Addr} {ggbn1 ggbc1 ggbn2 ggbc2 : Nat} {ggbp ggrg : Int} (h : GmAt u b ggp ggs ggc ggl ggst ggsk ggre ggfe ggag gga1 gga2 ggan1 ggac1 ggan2 ggac2 ggap ggm ggmn ggmc ggb1 ggb2 ggbn1 ggbc1 ggbn2 ggbc2 ggbp ggrg) (k : But5 k1 k2 k3 k4 k5 u v) (a1 : b ≠ k1) (a2 : b ≠ k2) (a3 : b ≠ k3) (a4 : b ≠ k4) (a5 : b ≠ k5) : GmAt v b ggp ggs ggc ggl ggst ggsk ggre ggfe ggag gga1 gga2 ggan1 ggac1 ggan2 ggac2 ggap ggm ggmn ggmc ggb1 ggb2 ggbn1 ggbc1 ggbn2 ggbc2 ggbp ggrg := by
  obtain ⟨hb, h⟩ := h
  have e := fun o => k.cell (o := o) hb a1 a2 a3 a4 a5
  exact ⟨Nat.lt_of_lt_of_le hb k.size, by rw [e, e, e, e, e, e, e, e, e, e, e, e, e, e, e, e, e]; exact h⟩
end
set_option maxHeartbeats 1000000 in
theorem markPw_any (B b1 b2 : Nat) (a1 a2 : Option Addr) (n1 n2 c1 c2 k : Nat) (pl : Int) (xs ys : List Int) (w : World) (h : PosO w B a1 a2 b1 b2 n1 n2 xs ys) (hB : B ≤ w.heap.size) (hlt : b1 < w.heap.size ∧ b2 < w.heap.size) (hk2 : k ≤ 10000000) (hn : n1 ≤ 10000000) :
    Calls Try.prog 19 #[.agg #[.slice a1 n1 c1, .slice a2 n2 c2, .int .i64 pl], .int .i64 k] w (MarkPP B b1 b2 a1 a2 n1 n2 k w) := by
  have H := Lib.hid h
  obtain ⟨hl1, hl2⟩ := hlt
  clear h
  go_enter Try.func19, Try.ntmps19
  go_wp2_with fail
  refine (marksN_any B b1 a1 c1 n1 k xs _ H.out.l1 (H.out.o1.alloc _) (by omega)).mono ?_
  rintro e u ⟨rfl, b1', o1⟩
  have hs1 := b1'.size
  simp at hs1
  have x1 := fun o => b1'.cell (c := w.heap.size) (o := o) (by simp) (by omega)
  have O2 := Lib.hid ((H.out.o2.alloc _).but b1' (by have := H.out.ne; omega))
  have O1 := Lib.hid o1
  have B1 := Lib.hid b1'
  clear o1 b1'
  go_wp2_with fail
  refine (marksN_any B b2 a2 c2 n2 (k + n1) ys _ H.out.l2 O2.out (by omega)).mono ?_
  rintro e u2 ⟨rfl, b2', o2⟩
  have O1' := Lib.hid (O1.out.but b2' H.out.ne)
  have O2' := Lib.hid o2
  have B2 := Lib.hid b2'
  clear b2' o2
  go_wp2_with fail
  go_ret
  exact ⟨rfl, ((But2.of_below ((Below.refl _ _).alloc (Nat.le_refl _) _)).trans (.of_l B1.out)).trans (.of_r B2.out), O1'.out, O2'.out, H.out.ne, marksN_len _ _, marksN_len _ _⟩
set_option maxHeartbeats 2000000 in
set_option maxRecDepth 100000 in
theorem markG_any (B k1 k2 k3 k4 k5 k : Nat) (ggp ggs ggc ggl : Int) (ggst ggsk ggre ggfe ggag : Bool) (gga1 gga2 : Option Addr) (ggan1 ggac1 ggan2 ggac2 : Nat) (ggap : Int) (ggm : Option Addr) (ggmn ggmc : Nat) (ggb1 ggb2 : Option Addr) (ggbn1 ggbc1 ggbn2 ggbc2 : Nat) (ggbp ggrg : Int) (sx sy ms nx ny : List Int) (w : World) (h : GamO w B gga1 gga2 k1 k2 ggan1 ggan2 ggm k3 ggmn ggb1 ggb2 k4 k5 ggbn1 ggbn2 sx sy ms nx ny) (hd : GamD w k1 k2 k3 k4 k5) (hB : B ≤ w.heap.size) (hk : k ≤ 1000) (ht : ggan1 + ggan2 + ggmn + ggbn1 + ggbn2 ≤ 9000000) :
    Calls Try.prog 20 #[.agg #[.int .i64 ggp, .int .i64 ggs, .bool ggst, .bool ggsk, .bool ggre, .bool ggfe, .bool ggag, .int .i64 ggc, .int .i64 ggl, .slice gga1 ggan1 ggac1, .slice gga2 ggan2 ggac2, .int .i64 ggap, .slice ggm ggmn ggmc, .slice ggb1 ggbn1 ggbc1, .slice ggb2 ggbn2 ggbc2, .int .i64 ggbp, .int .i64 ggrg], .int .i64 k] w fun e w' => e = .returned (.int .i64 ((k + ggan1 + ggan2 + ggmn + ggbn1 + ggbn2 : Nat) : Int)) ∧ But5 k1 k2 k3 k4 k5 w w' ∧ GamO w' B gga1 gga2 k1 k2 ggan1 ggan2 ggm k3 ggmn ggb1 ggb2 k4 k5 ggbn1 ggbn2 (marksN k ggan1) (marksN (k + ggan1) ggan2) (marksN (k + ggan1 + ggan2) ggmn) (marksN (k + ggan1 + ggan2 + ggmn) ggbn1) (marksN (k + ggan1 + ggan2 + ggmn + ggbn1) ggbn2) := by
  have H := Lib.hid h
  have HD := Lib.hid hd
  clear h hd
  go_enter Try.func20, Try.ntmps20
  go_wp2_with fail
  have b0 := al1 w (.cells #[.int .i64 ggp, .int .i64 ggs, .bool ggst, .bool ggsk, .bool ggre, .bool ggfe, .bool ggag, .int .i64 ggc, .int .i64 ggl, .slice gga1 ggan1 ggac1, .slice gga2 ggan2 ggac2, .int .i64 ggap, .slice ggm ggmn ggmc, .slice ggb1 ggbn1 ggbc1, .slice ggb2 ggbn2 ggbc2, .int .i64 ggbp, .int .i64 ggrg] 34)
  have s0 := b0.size
  refine (markPw_any B k1 k2 gga1 gga2 ggan1 ggan2 ggac1 ggac2 k ggap sx sy _ (H.out.s.below b0) (Nat.le_trans hB s0) ⟨Nat.lt_of_lt_of_le HD.out.l1 s0, Nat.lt_of_lt_of_le HD.out.l2 s0⟩ (by omega) (by omega)).mono ?_
  rintro e u1 ⟨rfl, b1, o1⟩
  have A1 := Lib.hid ((gm_new ggp ggs ggc ggl ggst ggsk ggre ggfe ggag gga1 gga2 ggan1 ggac1 ggan2 ggac2 ggap ggm ggmn ggmc ggb1 ggb2 ggbn1 ggbc1 ggbn2 ggbc2 ggbp ggrg w 34).but2 b1 (by have := HD.out.l1; omega) (by have := HD.out.l2; omega))
  have O1 := Lib.hid o1
  have M1 := Lib.hid ((H.out.m.below b0).but2 b1 (by have := HD.out.n13; omega) (by have := HD.out.n23; omega))
  have N1 := Lib.hid ((H.out.n.below b0).but2 b1 (by have := HD.out.n14; omega) (by have := HD.out.n15; omega) (by have := HD.out.n24; omega) (by have := HD.out.n25; omega))
  have B1 : Hid (But5 k1 k2 k3 k4 k5 w u1) := Lib.hid ((But5.of_below b0).trans (But5.of12 b1))
  have L1 := Lib.hid (Nat.le_trans s0 b1.size)
  clear b1 o1 b0 s0
  obtain ⟨_, d0, d1, d2, d3, d4, d5, d6, d7, d8, d9, d10, d11, d12, d13, d14, d15, d16⟩ := A1.out
  go_wp2_with fail
  refine (marksN_any B k3 ggm ggmc ggmn (k + ggan1 + ggan2) ms _ H.out.lm M1.out (by omega)).mono ?_
  rintro e u2 ⟨rfl, b2, o2⟩
  clear d0 d1 d2 d3 d4 d5 d6 d7 d8 d9 d10 d11 d12 d13 d14 d15 d16
  have A2 := Lib.hid (A1.out.but b2 (by have := HD.out.l3; omega))
  have O2 := Lib.hid (O1.out.but b2 (by have := HD.out.n13; omega) (by have := HD.out.n23; omega))
  have M2 := Lib.hid o2
  have N2 := Lib.hid (N1.out.but b2 (by have := HD.out.n34; omega) (by have := HD.out.n35; omega))
  have B2 : Hid (But5 k1 k2 k3 k4 k5 w u2) := Lib.hid (B1.out.trans (But5.of3 b2))
  have L2 := Lib.hid (Nat.le_trans L1.out b2.size)
  clear b2 o2 A1 O1 M1 N1 B1
  obtain ⟨_, d0, d1, d2, d3, d4, d5, d6, d7, d8, d9, d10, d11, d12, d13, d14, d15, d16⟩ := A2.out
  go_wp2_with fail
  refine (markPw_any B k4 k5 ggb1 ggb2 ggbn1 ggbn2 ggbc1 ggbc2 (k + ggan1 + ggan2 + ggmn) ggbp nx ny _ N2.out (Nat.le_trans hB L2.out) ⟨Nat.lt_of_lt_of_le HD.out.l4 L2.out, Nat.lt_of_lt_of_le HD.out.l5 L2.out⟩ (by omega) (by omega)).mono ?_
  rintro e u3 ⟨rfl, b3, o3⟩
  clear d0 d1 d2 d3 d4 d5 d6 d7 d8 d9 d10 d11 d12 d13 d14 d15 d16
  have O3 := Lib.hid (O2.out.but2 b3 (by have := HD.out.n14; omega) (by have := HD.out.n24; omega) (by have := HD.out.n15; omega) (by have := HD.out.n25; omega))
  have M3 := Lib.hid (M2.out.but2 b3 (by have := HD.out.n34; omega) (by have := HD.out.n35; omega))
  have N3 := Lib.hid o3
  have B3 : Hid (But5 k1 k2 k3 k4 k5 w u3) := Lib.hid (B2.out.trans (But5.of45 b3))
  clear b3 o3
  go_wp2_with fail
  go_ret
  exact ⟨rfl, B3.out, O3.out, M3.out, marksN_len _ _, N3.out⟩
theorem heldPw_any (a1 a2 : Option Addr) (n1 n2 c1 c2 k : Nat) (pl : Int) (w : World) (h : PosR w a1 a2 n1 n2 (marksN k n1) (marksN (k + n1) n2)) (hk2 : k ≤ 10000000) (hn : n1 ≤ 10000000) :
    Calls Try.prog 40 #[.agg #[.slice a1 n1 c1, .slice a2 n2 c2, .int .i64 pl], .int .i64 k] w fun e w' => e = .returned (.int .i64 ((k + n1 + n2 : Nat) : Int)) ∧ Below w.heap.size w w' := by
  have H := Lib.hid h
  have hl2 : n2 ≤ 1000000000000 := by have := h.r2.1; rwa [marksN_len] at this
  clear h
  go_enter Try.func40, Try.ntmps40
  go_wp2_with fail
  refine (heldN_any a1 c1 n1 k _ (H.out.r1.alloc _) (by omega)).mono ?_
  rintro e u ⟨rfl, b1⟩
  have hs1 := b1.size
  simp at hs1
  have x1 := fun o => (bcell b1).1 w.heap.size o (by simp)
  have R2 := Lib.hid ((H.out.r2.alloc _).below b1)
  have B1 := Lib.hid b1
  have q0 : (0 : Int) ≤ ((k + n1 : Nat) : Int) := by omega
  clear b1
  go_wp2_with fail
  refine (heldN_any a2 c2 n2 (k + n1) _ R2.out (by omega)).mono ?_
  rintro e u2 ⟨rfl, b2⟩
  have B2 := Lib.hid b2
  have q1 : (0 : Int) ≤ ((k + n1 + n2 : Nat) : Int) := by omega
  clear b2
  go_wp2_with fail
  go_ret
  exact ⟨rfl, ((Below.refl _ _).alloc (Nat.le_refl _) _).trans ((B1.out.mono (by simp)).trans (B2.out.mono (by omega)))⟩
set_option maxHeartbeats 2000000 in
set_option maxRecDepth 100000 in
theorem heldG_any (k : Nat) (ggp ggs ggc ggl : Int) (ggst ggsk ggre ggfe ggag : Bool) (gga1 gga2 : Option Addr) (ggan1 ggac1 ggan2 ggac2 : Nat) (ggap : Int) (ggm : Option Addr) (ggmn ggmc : Nat) (ggb1 ggb2 : Option Addr) (ggbn1 ggbc1 ggbn2 ggbc2 : Nat) (ggbp ggrg : Int) (w : World) (h : GamR w gga1 gga2 ggan1 ggan2 ggm ggmn ggb1 ggb2 ggbn1 ggbn2 (marksN k ggan1) (marksN (k + ggan1) ggan2) (marksN (k + ggan1 + ggan2) ggmn) (marksN (k + ggan1 + ggan2 + ggmn) ggbn1) (marksN (k + ggan1 + ggan2 + ggmn + ggbn1) ggbn2)) (hk : k ≤ 1000) (ht : ggan1 + ggan2 + ggmn + ggbn1 + ggbn2 ≤ 9000000) :
    Calls Try.prog 21 #[.agg #[.int .i64 ggp, .int .i64 ggs, .bool ggst, .bool ggsk, .bool ggre, .bool ggfe, .bool ggag, .int .i64 ggc, .int .i64 ggl, .slice gga1 ggan1 ggac1, .slice gga2 ggan2 ggac2, .int .i64 ggap, .slice ggm ggmn ggmc, .slice ggb1 ggbn1 ggbc1, .slice ggb2 ggbn2 ggbc2, .int .i64 ggbp, .int .i64 ggrg], .int .i64 k] w fun e w' => e = .returned (.int .i64 ((k + ggan1 + ggan2 + ggmn + ggbn1 + ggbn2 : Nat) : Int)) ∧ Below w.heap.size w w' := by
  have H := Lib.hid h
  clear h
  go_enter Try.func21, Try.ntmps21
  go_wp2_with fail
  have b0 := al1 w (.cells #[.int .i64 ggp, .int .i64 ggs, .bool ggst, .bool ggsk, .bool ggre, .bool ggfe, .bool ggag, .int .i64 ggc, .int .i64 ggl, .slice gga1 ggan1 ggac1, .slice gga2 ggan2 ggac2, .int .i64 ggap, .slice ggm ggmn ggmc, .slice ggb1 ggbn1 ggbc1, .slice ggb2 ggbn2 ggbc2, .int .i64 ggbp, .int .i64 ggrg] 34)
  refine (heldPw_any gga1 gga2 ggan1 ggan2 ggac1 ggac2 k ggap _ (H.out.s.below b0) (by omega) (by omega)).mono ?_
  rintro e u1 ⟨rfl, b1⟩
  have A1 := Lib.hid ((gm_new ggp ggs ggc ggl ggst ggsk ggre ggfe ggag gga1 gga2 ggan1 ggac1 ggan2 ggac2 ggap ggm ggmn ggmc ggb1 ggb2 ggbn1 ggbc1 ggbn2 ggbc2 ggbp ggrg w 34).below b1)
  have B1 := Lib.hid (b0.trans (b1.mono b0.size))
  have q0 : ¬ ((k + ggan1 + ggan2 : Nat) : Int) < 0 := by omega
  clear b1 b0
  obtain ⟨_, d0, d1, d2, d3, d4, d5, d6, d7, d8, d9, d10, d11, d12, d13, d14, d15, d16⟩ := A1.out
  go_wp2_with fail
  refine (heldN_any ggm ggmc ggmn (k + ggan1 + ggan2) _ (H.out.m.below B1.out) (by omega)).mono ?_
  rintro e u2 ⟨rfl, b2⟩
  clear d0 d1 d2 d3 d4 d5 d6 d7 d8 d9 d10 d11 d12 d13 d14 d15 d16
  have A2 := Lib.hid (A1.out.below b2)
  have B2 := Lib.hid (B1.out.trans (b2.mono B1.out.size))
  have q1 : ¬ ((k + ggan1 + ggan2 + ggmn : Nat) : Int) < 0 := by omega
  clear b2 q0 A1
  obtain ⟨_, d0, d1, d2, d3, d4, d5, d6, d7, d8, d9, d10, d11, d12, d13, d14, d15, d16⟩ := A2.out
  go_wp2_with fail
  refine (heldPw_any ggb1 ggb2 ggbn1 ggbn2 ggbc1 ggbc2 (k + ggan1 + ggan2 + ggmn) ggbp _ (H.out.n.below B2.out) (by omega) (by omega)).mono ?_
  rintro e u3 ⟨rfl, b3⟩
  clear d0 d1 d2 d3 d4 d5 d6 d7 d8 d9 d10 d11 d12 d13 d14 d15 d16
  have B3 := Lib.hid (B2.out.trans (b3.mono B2.out.size))
  have q2 : ¬ ((k + ggan1 + ggan2 + ggmn + ggbn1 + ggbn2 : Nat) : Int) < 0 := by omega
  clear b3 q1
  go_wp2_with fail
  go_ret
  exact ⟨rfl, B3.out⟩
end Go.Proofs.Ytmngmbpdiaocjaa
