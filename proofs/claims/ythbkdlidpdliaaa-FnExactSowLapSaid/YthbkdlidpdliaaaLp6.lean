/- The first lap of a move, as the program makes it. No conditions. -/
import Derived.Test.YthbkdlidpdliaaaMov6
namespace Go.Proofs.Ythbkdlidpdliaaa
open Go.RowKit Go.Shelf
attribute [local go_sem] Oper.semAt_some
set_option linter.unusedVariables false

/-- The result's variable of a call on rules, a position and a move. -/
structure RsL (w : World) (x0 x1 x2 x3 : Value) (A : World) : Prop where
  be : Below w.heap.size w A
  lt : w.heap.size + 1 + 1 < A.heap.size
  c0 : A.cell? ⟨w.heap.size + 1 + 1, 0, none⟩ = some x0
  c1 : A.cell? ⟨w.heap.size + 1 + 1, 1, none⟩ = some x1
  c2 : A.cell? ⟨w.heap.size + 1 + 1, 2, none⟩ = some x2
  c3 : A.cell? ⟨w.heap.size + 1 + 1, 3, none⟩ = some x3
  f0 : A.frozen? ⟨w.heap.size + 1 + 1, 0, none⟩ = false
  f1 : A.frozen? ⟨w.heap.size + 1 + 1, 1, none⟩ = false
  f2 : A.frozen? ⟨w.heap.size + 1 + 1, 2, none⟩ = false
  f3 : A.frozen? ⟨w.heap.size + 1 + 1, 3, none⟩ = false
section
variable {w A Z : World} {x0 x1 x2 x3 : Value}
theorem RsL.keep (h : RsL w x0 x1 x2 x3 A) (hb : Below w.heap.size w Z) (hs : A.heap.size ≤ Z.heap.size) (k2 : Z.heap[w.heap.size + 1 + 1]? = A.heap[w.heap.size + 1 + 1]?) : RsL w x0 x1 x2 x3 Z := by
  have e := fun o => World.cell?_of_block (a := ⟨w.heap.size + 1 + 1, o, none⟩) k2
  have f := fun o => World.frozen?_of_block (a := ⟨w.heap.size + 1 + 1, o, none⟩) k2
  exact ⟨hb, Nat.lt_of_lt_of_le h.lt hs, (e _).trans h.c0, (e _).trans h.c1, (e _).trans h.c2, (e _).trans h.c3, (f _).trans h.f0, (f _).trans h.f1, (f _).trans h.f2, (f _).trans h.f3⟩
theorem RsL.below (h : RsL w x0 x1 x2 x3 A) (k : Below A.heap.size A Z) : RsL w x0 x1 x2 x3 Z :=
  have hl := h.lt
  h.keep (h.be.trans (k.mono h.be.size)) k.size (k.block _ (by omega))
theorem RsL.low {B : Nat} (h : RsL w x0 x1 x2 x3 A) (k : Below B A Z) (hB : w.heap.size + 3 ≤ B) : RsL w x0 x1 x2 x3 Z :=
  h.keep (h.be.trans (k.mono (by omega))) k.size (k.block _ (by omega))
theorem RsL.of_out {B : Nat} {K : Cfg} (h : RsL w x0 x1 x2 x3 A) (k : Out B K A Z) (hB : w.heap.size + 3 ≤ B) (b0 : w.heap.size + 3 ≤ K.b) (b1 : w.heap.size + 3 ≤ K.g1) (b2 : w.heap.size + 3 ≤ K.g2) : RsL w x0 x1 x2 x3 Z :=
  h.keep ⟨k.os.trans h.be.os, k.tape.trans h.be.tape, k.output.trans h.be.output, Nat.le_trans h.be.size k.size, fun i hi => (k.keep i (by omega) (by omega) (by omega) (by omega)).trans (h.be.block i hi)⟩ k.size (k.keep _ (by omega) (by omega) (by omega) (by omega))
theorem RsL.set (h : RsL w x0 x1 x2 x3 A) (y0 y1 y2 y3 : Value) : RsL w y0 y1 y2 y3 ((((A.setCell ⟨w.heap.size + 1 + 1, 0, none⟩ y0).setCell ⟨w.heap.size + 1 + 1, 1, none⟩ y1).setCell ⟨w.heap.size + 1 + 1, 2, none⟩ y2).setCell ⟨w.heap.size + 1 + 1, 3, none⟩ y3) := by
  obtain ⟨hb, hl, c0, c1, c2, c3, f0, f1, f2, f3⟩ := h
  exact ⟨(((hb.setCell (p := ⟨w.heap.size + 1 + 1, 0, none⟩) (by show w.heap.size ≤ w.heap.size + 1 + 1; omega) _).setCell (p := ⟨w.heap.size + 1 + 1, 1, none⟩) (by show w.heap.size ≤ w.heap.size + 1 + 1; omega) _).setCell (p := ⟨w.heap.size + 1 + 1, 2, none⟩) (by show w.heap.size ≤ w.heap.size + 1 + 1; omega) _).setCell (p := ⟨w.heap.size + 1 + 1, 3, none⟩) (by show w.heap.size ≤ w.heap.size + 1 + 1; omega) _,
    by simpa using hl, by go_simp, by go_simp, by go_simp, by go_simp, by go_simp, by go_simp, by go_simp, by go_simp⟩
end
theorem rl_new (p s c l : Int) (st sk re fe ag : Bool) (p1 p2 : Option Addr) (pn1 pc1 pn2 pc2 : Nat) (pp : Int) (w : World) (T U V : TypeId) : RsL w (.slice none 0 0) (.slice none 0 0) (.int .i64 0) (.int .i64 0) (((w.alloc (.cells #[.int .i64 p, .int .i64 s, .bool st, .bool sk, .bool re, .bool fe, .bool ag, .int .i64 c, .int .i64 l] T)).alloc (.cells #[.slice p1 pn1 pc1, .slice p2 pn2 pc2, .int .i64 pp] U)).alloc (.cells #[.slice none 0 0, .slice none 0 0, .int .i64 0, .int .i64 0] V)) :=
  ⟨(((Below.refl _ _).alloc (Nat.le_refl _) _).alloc (by simp) _).alloc (by simp; omega) _, by simp, by go_simp, by go_simp, by go_simp, by go_simp, by go_simp, by go_simp, by go_simp, by go_simp⟩
theorem rec_rl {w A : World} {L D : Nat} {r : Loop} {x0 x1 x2 x3 : Value} (h : RecAt A L D r) (k : RsL w x0 x1 x2 x3 A) (y0 y1 y2 y3 : Value) : RecAt ((((A.setCell ⟨w.heap.size + 1 + 1, 0, none⟩ y0).setCell ⟨w.heap.size + 1 + 1, 1, none⟩ y1).setCell ⟨w.heap.size + 1 + 1, 2, none⟩ y2).setCell ⟨w.heap.size + 1 + 1, 3, none⟩ y3) L D r := by
  obtain ⟨hb, hl, c0, c1, c2, c3, f0, f1, f2, f3⟩ := k
  exact (((h.setCell c0 y0).setCell (v := x1) (by go_simp) y1).setCell (v := x2) (by go_simp) y2).setCell (v := x3) (by go_simp) y3
theorem keep_rl {w A : World} {k : Nat} (hk : w.heap.size + 3 ≤ k) (y0 y1 y2 y3 : Value) : ((((A.setCell ⟨w.heap.size + 1 + 1, 0, none⟩ y0).setCell ⟨w.heap.size + 1 + 1, 1, none⟩ y1).setCell ⟨w.heap.size + 1 + 1, 2, none⟩ y2).setCell ⟨w.heap.size + 1 + 1, 3, none⟩ y3).heap[k]? = A.heap[k]? :=
  (((Below.heap_setCell _ ⟨w.heap.size + 1 + 1, 3, none⟩ _ k (by show k ≠ w.heap.size + 1 + 1; omega)).trans (Below.heap_setCell _ ⟨w.heap.size + 1 + 1, 2, none⟩ _ k (by show k ≠ w.heap.size + 1 + 1; omega))).trans (Below.heap_setCell _ ⟨w.heap.size + 1 + 1, 1, none⟩ _ k (by show k ≠ w.heap.size + 1 + 1; omega))).trans (Below.heap_setCell _ ⟨w.heap.size + 1 + 1, 0, none⟩ _ k (by show k ≠ w.heap.size + 1 + 1; omega))
/-- What the first lap leads to. -/
def lapRes (R : Rl) (xs ys : List Int) (f : Int) : Res := ⟨cx R xs f (cnt xs f), cy R ys f (cnt xs f), lst R xs f, 1, []⟩
/-- Between two seeds of the first lap. -/
structure LpJ (w : World) (s0 : Stg) (L D : Nat) (R : LoopState → Option Code → Loop) (s : Stg) (i : Nat) (A : World) : Prop where
  eq : s = s0
  lt : i < s.n
  rs : RsL w (.slice none 0 0) (.slice none 0 0) (.int .i64 0) (.int .i64 0) A
  rc : RecAt A L D (R .ready none)
/-- Behind the first lap. -/
structure LpX (w : World) (K : Cfg) (s0 : Stg) (L D : Nat) (R : LoopState → Option Code → Loop) (Z : World) : Prop where
  rs : RsL w (.slice none 0 0) (.slice none 0 0) (.int .i64 0) (.int .i64 0) Z
  sw : StW Z K s0 s0.n (lst K.R s0.xs s0.f)
  rc : RecAt Z L D (R .done (some (.exit 0)))
/-- What a round of the loop leaves: the caller's word for it, closed. -/
structure LpP (w : World) (K : Cfg) (s0 : Stg) (L D : Nat) (R : LoopState → Option Code → Loop) (B : Nat) (A : World) (s : Stg) (i : Nat) (e : Ending) (Z : World) : Prop where
  or : (e = .returned (.bool true) ∧ s.j < 100 ∧ LpJ w s0 L D R s (i + 1) Z ∧ StW Z K s (i + 1) (K.R.at s.f i) ∧ Above B A Z) ∨ (e = .returned (.bool false) ∧ LpX w K s0 L D R Z ∧ Above B A Z)
set_option maxHeartbeats 8000000 in
set_option maxRecDepth 100000 in
theorem implLap_err (p s c l : Int) (st sk re fe ag : Bool) (p1 p2 : Option Addr) (pn1 pc1 pn2 pc2 : Nat) (pp : Int) (move cd : Int) (hcd : (cd == 0) = false) (w : World) (hb : ∀ u, Below w.heap.size w u → Calls Try.prog 56 #[.agg #[.int .i64 p, .int .i64 s, .bool st, .bool sk, .bool re, .bool fe, .bool ag, .int .i64 c, .int .i64 l], .agg #[.slice p1 pn1 pc1, .slice p2 pn2 pc2, .int .i64 pp], .int .i64 move] u (BegZ cd u)) :
    Calls Try.prog 40 #[.agg #[.int .i64 p, .int .i64 s, .bool st, .bool sk, .bool re, .bool fe, .bool ag, .int .i64 c, .int .i64 l], .agg #[.slice p1 pn1 pc1, .slice p2 pn2 pc2, .int .i64 pp], .int .i64 move] w (SoZ 0 0 0 0 cd [] [] w) := by
  have HB := Lib.hid hb
  have HR := Lib.hid (rl_new p s c l st sk re fe ag p1 p2 pn1 pc1 pn2 pc2 pp w 31 41 28)
  clear hb
  refine (callsIn_wide (n := 6)).1 ?_
  refine callsIn_of_wp_marks Try.func40 rfl trivial ?_ rfl
  simp only [Try.ntmps40, List.size_toArray, List.length_cons, List.length_nil, Nat.reduceAdd, Nat.reduceSub, Array.replicate_succ, Array.replicate_zero, List.push_toArray, List.append_toArray, List.nil_append, List.cons_append]
  gi_wp2_with fail
  refine ⟨trivial, ?_⟩
  refine CallsIn.mono (callsIn_wide.2 (HB.out _ HR.out.be)) ?_
  rintro e u ⟨rfl, hb⟩
  have HR := Lib.hid (HR.out.below hb)
  clear hb HB
  obtain ⟨rb, rl, c0, c1, c2, c3, f0, f1, f2, f3⟩ := HR.out
  gi_wp2_with fail
  have HF := (HR.out.set (.slice none 0 0) (.slice none 0 0) (.int .i64 0) (.int .i64 0)).below (al1 _ (.cells #[.int .i64 0, .int .i64 0, .bool false, .bool false, .bool false, .bool false, .bool false, .int .i64 0, .int .i64 0, .int .i64 0, .int .i64 0, .int .i64 0, .slice none 0 0, .slice none 0 0, .int .i64 0, .int .i64 0] 87))
  exact ⟨.tuple #[.agg #[.slice none 0 0, .slice none 0 0, .int .i64 0, .int .i64 0], .int .i64 cd], by simp [results, Try.results40, go_sem, HF.c0, HF.c1, HF.c2, HF.c3], soZ_zero cd HF.be (by have := HF.lt; omega)⟩
set_option maxHeartbeats 8000000 in
set_option maxRecDepth 100000 in
theorem implLap0 (p s c l : Int) (st sk re fe ag : Bool) (p1 p2 : Option Addr) (pn1 pc1 pn2 pc2 : Nat) (xs ys : List Int) (move : Int) (w : World) (h : PosR w p1 p2 pn1 pn2 xs ys) (hk : okP (okR p s c l st ag) p pn1 pn2 0 xs ys = true) (F : Nat) (hF : F < pn1) (hf : 0 * p + move = F) (hm0 : 0 ≤ move) (hm1 : move < p) (he : xs.getD F 0 ≠ 0) :
    Calls Try.prog 40 #[.agg #[.int .i64 p, .int .i64 s, .bool st, .bool sk, .bool re, .bool fe, .bool ag, .int .i64 c, .int .i64 l], .agg #[.slice p1 pn1 pc1, .slice p2 pn2 pc2, .int .i64 0], .int .i64 move] w (SoZ pn1 2 (lst ⟨p, 0, st, sk, re⟩ xs F) 1 0 (cx ⟨p, 0, st, sk, re⟩ xs F (cnt xs F)) (cy ⟨p, 0, st, sk, re⟩ ys F (cnt xs F)) w) := by
  have HR := Lib.hid (rl_new p s c l st sk re fe ag p1 p2 pn1 pc1 pn2 pc2 0 w 31 41 28)
  have hok := okP_parts hk
  have hbd := okR_bd hok.1
  have hn1 := hok.2.1
  have hp2 := hbd.1
  have hp8 := hbd.2.1
  have HL := Lib.hid (lap_of_ok (sk := sk) (re := re) hk h.l1 h.l2 hF he)
  have HB : Hid (∀ u, Below w.heap.size w u → Calls Try.prog 56 #[.agg #[.int .i64 p, .int .i64 s, .bool st, .bool sk, .bool re, .bool fe, .bool ag, .int .i64 c, .int .i64 l], .agg #[.slice p1 pn1 pc1, .slice p2 pn2 pc2, .int .i64 0], .int .i64 move] u (BegY p s c l st sk re fe ag 0 F pn1 xs ys u)) := Lib.hid fun u hu => begin_yes p s c l st sk re fe ag p1 p2 pn1 pc1 pn2 pc2 0 xs ys move u (h.below hu) hk F hF hf hm0 hm1 he
  have hl1 := h.l1
  have hl2 := h.l2
  rw [hok.2.2.1] at hl2
  clear hk hok hbd he h
  refine (callsIn_wide (n := 6)).1 ?_
  refine callsIn_of_wp_marks Try.func40 rfl trivial ?_ rfl
  simp only [Try.ntmps40, List.size_toArray, List.length_cons, List.length_nil, Nat.reduceAdd, Nat.reduceSub, Array.replicate_succ, Array.replicate_zero, List.push_toArray, List.append_toArray, List.nil_append, List.cons_append]
  gi_wp2_with fail
  refine ⟨trivial, ?_⟩
  refine CallsIn.mono (callsIn_wide.2 (HB.out _ HR.out.be)) ?_
  have HE := HR.out.lt
  generalize ((w.alloc (.cells #[.int .i64 p, .int .i64 s, .bool st, .bool sk, .bool re, .bool fe, .bool ag, .int .i64 c, .int .i64 l] 31)).alloc (.cells #[.slice p1 pn1 pc1, .slice p2 pn2 pc2, .int .i64 0] 41)).alloc (.cells #[.slice none 0 0, .slice none 0 0, .int .i64 0, .int .i64 0] 28) = W0 at *
  rintro e u ⟨g1, c1, g2, c2, rfl, o1, o2, hne, hl5, hl6, hc5, hc6, hb⟩
  have HR := Lib.hid (HR.out.below hb)
  have hsz := hb.size
  clear hb HB
  obtain ⟨K, hK⟩ : ∃ K : Cfg, K = ⟨p, s, c, l, st, sk, re, fe, ag, 0, F, W0.heap.size, u.heap.size, g1, c1, g2, c2, pn1⟩ := ⟨_, rfl⟩
  have HK := Lib.hid hK
  have HS := Lib.hid (sw_new K 0 0 0 xs ys u 87 (by rw [hK]) (by rw [hK]; exact o1) (by rw [hK]; exact o2) (by rw [hK]; exact hl1) hl2 (by rw [hK]; exact hne) (by rw [hK]; exact hl5) (by rw [hK]; exact hl6))
  have hg1 := o1.new
  have hg2 := o2.new
  clear o1 o2 hK
  gi_wp2_with fail
  have HR1 := Lib.hid (HR.out.below (al1 u (.cells #[.int .i64 p, .int .i64 s, .bool st, .bool sk, .bool re, .bool fe, .bool ag, .int .i64 c, .int .i64 l, .int .i64 0, .int .i64 F, .int .i64 0, .slice (some ⟨g1, 0, none⟩) pn1 c1, .slice (some ⟨g2, 0, none⟩) 2 c2, .int .i64 0, .int .i64 0] 87)))
  have HS1 : Hid (SwS (u.alloc (.cells #[.int .i64 p, .int .i64 s, .bool st, .bool sk, .bool re, .bool fe, .bool ag, .int .i64 c, .int .i64 l, .int .i64 0, .int .i64 F, .int .i64 0, .slice (some ⟨g1, 0, none⟩) pn1 c1, .slice (some ⟨g2, 0, none⟩) 2 c2, .int .i64 0, .int .i64 0] 87)) K 0 0 0 xs ys) := by
    have h := HS.out
    rw [HK.out] at h ⊢
    exact Lib.hid h
  have hsz1 : (u.alloc (.cells #[.int .i64 p, .int .i64 s, .bool st, .bool sk, .bool re, .bool fe, .bool ag, .int .i64 c, .int .i64 l, .int .i64 0, .int .i64 F, .int .i64 0, .slice (some ⟨g1, 0, none⟩) pn1 c1, .slice (some ⟨g2, 0, none⟩) 2 c2, .int .i64 0, .int .i64 0] 87)).heap.size = u.heap.size + 1 := by simp
  generalize (u.alloc (.cells #[.int .i64 p, .int .i64 s, .bool st, .bool sk, .bool re, .bool fe, .bool ag, .int .i64 c, .int .i64 l, .int .i64 0, .int .i64 F, .int .i64 0, .slice (some ⟨g1, 0, none⟩) pn1 c1, .slice (some ⟨g2, 0, none⟩) 2 c2, .int .i64 0, .int .i64 0] 87)) = W1 at *
  have hKb : K.b = u.heap.size := by rw [HK.out]
  have hKg1 : K.g1 = g1 := by rw [HK.out]
  have hKg2 : K.g2 = g2 := by rw [HK.out]
  have hKc1 : K.c1 = c1 := by rw [HK.out]
  have hKc2 : K.c2 = c2 := by rw [HK.out]
  have hKn1 : K.n1 = pn1 := by rw [HK.out]
  have hKR : K.R = ⟨p, 0, st, sk, re⟩ := by rw [HK.out]; rfl
  have hKB : K.B = W0.heap.size := by rw [HK.out]
  have hb4 : w.heap.size + 3 ≤ K.b := by rw [hKb]; omega
  have hb5 : w.heap.size + 3 ≤ K.g1 := by rw [hKg1]; omega
  have hb6 : w.heap.size + 3 ≤ K.g2 := by rw [hKg2]; omega
  have hW1 : w.heap.size + 3 ≤ W1.heap.size := by omega
  have hlow : K.b < W1.heap.size ∧ K.g1 < W1.heap.size ∧ K.g2 < W1.heap.size := ⟨by omega, by omega, by omega⟩
  rw [← hKb]
  have Hsz1 := Lib.hid hsz1
  have Hsz := Lib.hid hsz
  have HKn := Lib.hid (And.intro hKg1 (And.intro hKg2 (And.intro hKc1 (And.intro hKc2 (And.intro hKn1 (And.intro hKR (And.intro hKB hKb)))))))
  have Hpos := Lib.hid HL.out.num_pos
  clear hsz1 hsz
  refine range_stmt (gf := 57) (fb := #[.pointer (some ⟨K.b, 0, none⟩)]) (cb := #[]) rfl (enters_of Try.func57 (by kernel_rfl) rfl) ?_
  intro fn R hRR
  have hb12 : Below W1.heap.size W1 ((W1.alloc (.deferred (some []))).alloc (.loop (R .ready none))) := ((Below.refl _ W1).alloc (Nat.le_refl _) _).alloc (by simp) _
  have hrc : RecAt ((W1.alloc (.deferred (some []))).alloc (.loop (R .ready none))) (W1.heap.size + 1) W1.heap.size (R .ready none) := laid_loop W1 _
  have hsz2 : ((W1.alloc (.deferred (some []))).alloc (.loop (R .ready none))).heap.size = W1.heap.size + 1 + 1 := by simp
  have HR2 := Lib.hid (HR1.out.low hb12 hW1)
  have HS2 := Lib.hid (HS1.out.low hb12 hlow)
  generalize (W1.alloc (.deferred (some []))).alloc (.loop (R .ready none)) = W2 at *
  have HRR := Lib.hid hRR
  clear hRR
  have Hrc := Lib.hid hrc
  have hKp : K.p = p := by rw [HK.out]
  have Hsz2 := Lib.hid hsz2
  refine (steps_gives0 (6 - 1) K (by rw [HK.out]) (by rw [hKp]; exact hp2) (by rw [hKp]; exact hp8) (by rw [hKn1, hKp]; exact hn1) (tot xs + tot ys) (W1.heap.size + 1) (LpJ w ⟨0, xs, ys, F, []⟩ (W1.heap.size + 1) W1.heap.size R) (LpX w K ⟨0, xs, ys, F, []⟩ (W1.heap.size + 1) W1.heap.size R) W2 ⟨0, xs, ys, F, []⟩ 0 0
    HS2.out (by rw [HK.out]) ⟨by rw [hKR]; exact HL.out, by show 0 ≤ 100; omega⟩ rfl ?_ ?_ ?_ ?_ ⟨rfl, Hpos.out, HR2.out, Hrc.out⟩).mono ?_
  all_goals clear hKb hKg1 hKg2 hKc1 hKc2 hKn1 hKR hKB hKp
  · rintro s2 i A Z ⟨h0, h1, h2, h3⟩ ho
    exact ⟨h0, h1, h2.of_out ho (by omega) hb4 hb5 hb6, h3.of_out ho (by omega) (by omega) hlow.1 hlow.2.1 hlow.2.2 (by omega)⟩
  · rintro A Z ⟨h1, h2, h3⟩ ho
    exact ⟨h1.low ho (by omega), SwS.low h2 ho ⟨by omega, by omega, by omega⟩, ⟨(ho.block _ (by omega)).trans h3.1, (ho.block _ (by omega)).trans h3.2⟩⟩
  · rintro s2 i A hok hi ⟨hs2, hi2, hrs, hrc2⟩ hsw
    subst hs2
    refine yield_mono (R := LpP w K ⟨0, xs, ys, F, []⟩ (W1.heap.size + 1) W1.heap.size R W2.heap.size A ⟨0, xs, ys, F, []⟩ i) ?_ (fun e Z h => h.or)
    refine round_yield HRR.out hrc2.1 rfl ?_
    intro K0 hK0
    clear hsz2
    gi_wp2
    refine ⟨hrc2.1, ?_⟩
    have hsz2 := Hsz2.out
    have hl3 := low_put (B := W1.heap.size) A (.loop (R .busy none)) (show W1.heap.size ≤ W1.heap.size + 1 by omega)
    have Hrs3 := Lib.hid (hrs.low hl3 hW1)
    have Hsw3 := Lib.hid (SwS.low hsw hl3 hlow)
    have Hrc3 := Lib.hid (hrc2.put (r' := R .busy none) (by omega))
    have Hab3 := Lib.hid (Above.putObj (B := W2.heap.size) (A := A) (r := W1.heap.size + 1) (.loop (R .busy none)) (by omega))
    generalize A.putObj (W1.heap.size + 1) (.loop (R .busy none)) = A3 at *
    have q11 := Hsw3.out.q11
    clear hl3 hrs hsw hrc2 hsz2
    by_cases hend : i + 1 = Stg.n ⟨0, xs, ys, F, []⟩
    · have hv : ((Stg.n ⟨0, xs, ys, F, []⟩ : Nat) : Int) - ((i + 1 : Nat) : Int) = 0 := by omega
      rw [hv] at q11
      have Hend := Lib.hid hend
      clear hv hend hi2 hi
      gi_wp2_with fail
      refine ⟨Hrc3.out.1, ⟨.inr ⟨rfl, ⟨Hrs3.out.low (low_put (B := W1.heap.size) _ _ (by omega)) hW1, ?_, Hrc3.out.put (by omega)⟩, Hab3.out.trans (Above.putObj _ (by have := Hsz2.out; omega))⟩⟩⟩
      have h4 := SwS.low Hsw3.out (low_put (B := W1.heap.size) (r := W1.heap.size + 1) A3 (.loop (R .done (some (.exit 0)))) (by omega)) hlow
      rw [Hend.out] at h4
      have e4 : K.R.at F i = lst K.R xs F := by
        unfold lst
        have := Hend.out
        rw [show cnt xs F = i + 1 from this.symm]
        simp
      rw [show Rl.at K.R (Stg.f ⟨0, xs, ys, F, []⟩) i = lst K.R xs F from e4] at h4
      exact h4
    · have hlt : i + 1 < Stg.n ⟨0, xs, ys, F, []⟩ := by omega
      have hv : (((Stg.n ⟨0, xs, ys, F, []⟩ : Nat) : Int) - ((i + 1 : Nat) : Int) == 0) = false := by simp; omega
      have Hlt := Lib.hid hlt
      clear hlt hend hi2 hi
      gi_wp2_with fail
      have hl4 := low_put (B := W1.heap.size) A3 (.loop (R .ready none)) (show W1.heap.size ≤ W1.heap.size + 1 by omega)
      exact ⟨Hrc3.out.1, ⟨.inl ⟨rfl, by show (0 : Nat) < 100; omega, ⟨rfl, Hlt.out, Hrs3.out.low hl4 hW1, Hrc3.out.put (by omega)⟩, SwS.low Hsw3.out hl4 hlow, Hab3.out.trans (Above.putObj _ (by have := Hsz2.out; omega))⟩⟩⟩
  · rintro s2 A hok hj hag ⟨h1, h2, h3, h4⟩
    exact absurd h2 (Nat.lt_irrefl _)
  · rintro e Z ⟨hv, hz⟩
    refine ⟨hv, ?_⟩
    clear hsz2
    rcases hz with ⟨s2, hok, hj, hag, ⟨-, h2, -, -⟩, -⟩ | ⟨hrs, hsw, hrc3⟩
    · exact absurd h2 (Nat.lt_irrefl _)
    · refine .inr ⟨_, hrc3.1, ?_⟩
      have hl3 := low_put (B := W1.heap.size) Z (.loop (R .exhausted (some (.exit 0)))) (show W1.heap.size ≤ W1.heap.size + 1 by omega)
      have Hrs3 := Lib.hid (hrs.low hl3 hW1)
      have Hsw3 := Lib.hid (SwS.low hsw hl3 hlow)
      have Hrc3 := Lib.hid (hrc3.put (r' := R .exhausted (some (.exit 0))) (by omega))
      generalize Z.putObj (W1.heap.size + 1) (.loop (R .exhausted (some (.exit 0)))) = Z2 at *
      obtain ⟨rb, rl, e0, e1, e2, e3, f0, f1, f2, f3⟩ := Hrs3.out
      have q12 := Hsw3.out.q12
      have q13 := Hsw3.out.q13
      have q14 := Hsw3.out.q14
      have q15 := Hsw3.out.q15
      clear hl3 hrs hsw hrc3 hv
      gi_wp2_with fail
      have hrc5 := rec_rl Hrc3.out Hrs3.out (.slice (some ⟨K.g1, 0, none⟩) K.n1 K.c1) (.slice (some ⟨K.g2, 0, none⟩) 2 K.c2) (.int .i64 (lst K.R xs F)) (.int .i64 1)
      refine ⟨by simp, .inl ⟨_, _, rfl, run_takeDeferred hrc5.2, ?_⟩⟩
      have HF := (Hrs3.out.set (.slice (some ⟨K.g1, 0, none⟩) K.n1 K.c1) (.slice (some ⟨K.g2, 0, none⟩) 2 K.c2) (.int .i64 (lst K.R xs F)) (.int .i64 1)).low (low_put (B := W1.heap.size) _ (.deferred none) (Nat.le_refl _)) hW1
      refine ⟨.tuple #[.agg #[.slice (some ⟨K.g1, 0, none⟩) K.n1 K.c1, .slice (some ⟨K.g2, 0, none⟩) 2 K.c2, .int .i64 (lst K.R xs F), .int .i64 1], .int .i64 0], by simp [results, Try.results40, go_sem, HF.c0, HF.c1, HF.c2, HF.c3], ?_⟩
      obtain ⟨kg1, kg2, kc1, kc2, kn1, kR, kB, -⟩ := HKn.out
      have hsz9 : Z2.heap.size ≤ ((((((Z2.setCell ⟨w.heap.size + 1 + 1, 0, none⟩ (.slice (some ⟨K.g1, 0, none⟩) K.n1 K.c1)).setCell ⟨w.heap.size + 1 + 1, 1, none⟩ (.slice (some ⟨K.g2, 0, none⟩) 2 K.c2)).setCell ⟨w.heap.size + 1 + 1, 2, none⟩ (.int .i64 (lst K.R xs F))).setCell ⟨w.heap.size + 1 + 1, 3, none⟩ (.int .i64 1)).putObj W1.heap.size (.deferred none))).heap.size := by simp
      have k1 := (World.putObj_heap_other (o := .deferred none) (w := (((Z2.setCell ⟨w.heap.size + 1 + 1, 0, none⟩ (.slice (some ⟨K.g1, 0, none⟩) K.n1 K.c1)).setCell ⟨w.heap.size + 1 + 1, 1, none⟩ (.slice (some ⟨K.g2, 0, none⟩) 2 K.c2)).setCell ⟨w.heap.size + 1 + 1, 2, none⟩ (.int .i64 (lst K.R xs F))).setCell ⟨w.heap.size + 1 + 1, 3, none⟩ (.int .i64 1)) (show K.g1 ≠ W1.heap.size by have := hlow.2.1; omega)).trans (keep_rl hb5 _ _ _ _)
      have k2 := (World.putObj_heap_other (o := .deferred none) (w := (((Z2.setCell ⟨w.heap.size + 1 + 1, 0, none⟩ (.slice (some ⟨K.g1, 0, none⟩) K.n1 K.c1)).setCell ⟨w.heap.size + 1 + 1, 1, none⟩ (.slice (some ⟨K.g2, 0, none⟩) 2 K.c2)).setCell ⟨w.heap.size + 1 + 1, 2, none⟩ (.int .i64 (lst K.R xs F))).setCell ⟨w.heap.size + 1 + 1, 3, none⟩ (.int .i64 1)) (show K.g2 ≠ W1.heap.size by have := hlow.2.2; omega)).trans (keep_rl hb6 _ _ _ _)
      have hS := Hsw3.out
      have oo1 := (OutN.keep hS.o1 k1 hsz9).lower (C := w.heap.size) (by rw [kB]; omega)
      have oo2 := (OutN.keep hS.o2 k2 hsz9).lower (C := w.heap.size) (by rw [kB]; omega)
      have g1lt := hS.h1
      have g2lt := hS.h2
      rw [← kR, ← kn1]
      exact ⟨some ⟨K.g1, 0, none⟩, K.c1, K.g1, some ⟨K.g2, 0, none⟩, K.c2, K.g2, rfl, ⟨oo1, oo2, hS.d3, hS.l1, hS.l2⟩, by omega, by omega, by rw [kn1, kc1]; exact hc5, by rw [kc2]; exact hc6, HF.be⟩
set_option maxHeartbeats 8000000 in
set_option maxRecDepth 100000 in
theorem implLap1 (p s c l : Int) (st sk re fe ag : Bool) (p1 p2 : Option Addr) (pn1 pc1 pn2 pc2 : Nat) (xs ys : List Int) (move : Int) (w : World) (h : PosR w p1 p2 pn1 pn2 xs ys) (hk : okP (okR p s c l st ag) p pn1 pn2 1 xs ys = true) (F : Nat) (hF : F < pn1) (hf : 1 * p + move = F) (hm0 : 0 ≤ move) (hm1 : move < p) (he : xs.getD F 0 ≠ 0) :
    Calls Try.prog 40 #[.agg #[.int .i64 p, .int .i64 s, .bool st, .bool sk, .bool re, .bool fe, .bool ag, .int .i64 c, .int .i64 l], .agg #[.slice p1 pn1 pc1, .slice p2 pn2 pc2, .int .i64 1], .int .i64 move] w (SoZ pn1 2 (lst ⟨p, 1, st, sk, re⟩ xs F) 1 0 (cx ⟨p, 1, st, sk, re⟩ xs F (cnt xs F)) (cy ⟨p, 1, st, sk, re⟩ ys F (cnt xs F)) w) := by
  have HR := Lib.hid (rl_new p s c l st sk re fe ag p1 p2 pn1 pc1 pn2 pc2 1 w 31 41 28)
  have hok := okP_parts hk
  have hbd := okR_bd hok.1
  have hn1 := hok.2.1
  have hp2 := hbd.1
  have hp8 := hbd.2.1
  have HL := Lib.hid (lap_of_ok (sk := sk) (re := re) hk h.l1 h.l2 hF he)
  have HB : Hid (∀ u, Below w.heap.size w u → Calls Try.prog 56 #[.agg #[.int .i64 p, .int .i64 s, .bool st, .bool sk, .bool re, .bool fe, .bool ag, .int .i64 c, .int .i64 l], .agg #[.slice p1 pn1 pc1, .slice p2 pn2 pc2, .int .i64 1], .int .i64 move] u (BegY p s c l st sk re fe ag 1 F pn1 xs ys u)) := Lib.hid fun u hu => begin_yes p s c l st sk re fe ag p1 p2 pn1 pc1 pn2 pc2 1 xs ys move u (h.below hu) hk F hF hf hm0 hm1 he
  have hl1 := h.l1
  have hl2 := h.l2
  rw [hok.2.2.1] at hl2
  clear hk hok hbd he h
  refine (callsIn_wide (n := 6)).1 ?_
  refine callsIn_of_wp_marks Try.func40 rfl trivial ?_ rfl
  simp only [Try.ntmps40, List.size_toArray, List.length_cons, List.length_nil, Nat.reduceAdd, Nat.reduceSub, Array.replicate_succ, Array.replicate_zero, List.push_toArray, List.append_toArray, List.nil_append, List.cons_append]
  gi_wp2_with fail
  refine ⟨trivial, ?_⟩
  refine CallsIn.mono (callsIn_wide.2 (HB.out _ HR.out.be)) ?_
  have HE := HR.out.lt
  generalize ((w.alloc (.cells #[.int .i64 p, .int .i64 s, .bool st, .bool sk, .bool re, .bool fe, .bool ag, .int .i64 c, .int .i64 l] 31)).alloc (.cells #[.slice p1 pn1 pc1, .slice p2 pn2 pc2, .int .i64 1] 41)).alloc (.cells #[.slice none 0 0, .slice none 0 0, .int .i64 0, .int .i64 0] 28) = W0 at *
  rintro e u ⟨g1, c1, g2, c2, rfl, o1, o2, hne, hl5, hl6, hc5, hc6, hb⟩
  have HR := Lib.hid (HR.out.below hb)
  have hsz := hb.size
  clear hb HB
  obtain ⟨K, hK⟩ : ∃ K : Cfg, K = ⟨p, s, c, l, st, sk, re, fe, ag, 1, F, W0.heap.size, u.heap.size, g1, c1, g2, c2, pn1⟩ := ⟨_, rfl⟩
  have HK := Lib.hid hK
  have HS := Lib.hid (sw_new K 0 0 0 xs ys u 87 (by rw [hK]) (by rw [hK]; exact o1) (by rw [hK]; exact o2) (by rw [hK]; exact hl1) hl2 (by rw [hK]; exact hne) (by rw [hK]; exact hl5) (by rw [hK]; exact hl6))
  have hg1 := o1.new
  have hg2 := o2.new
  clear o1 o2 hK
  gi_wp2_with fail
  have HR1 := Lib.hid (HR.out.below (al1 u (.cells #[.int .i64 p, .int .i64 s, .bool st, .bool sk, .bool re, .bool fe, .bool ag, .int .i64 c, .int .i64 l, .int .i64 1, .int .i64 F, .int .i64 0, .slice (some ⟨g1, 0, none⟩) pn1 c1, .slice (some ⟨g2, 0, none⟩) 2 c2, .int .i64 0, .int .i64 0] 87)))
  have HS1 : Hid (SwS (u.alloc (.cells #[.int .i64 p, .int .i64 s, .bool st, .bool sk, .bool re, .bool fe, .bool ag, .int .i64 c, .int .i64 l, .int .i64 1, .int .i64 F, .int .i64 0, .slice (some ⟨g1, 0, none⟩) pn1 c1, .slice (some ⟨g2, 0, none⟩) 2 c2, .int .i64 0, .int .i64 0] 87)) K 0 0 0 xs ys) := by
    have h := HS.out
    rw [HK.out] at h ⊢
    exact Lib.hid h
  have hsz1 : (u.alloc (.cells #[.int .i64 p, .int .i64 s, .bool st, .bool sk, .bool re, .bool fe, .bool ag, .int .i64 c, .int .i64 l, .int .i64 1, .int .i64 F, .int .i64 0, .slice (some ⟨g1, 0, none⟩) pn1 c1, .slice (some ⟨g2, 0, none⟩) 2 c2, .int .i64 0, .int .i64 0] 87)).heap.size = u.heap.size + 1 := by simp
  generalize (u.alloc (.cells #[.int .i64 p, .int .i64 s, .bool st, .bool sk, .bool re, .bool fe, .bool ag, .int .i64 c, .int .i64 l, .int .i64 1, .int .i64 F, .int .i64 0, .slice (some ⟨g1, 0, none⟩) pn1 c1, .slice (some ⟨g2, 0, none⟩) 2 c2, .int .i64 0, .int .i64 0] 87)) = W1 at *
  have hKb : K.b = u.heap.size := by rw [HK.out]
  have hKg1 : K.g1 = g1 := by rw [HK.out]
  have hKg2 : K.g2 = g2 := by rw [HK.out]
  have hKc1 : K.c1 = c1 := by rw [HK.out]
  have hKc2 : K.c2 = c2 := by rw [HK.out]
  have hKn1 : K.n1 = pn1 := by rw [HK.out]
  have hKR : K.R = ⟨p, 1, st, sk, re⟩ := by rw [HK.out]; rfl
  have hKB : K.B = W0.heap.size := by rw [HK.out]
  have hb4 : w.heap.size + 3 ≤ K.b := by rw [hKb]; omega
  have hb5 : w.heap.size + 3 ≤ K.g1 := by rw [hKg1]; omega
  have hb6 : w.heap.size + 3 ≤ K.g2 := by rw [hKg2]; omega
  have hW1 : w.heap.size + 3 ≤ W1.heap.size := by omega
  have hlow : K.b < W1.heap.size ∧ K.g1 < W1.heap.size ∧ K.g2 < W1.heap.size := ⟨by omega, by omega, by omega⟩
  rw [← hKb]
  have Hsz1 := Lib.hid hsz1
  have Hsz := Lib.hid hsz
  have HKn := Lib.hid (And.intro hKg1 (And.intro hKg2 (And.intro hKc1 (And.intro hKc2 (And.intro hKn1 (And.intro hKR (And.intro hKB hKb)))))))
  have Hpos := Lib.hid HL.out.num_pos
  clear hsz1 hsz
  refine range_stmt (gf := 57) (fb := #[.pointer (some ⟨K.b, 0, none⟩)]) (cb := #[]) rfl (enters_of Try.func57 (by kernel_rfl) rfl) ?_
  intro fn R hRR
  have hb12 : Below W1.heap.size W1 ((W1.alloc (.deferred (some []))).alloc (.loop (R .ready none))) := ((Below.refl _ W1).alloc (Nat.le_refl _) _).alloc (by simp) _
  have hrc : RecAt ((W1.alloc (.deferred (some []))).alloc (.loop (R .ready none))) (W1.heap.size + 1) W1.heap.size (R .ready none) := laid_loop W1 _
  have hsz2 : ((W1.alloc (.deferred (some []))).alloc (.loop (R .ready none))).heap.size = W1.heap.size + 1 + 1 := by simp
  have HR2 := Lib.hid (HR1.out.low hb12 hW1)
  have HS2 := Lib.hid (HS1.out.low hb12 hlow)
  generalize (W1.alloc (.deferred (some []))).alloc (.loop (R .ready none)) = W2 at *
  have HRR := Lib.hid hRR
  clear hRR
  have Hrc := Lib.hid hrc
  have hKp : K.p = p := by rw [HK.out]
  have Hsz2 := Lib.hid hsz2
  refine (steps_gives1 (6 - 1) K (by rw [HK.out]) (by rw [hKp]; exact hp2) (by rw [hKp]; exact hp8) (by rw [hKn1, hKp]; exact hn1) (tot xs + tot ys) (W1.heap.size + 1) (LpJ w ⟨0, xs, ys, F, []⟩ (W1.heap.size + 1) W1.heap.size R) (LpX w K ⟨0, xs, ys, F, []⟩ (W1.heap.size + 1) W1.heap.size R) W2 ⟨0, xs, ys, F, []⟩ 0 0
    HS2.out (by rw [HK.out]) ⟨by rw [hKR]; exact HL.out, by show 0 ≤ 100; omega⟩ rfl ?_ ?_ ?_ ?_ ⟨rfl, Hpos.out, HR2.out, Hrc.out⟩).mono ?_
  all_goals clear hKb hKg1 hKg2 hKc1 hKc2 hKn1 hKR hKB hKp
  · rintro s2 i A Z ⟨h0, h1, h2, h3⟩ ho
    exact ⟨h0, h1, h2.of_out ho (by omega) hb4 hb5 hb6, h3.of_out ho (by omega) (by omega) hlow.1 hlow.2.1 hlow.2.2 (by omega)⟩
  · rintro A Z ⟨h1, h2, h3⟩ ho
    exact ⟨h1.low ho (by omega), SwS.low h2 ho ⟨by omega, by omega, by omega⟩, ⟨(ho.block _ (by omega)).trans h3.1, (ho.block _ (by omega)).trans h3.2⟩⟩
  · rintro s2 i A hok hi ⟨hs2, hi2, hrs, hrc2⟩ hsw
    subst hs2
    refine yield_mono (R := LpP w K ⟨0, xs, ys, F, []⟩ (W1.heap.size + 1) W1.heap.size R W2.heap.size A ⟨0, xs, ys, F, []⟩ i) ?_ (fun e Z h => h.or)
    refine round_yield HRR.out hrc2.1 rfl ?_
    intro K0 hK0
    clear hsz2
    gi_wp2
    refine ⟨hrc2.1, ?_⟩
    have hsz2 := Hsz2.out
    have hl3 := low_put (B := W1.heap.size) A (.loop (R .busy none)) (show W1.heap.size ≤ W1.heap.size + 1 by omega)
    have Hrs3 := Lib.hid (hrs.low hl3 hW1)
    have Hsw3 := Lib.hid (SwS.low hsw hl3 hlow)
    have Hrc3 := Lib.hid (hrc2.put (r' := R .busy none) (by omega))
    have Hab3 := Lib.hid (Above.putObj (B := W2.heap.size) (A := A) (r := W1.heap.size + 1) (.loop (R .busy none)) (by omega))
    generalize A.putObj (W1.heap.size + 1) (.loop (R .busy none)) = A3 at *
    have q11 := Hsw3.out.q11
    clear hl3 hrs hsw hrc2 hsz2
    by_cases hend : i + 1 = Stg.n ⟨0, xs, ys, F, []⟩
    · have hv : ((Stg.n ⟨0, xs, ys, F, []⟩ : Nat) : Int) - ((i + 1 : Nat) : Int) = 0 := by omega
      rw [hv] at q11
      have Hend := Lib.hid hend
      clear hv hend hi2 hi
      gi_wp2_with fail
      refine ⟨Hrc3.out.1, ⟨.inr ⟨rfl, ⟨Hrs3.out.low (low_put (B := W1.heap.size) _ _ (by omega)) hW1, ?_, Hrc3.out.put (by omega)⟩, Hab3.out.trans (Above.putObj _ (by have := Hsz2.out; omega))⟩⟩⟩
      have h4 := SwS.low Hsw3.out (low_put (B := W1.heap.size) (r := W1.heap.size + 1) A3 (.loop (R .done (some (.exit 0)))) (by omega)) hlow
      rw [Hend.out] at h4
      have e4 : K.R.at F i = lst K.R xs F := by
        unfold lst
        have := Hend.out
        rw [show cnt xs F = i + 1 from this.symm]
        simp
      rw [show Rl.at K.R (Stg.f ⟨0, xs, ys, F, []⟩) i = lst K.R xs F from e4] at h4
      exact h4
    · have hlt : i + 1 < Stg.n ⟨0, xs, ys, F, []⟩ := by omega
      have hv : (((Stg.n ⟨0, xs, ys, F, []⟩ : Nat) : Int) - ((i + 1 : Nat) : Int) == 0) = false := by simp; omega
      have Hlt := Lib.hid hlt
      clear hlt hend hi2 hi
      gi_wp2_with fail
      have hl4 := low_put (B := W1.heap.size) A3 (.loop (R .ready none)) (show W1.heap.size ≤ W1.heap.size + 1 by omega)
      exact ⟨Hrc3.out.1, ⟨.inl ⟨rfl, by show (0 : Nat) < 100; omega, ⟨rfl, Hlt.out, Hrs3.out.low hl4 hW1, Hrc3.out.put (by omega)⟩, SwS.low Hsw3.out hl4 hlow, Hab3.out.trans (Above.putObj _ (by have := Hsz2.out; omega))⟩⟩⟩
  · rintro s2 A hok hj hag ⟨h1, h2, h3, h4⟩
    exact absurd h2 (Nat.lt_irrefl _)
  · rintro e Z ⟨hv, hz⟩
    refine ⟨hv, ?_⟩
    clear hsz2
    rcases hz with ⟨s2, hok, hj, hag, ⟨-, h2, -, -⟩, -⟩ | ⟨hrs, hsw, hrc3⟩
    · exact absurd h2 (Nat.lt_irrefl _)
    · refine .inr ⟨_, hrc3.1, ?_⟩
      have hl3 := low_put (B := W1.heap.size) Z (.loop (R .exhausted (some (.exit 0)))) (show W1.heap.size ≤ W1.heap.size + 1 by omega)
      have Hrs3 := Lib.hid (hrs.low hl3 hW1)
      have Hsw3 := Lib.hid (SwS.low hsw hl3 hlow)
      have Hrc3 := Lib.hid (hrc3.put (r' := R .exhausted (some (.exit 0))) (by omega))
      generalize Z.putObj (W1.heap.size + 1) (.loop (R .exhausted (some (.exit 0)))) = Z2 at *
      obtain ⟨rb, rl, e0, e1, e2, e3, f0, f1, f2, f3⟩ := Hrs3.out
      have q12 := Hsw3.out.q12
      have q13 := Hsw3.out.q13
      have q14 := Hsw3.out.q14
      have q15 := Hsw3.out.q15
      clear hl3 hrs hsw hrc3 hv
      gi_wp2_with fail
      have hrc5 := rec_rl Hrc3.out Hrs3.out (.slice (some ⟨K.g1, 0, none⟩) K.n1 K.c1) (.slice (some ⟨K.g2, 0, none⟩) 2 K.c2) (.int .i64 (lst K.R xs F)) (.int .i64 1)
      refine ⟨by simp, .inl ⟨_, _, rfl, run_takeDeferred hrc5.2, ?_⟩⟩
      have HF := (Hrs3.out.set (.slice (some ⟨K.g1, 0, none⟩) K.n1 K.c1) (.slice (some ⟨K.g2, 0, none⟩) 2 K.c2) (.int .i64 (lst K.R xs F)) (.int .i64 1)).low (low_put (B := W1.heap.size) _ (.deferred none) (Nat.le_refl _)) hW1
      refine ⟨.tuple #[.agg #[.slice (some ⟨K.g1, 0, none⟩) K.n1 K.c1, .slice (some ⟨K.g2, 0, none⟩) 2 K.c2, .int .i64 (lst K.R xs F), .int .i64 1], .int .i64 0], by simp [results, Try.results40, go_sem, HF.c0, HF.c1, HF.c2, HF.c3], ?_⟩
      obtain ⟨kg1, kg2, kc1, kc2, kn1, kR, kB, -⟩ := HKn.out
      have hsz9 : Z2.heap.size ≤ ((((((Z2.setCell ⟨w.heap.size + 1 + 1, 0, none⟩ (.slice (some ⟨K.g1, 0, none⟩) K.n1 K.c1)).setCell ⟨w.heap.size + 1 + 1, 1, none⟩ (.slice (some ⟨K.g2, 0, none⟩) 2 K.c2)).setCell ⟨w.heap.size + 1 + 1, 2, none⟩ (.int .i64 (lst K.R xs F))).setCell ⟨w.heap.size + 1 + 1, 3, none⟩ (.int .i64 1)).putObj W1.heap.size (.deferred none))).heap.size := by simp
      have k1 := (World.putObj_heap_other (o := .deferred none) (w := (((Z2.setCell ⟨w.heap.size + 1 + 1, 0, none⟩ (.slice (some ⟨K.g1, 0, none⟩) K.n1 K.c1)).setCell ⟨w.heap.size + 1 + 1, 1, none⟩ (.slice (some ⟨K.g2, 0, none⟩) 2 K.c2)).setCell ⟨w.heap.size + 1 + 1, 2, none⟩ (.int .i64 (lst K.R xs F))).setCell ⟨w.heap.size + 1 + 1, 3, none⟩ (.int .i64 1)) (show K.g1 ≠ W1.heap.size by have := hlow.2.1; omega)).trans (keep_rl hb5 _ _ _ _)
      have k2 := (World.putObj_heap_other (o := .deferred none) (w := (((Z2.setCell ⟨w.heap.size + 1 + 1, 0, none⟩ (.slice (some ⟨K.g1, 0, none⟩) K.n1 K.c1)).setCell ⟨w.heap.size + 1 + 1, 1, none⟩ (.slice (some ⟨K.g2, 0, none⟩) 2 K.c2)).setCell ⟨w.heap.size + 1 + 1, 2, none⟩ (.int .i64 (lst K.R xs F))).setCell ⟨w.heap.size + 1 + 1, 3, none⟩ (.int .i64 1)) (show K.g2 ≠ W1.heap.size by have := hlow.2.2; omega)).trans (keep_rl hb6 _ _ _ _)
      have hS := Hsw3.out
      have oo1 := (OutN.keep hS.o1 k1 hsz9).lower (C := w.heap.size) (by rw [kB]; omega)
      have oo2 := (OutN.keep hS.o2 k2 hsz9).lower (C := w.heap.size) (by rw [kB]; omega)
      have g1lt := hS.h1
      have g2lt := hS.h2
      rw [← kR, ← kn1]
      exact ⟨some ⟨K.g1, 0, none⟩, K.c1, K.g1, some ⟨K.g2, 0, none⟩, K.c2, K.g2, rfl, ⟨oo1, oo2, hS.d3, hS.l1, hS.l2⟩, by omega, by omega, by rw [kn1, kc1]; exact hc5, by rw [kc2]; exact hc6, HF.be⟩
end Go.Proofs.Ythbkdlidpdliaaa
