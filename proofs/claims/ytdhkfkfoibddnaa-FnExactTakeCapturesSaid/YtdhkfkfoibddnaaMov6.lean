/- A whole move, as the program makes it. No conditions. -/
import Derived.Test.YtdhkfkfoibddnaaMov5
namespace Go.Proofs.Ytdhkfkfoibddnaa
open Go.RowKit Go.Shelf
attribute [local go_sem] Oper.semAt_some
set_option linter.unusedVariables false

theorem lap_of_ok {p s c l pp : Int} {st sk re ag : Bool} {n1 n2 : Nat} {xs ys : List Int} {F : Nat} (hk : okP (okR p s c l st ag) p n1 n2 pp xs ys = true) (l1 : xs.length = n1) (l2 : ys.length = n2) (hF : F < n1) (he : xs.getD F 0 ≠ 0) : Lap ⟨p, pp, st, sk, re⟩ xs ys F (tot xs + tot ys) := by
  obtain ⟨h1, h2, h3, h4, h5⟩ := okP_parts hk
  obtain ⟨k1, k2, k3⟩ := seedB_parts h5
  have := posB_getD k1 F
  exact ⟨⟨by show (xs.length : Int) = 2 * p; rw [l1]; exact h2, by rw [l2, h3], k1, k2, rfl⟩, by omega, by show (F : Int) < 2 * p; omega, by rw [Int.toNat_natCast]; omega, k3⟩
/-- What a move answers. -/
def MvQ (n1 : Nat) (MV : Option Res) (w : World) (e : Ending) (w' : World) : Prop :=
  match MV with
  | none => SoZ 0 0 0 0 10 [] [] w e w'
  | some m => SoZ n1 2 m.last m.laps 0 m.xs m.ys w e w'
theorem yield_mono {F : Fence} {m : Nat} {P : Program} {l : Nat} {args : Array Value} {W : World} {R R' : Ending → World → Prop} (h : YieldAt F m P l args W R) (hr : ∀ e w, R e w → R' e w) : YieldAt F m P l args W R' := by
  obtain ⟨fn, tmps, assign, body, hy, hR⟩ := h
  exact ⟨fn, tmps, assign, body, hy, RoundIn.mono hR hr⟩
/-- What a round of the move's loop leaves: the caller's word for it, closed. -/
structure MoP (w : World) (K : Cfg) (MV : Option Res) (L D : Nat) (R : LoopState → Option Code → Loop) (B : Nat) (A : World) (s : Stg) (i : Nat) (e : Ending) (Z : World) : Prop where
  or : (e = .returned (.bool true) ∧ s.j < 100 ∧ MoJ w K MV L D R s (i + 1) Z ∧ StW Z K s (i + 1) (K.R.at s.f i) ∧ Above B A Z) ∨ (e = .returned (.bool false) ∧ MoX w MV L D R Z ∧ Above B A Z)
set_option maxHeartbeats 8000000 in
set_option maxRecDepth 100000 in
theorem implMove_err (p s c l : Int) (st sk re fe ag : Bool) (p1 p2 : Option Addr) (pn1 pc1 pn2 pc2 : Nat) (pp : Int) (move cd : Int) (hcd : (cd == 0) = false) (w : World) (hb : ∀ u, Below w.heap.size w u → Calls Try.prog 87 #[.agg #[.int .i64 p, .int .i64 s, .bool st, .bool sk, .bool re, .bool fe, .bool ag, .int .i64 c, .int .i64 l], .agg #[.slice p1 pn1 pc1, .slice p2 pn2 pc2, .int .i64 pp], .int .i64 move] u (BegZ cd u)) :
    Calls Try.prog 70 #[.agg #[.int .i64 p, .int .i64 s, .bool st, .bool sk, .bool re, .bool fe, .bool ag, .int .i64 c, .int .i64 l], .agg #[.slice p1 pn1 pc1, .slice p2 pn2 pc2, .int .i64 pp], .int .i64 move] w (SoZ 0 0 0 0 cd [] [] w) := by
  have HB := Lib.hid hb
  have HR := Lib.hid (rv_new p s c l st sk re fe ag p1 p2 pn1 pc1 pn2 pc2 pp w 30 32 50 2)
  clear hb
  refine (callsIn_wide (n := 6)).1 ?_
  refine callsIn_of_wp_marks Try.func70 rfl trivial ?_ rfl
  simp only [Try.ntmps70, List.size_toArray, List.length_cons, List.length_nil, Nat.reduceAdd, Nat.reduceSub, Array.replicate_succ, Array.replicate_zero, List.push_toArray, List.append_toArray, List.nil_append, List.cons_append]
  gi_wp2_with fail
  refine ⟨trivial, ?_⟩
  refine CallsIn.mono (callsIn_wide.2 (HB.out _ HR.out.be)) ?_
  rintro e u ⟨rfl, hb⟩
  have HR := Lib.hid (HR.out.below hb)
  clear hb HB
  obtain ⟨rb, rl, c0, c1, c2, c3, c4, f0, f1, f2, f3, f4⟩ := HR.out
  have rl2 : w.heap.size + 1 + 1 < u.heap.size := by omega
  gi_wp2_with fail
  have HF := (HR.out.set (.slice none 0 0) (.slice none 0 0) (.int .i64 0) (.int .i64 0) cd).below (al1 _ (.cells #[.int .i64 0, .int .i64 0, .bool false, .bool false, .bool false, .bool false, .bool false, .int .i64 0, .int .i64 0, .int .i64 0, .int .i64 0, .int .i64 0, .slice none 0 0, .slice none 0 0, .int .i64 0, .int .i64 0] 109))
  exact ⟨.tuple #[.agg #[.slice none 0 0, .slice none 0 0, .int .i64 0, .int .i64 0], .int .i64 cd], by simp [results, Try.results70, go_sem, HF.c0, HF.c1, HF.c2, HF.c3, HF.c4], soZ_zero cd HF.be (by have := HF.lt; omega)⟩
set_option maxHeartbeats 8000000 in
set_option maxRecDepth 100000 in
theorem implMove0 (p s c l : Int) (st sk re fe ag : Bool) (p1 p2 : Option Addr) (pn1 pc1 pn2 pc2 : Nat) (xs ys : List Int) (move : Int) (w : World) (h : PosR w p1 p2 pn1 pn2 xs ys) (hk : okP (okR p s c l st ag) p pn1 pn2 0 xs ys = true) (F : Nat) (hF : F < pn1) (hf : 0 * p + move = F) (hm0 : 0 ≤ move) (hm1 : move < p) (he : xs.getD F 0 ≠ 0)
    (MV : Option Res) (hMV : mvF ⟨p, 0, st, sk, re⟩ 100 xs ys F 0 [] = MV) :
    Calls Try.prog 70 #[.agg #[.int .i64 p, .int .i64 s, .bool st, .bool sk, .bool re, .bool fe, .bool ag, .int .i64 c, .int .i64 l], .agg #[.slice p1 pn1 pc1, .slice p2 pn2 pc2, .int .i64 0], .int .i64 move] w (MvQ pn1 MV w) := by
  have HR := Lib.hid (rv_new p s c l st sk re fe ag p1 p2 pn1 pc1 pn2 pc2 0 w 30 32 50 2)
  have hok := okP_parts hk
  have hbd := okR_bd hok.1
  have hn1 := hok.2.1
  have hp2 := hbd.1
  have hp8 := hbd.2.1
  have HL := Lib.hid (lap_of_ok (sk := sk) (re := re) hk h.l1 h.l2 hF he)
  have HB : Hid (∀ u, Below w.heap.size w u → Calls Try.prog 87 #[.agg #[.int .i64 p, .int .i64 s, .bool st, .bool sk, .bool re, .bool fe, .bool ag, .int .i64 c, .int .i64 l], .agg #[.slice p1 pn1 pc1, .slice p2 pn2 pc2, .int .i64 0], .int .i64 move] u (BegY p s c l st sk re fe ag 0 F pn1 xs ys u)) := Lib.hid fun u hu => begin_yes p s c l st sk re fe ag p1 p2 pn1 pc1 pn2 pc2 0 xs ys move u (h.below hu) hk F hF hf hm0 hm1 he
  have HMV := Lib.hid hMV
  have hl1 := h.l1
  have hl2 := h.l2
  rw [hok.2.2.1] at hl2
  clear hk hok hbd hMV he h
  refine (callsIn_wide (n := 6)).1 ?_
  refine callsIn_of_wp_marks Try.func70 rfl trivial ?_ rfl
  simp only [Try.ntmps70, List.size_toArray, List.length_cons, List.length_nil, Nat.reduceAdd, Nat.reduceSub, Array.replicate_succ, Array.replicate_zero, List.push_toArray, List.append_toArray, List.nil_append, List.cons_append]
  gi_wp2_with fail
  refine ⟨trivial, ?_⟩
  refine CallsIn.mono (callsIn_wide.2 (HB.out _ HR.out.be)) ?_
  have HE := HR.out.lt
  generalize (((w.alloc (.cells #[.int .i64 p, .int .i64 s, .bool st, .bool sk, .bool re, .bool fe, .bool ag, .int .i64 c, .int .i64 l] 30)).alloc (.cells #[.slice p1 pn1 pc1, .slice p2 pn2 pc2, .int .i64 0] 32)).alloc (.cells #[.slice none 0 0, .slice none 0 0, .int .i64 0, .int .i64 0] 50)).alloc (.cells #[.int .i64 0] 2) = W0 at *
  rintro e u ⟨g1, c1, g2, c2, rfl, o1, o2, hne, hl5, hl6, hc5, hc6, hb⟩
  have HR := Lib.hid (HR.out.below hb)
  have hsz := hb.size
  clear hb HB
  obtain ⟨K, hK⟩ : ∃ K : Cfg, K = ⟨p, s, c, l, st, sk, re, fe, ag, 0, F, W0.heap.size, u.heap.size, g1, c1, g2, c2, pn1⟩ := ⟨_, rfl⟩
  have HK := Lib.hid hK
  have HS := Lib.hid (sw_new K 0 0 0 xs ys u 109 (by rw [hK]) (by rw [hK]; exact o1) (by rw [hK]; exact o2) (by rw [hK]; exact hl1) hl2 (by rw [hK]; exact hne) (by rw [hK]; exact hl5) (by rw [hK]; exact hl6))
  have hg1 := o1.new
  have hg2 := o2.new
  clear o1 o2 hK
  gi_wp2_with fail
  have HR1 := Lib.hid (HR.out.below (al1 u (.cells #[.int .i64 p, .int .i64 s, .bool st, .bool sk, .bool re, .bool fe, .bool ag, .int .i64 c, .int .i64 l, .int .i64 0, .int .i64 F, .int .i64 0, .slice (some ⟨g1, 0, none⟩) pn1 c1, .slice (some ⟨g2, 0, none⟩) 2 c2, .int .i64 0, .int .i64 0] 109)))
  have HS1 : Hid (SwS (u.alloc (.cells #[.int .i64 p, .int .i64 s, .bool st, .bool sk, .bool re, .bool fe, .bool ag, .int .i64 c, .int .i64 l, .int .i64 0, .int .i64 F, .int .i64 0, .slice (some ⟨g1, 0, none⟩) pn1 c1, .slice (some ⟨g2, 0, none⟩) 2 c2, .int .i64 0, .int .i64 0] 109)) K 0 0 0 xs ys) := by
    have h := HS.out
    rw [HK.out] at h ⊢
    exact Lib.hid h
  have hsz1 : (u.alloc (.cells #[.int .i64 p, .int .i64 s, .bool st, .bool sk, .bool re, .bool fe, .bool ag, .int .i64 c, .int .i64 l, .int .i64 0, .int .i64 F, .int .i64 0, .slice (some ⟨g1, 0, none⟩) pn1 c1, .slice (some ⟨g2, 0, none⟩) 2 c2, .int .i64 0, .int .i64 0] 109)).heap.size = u.heap.size + 1 := by simp
  generalize (u.alloc (.cells #[.int .i64 p, .int .i64 s, .bool st, .bool sk, .bool re, .bool fe, .bool ag, .int .i64 c, .int .i64 l, .int .i64 0, .int .i64 F, .int .i64 0, .slice (some ⟨g1, 0, none⟩) pn1 c1, .slice (some ⟨g2, 0, none⟩) 2 c2, .int .i64 0, .int .i64 0] 109)) = W1 at *
  have hKb : K.b = u.heap.size := by rw [HK.out]
  have hKg1 : K.g1 = g1 := by rw [HK.out]
  have hKg2 : K.g2 = g2 := by rw [HK.out]
  have hKc1 : K.c1 = c1 := by rw [HK.out]
  have hKc2 : K.c2 = c2 := by rw [HK.out]
  have hKn1 : K.n1 = pn1 := by rw [HK.out]
  have hKR : K.R = ⟨p, 0, st, sk, re⟩ := by rw [HK.out]; rfl
  have hKB : K.B = W0.heap.size := by rw [HK.out]
  have hb4 : w.heap.size + 4 ≤ K.b := by rw [hKb]; omega
  have hb5 : w.heap.size + 4 ≤ K.g1 := by rw [hKg1]; omega
  have hb6 : w.heap.size + 4 ≤ K.g2 := by rw [hKg2]; omega
  have hW1 : w.heap.size + 4 ≤ W1.heap.size := by omega
  have hlow : K.b < W1.heap.size ∧ K.g1 < W1.heap.size ∧ K.g2 < W1.heap.size := ⟨by omega, by omega, by omega⟩
  rw [← hKb]
  have Hsz1 := Lib.hid hsz1
  have Hsz := Lib.hid hsz
  have HKn := Lib.hid (And.intro hKg1 (And.intro hKg2 (And.intro hKc1 (And.intro hKc2 (And.intro hKn1 (And.intro hKR (And.intro hKB hKb)))))))
  clear hsz1 hsz
  refine range_stmt (gf := 88) (fb := #[.pointer (some ⟨K.b, 0, none⟩)]) (cb := #[]) rfl (enters_of Try.func88 (by kernel_rfl) rfl) ?_
  intro fn R hRR
  have hb12 : Below W1.heap.size W1 ((W1.alloc (.deferred (some []))).alloc (.loop (R .ready none))) := ((Below.refl _ W1).alloc (Nat.le_refl _) _).alloc (by simp) _
  have hrc : RecAt ((W1.alloc (.deferred (some []))).alloc (.loop (R .ready none))) (W1.heap.size + 1) W1.heap.size (R .ready none) := laid_loop W1 _
  have hsz2 : ((W1.alloc (.deferred (some []))).alloc (.loop (R .ready none))).heap.size = W1.heap.size + 1 + 1 := by simp
  have HR2 := Lib.hid (HR1.out.low hb12 hW1)
  have HS2 := Lib.hid (HS1.out.low hb12 hlow)
  generalize (W1.alloc (.deferred (some []))).alloc (.loop (R .ready none)) = W2 at *
  have HRR := Lib.hid hRR
  clear hRR
  have Hrc := Lib.hid hrc
  have hKp : K.p = p := by rw [HK.out]
  have Hsz2 := Lib.hid hsz2
  refine (steps_gives0 (6 - 1) K (by rw [HK.out]) (by rw [hKp]; exact hp2) (by rw [hKp]; exact hp8) (by rw [hKn1, hKp]; exact hn1) (tot xs + tot ys) (W1.heap.size + 1) (MoJ w K MV (W1.heap.size + 1) W1.heap.size R) (MoX w MV (W1.heap.size + 1) W1.heap.size R) W2 ⟨0, xs, ys, F, []⟩ 0 0
    HS2.out (by rw [HK.out]) ⟨by rw [hKR]; exact HL.out, by show 0 ≤ 100; omega⟩ rfl ?_ ?_ ?_ ?_ ⟨HR2.out, by rw [hKR]; exact HMV.out, Hrc.out⟩).mono ?_
  all_goals clear hKb hKg1 hKg2 hKc1 hKc2 hKn1 hKR hKB hKp
  · rintro s2 i A Z ⟨h1, h2, h3⟩ ho
    exact ⟨h1.of_out ho (by omega) hb4 hb5 hb6, h2, h3.of_out ho (by omega) (by omega) hlow.1 hlow.2.1 hlow.2.2 (by omega)⟩
  · rintro A Z ⟨h1, h2, h3⟩ ho
    exact ⟨h1.low ho (by omega), h2, ⟨(ho.block _ (by omega)).trans h3.1, (ho.block _ (by omega)).trans h3.2⟩⟩
  · rintro s2 i A hok hi ⟨hrs, hmv, hrc2⟩ hsw
    refine yield_mono (R := MoP w K MV (W1.heap.size + 1) W1.heap.size R W2.heap.size A s2 i) ?_ (fun e Z h => h.or)
    refine round_yield HRR.out hrc2.1 rfl ?_
    intro K0 hK0
    clear hsz2
    gi_wp2
    refine ⟨hrc2.1, ?_⟩
    have hsz2 := Hsz2.out
    have hl3 := low_put (B := W1.heap.size) A (.loop (R .busy none)) (show W1.heap.size ≤ W1.heap.size + 1 by omega)
    have Hrs3 := Lib.hid (hrs.low hl3 hW1)
    have Hsw3 := Lib.hid (SwS.low hsw hl3 hlow)
    have Hrc3 := Lib.hid (hrc2.put (r' := R .busy none) (by omega))
    have Hab3 := Lib.hid (Above.putObj (B := W2.heap.size) (A := A) (r := W1.heap.size + 1) (.loop (R .busy none)) (by omega))
    have Hmv := Lib.hid hmv
    generalize A.putObj (W1.heap.size + 1) (.loop (R .busy none)) = A3 at *
    clear hl3 hrs hsw hrc2 hmv hsz2
    gi_wp2_with fail
    refine ⟨trivial, ?_⟩
    refine CallsIn.mono (CallsIn.inRound _ (callsIn_wide.2 (endless_any K _ _ _ _ _ A3 Hsw3.out))) ?_
    rintro e A4 ⟨rfl, rfl⟩
    by_cases hj : s2.j < 100
    · have hd : decide (100 < (s2.j : Int) + 1) = false := by simp; omega
      rw [hd]
      gi_wp2_with fail
      have hl4 := low_put (B := W1.heap.size) A3 (.loop (R .ready none)) (show W1.heap.size ≤ W1.heap.size + 1 by omega)
      exact ⟨Hrc3.out.1, ⟨.inl ⟨rfl, hj, ⟨Hrs3.out.low hl4 hW1, Hmv.out, Hrc3.out.put (by omega)⟩, SwS.low Hsw3.out hl4 hlow, Hab3.out.trans (Above.putObj _ (by have := Hsz2.out; omega))⟩⟩⟩
    · have hd : decide (100 < (s2.j : Int) + 1) = true := by simp; omega
      rw [hd]
      have Hmn := Lib.hid (mv_end hj Hmv.out)
      obtain ⟨rb, rl, c0, c1', c2', c3, c4, f0, f1, f2, f3, f4⟩ := Hrs3.out
      have rl2 : w.heap.size + 1 + 1 < A3.heap.size := by omega
      dsimp only
      iterate 20 (first | go_values | gi_guarded | gi_step | gi_upon)
      simp only [Exit.inBlock]
      have hrc5 := rec_rs Hrc3.out Hrs3.out (.slice none 0 0) (.slice none 0 0) (.int .i64 0) (.int .i64 0) (.int .i64 10)
      exact ⟨hrc5.1, ⟨.inr ⟨rfl, ⟨(Hrs3.out.set (.slice none 0 0) (.slice none 0 0) (.int .i64 0) (.int .i64 0) 10).low (low_put (B := W1.heap.size) _ _ (by omega)) hW1, Hmn.out, hrc5.put (by omega)⟩, (Hab3.out.trans (above_rs (by have := Hsz2.out; omega) _ _ _ _ _)).trans (Above.putObj _ (by have := Hsz2.out; omega))⟩⟩⟩
  · rintro s2 A hok hj hag ⟨h1, h2, h3⟩
    exact ⟨h1, mv_next hj hag h2, h3⟩
  · rintro e Z ⟨hv, hz⟩
    refine ⟨hv, ?_⟩
    clear hsz2
    rcases hz with ⟨s2, hok, hj, hag, ⟨hrs, hmv, hrc3⟩, hsw⟩ | ⟨hrs, hmv, hrc3⟩
    · refine .inl ⟨hrc3.1, ?_⟩
      have hl3 := low_put (B := W1.heap.size) Z (.loop (R .exhausted none)) (show W1.heap.size ≤ W1.heap.size + 1 by omega)
      have Hrs3 := Lib.hid (hrs.low hl3 hW1)
      have Hsw3 := Lib.hid (SwS.low hsw hl3 hlow)
      have Hrc3 := Lib.hid (hrc3.put (r' := R .exhausted none) (by omega))
      have Hmn := Lib.hid (mv_last hj hag hmv)
      generalize Z.putObj (W1.heap.size + 1) (.loop (R .exhausted none)) = Z2 at *
      obtain ⟨rb, rl, e0, e1, e2, e3, e4, f0, f1, f2, f3, f4⟩ := Hrs3.out
      have rl2 : w.heap.size + 1 + 1 < Z2.heap.size := by omega
      have q12 := Hsw3.out.q12
      have q13 := Hsw3.out.q13
      have q14 := Hsw3.out.q14
      have q15 := Hsw3.out.q15
      clear hl3 hrs hsw hrc3 hmv hv
      gi_wp2_with fail
      have hrc5 := rec_rs Hrc3.out Hrs3.out (.slice (some ⟨K.g1, 0, none⟩) K.n1 K.c1) (.slice (some ⟨K.g2, 0, none⟩) 2 K.c2) (.int .i64 (lst K.R s2.xs s2.f)) (.int .i64 ((s2.j : Int) + 1)) (.int .i64 0)
      refine ⟨by simp, .inl ⟨_, _, rfl, run_takeDeferred hrc5.2, ?_⟩⟩
      have HF := (Hrs3.out.set (.slice (some ⟨K.g1, 0, none⟩) K.n1 K.c1) (.slice (some ⟨K.g2, 0, none⟩) 2 K.c2) (.int .i64 (lst K.R s2.xs s2.f)) (.int .i64 ((s2.j : Int) + 1)) 0).low (low_put (B := W1.heap.size) _ (.deferred none) (Nat.le_refl _)) hW1
      refine ⟨.tuple #[.agg #[.slice (some ⟨K.g1, 0, none⟩) K.n1 K.c1, .slice (some ⟨K.g2, 0, none⟩) 2 K.c2, .int .i64 (lst K.R s2.xs s2.f), .int .i64 ((s2.j : Int) + 1)], .int .i64 0], by simp [results, Try.results70, go_sem, HF.c0, HF.c1, HF.c2, HF.c3, HF.c4], ?_⟩
      obtain ⟨kg1, kg2, kc1, kc2, kn1, -, kB, -⟩ := HKn.out
      have hsz9 : Z2.heap.size ≤ (((((((Z2.setCell ⟨w.heap.size + 1 + 1, 0, none⟩ (.slice (some ⟨K.g1, 0, none⟩) K.n1 K.c1)).setCell ⟨w.heap.size + 1 + 1, 1, none⟩ (.slice (some ⟨K.g2, 0, none⟩) 2 K.c2)).setCell ⟨w.heap.size + 1 + 1, 2, none⟩ (.int .i64 (lst K.R s2.xs s2.f))).setCell ⟨w.heap.size + 1 + 1, 3, none⟩ (.int .i64 ((s2.j : Int) + 1))).setCell ⟨w.heap.size + 1 + 1 + 1, 0, none⟩ (.int .i64 0)).putObj W1.heap.size (.deferred none))).heap.size := by simp
      have k1 := (World.putObj_heap_other (o := .deferred none) (w := ((((Z2.setCell ⟨w.heap.size + 1 + 1, 0, none⟩ (.slice (some ⟨K.g1, 0, none⟩) K.n1 K.c1)).setCell ⟨w.heap.size + 1 + 1, 1, none⟩ (.slice (some ⟨K.g2, 0, none⟩) 2 K.c2)).setCell ⟨w.heap.size + 1 + 1, 2, none⟩ (.int .i64 (lst K.R s2.xs s2.f))).setCell ⟨w.heap.size + 1 + 1, 3, none⟩ (.int .i64 ((s2.j : Int) + 1))).setCell ⟨w.heap.size + 1 + 1 + 1, 0, none⟩ (.int .i64 0)) (show K.g1 ≠ W1.heap.size by have := hlow.2.1; omega)).trans (keep_rs hb5 _ _ _ _ _)
      have k2 := (World.putObj_heap_other (o := .deferred none) (w := ((((Z2.setCell ⟨w.heap.size + 1 + 1, 0, none⟩ (.slice (some ⟨K.g1, 0, none⟩) K.n1 K.c1)).setCell ⟨w.heap.size + 1 + 1, 1, none⟩ (.slice (some ⟨K.g2, 0, none⟩) 2 K.c2)).setCell ⟨w.heap.size + 1 + 1, 2, none⟩ (.int .i64 (lst K.R s2.xs s2.f))).setCell ⟨w.heap.size + 1 + 1, 3, none⟩ (.int .i64 ((s2.j : Int) + 1))).setCell ⟨w.heap.size + 1 + 1 + 1, 0, none⟩ (.int .i64 0)) (show K.g2 ≠ W1.heap.size by have := hlow.2.2; omega)).trans (keep_rs hb6 _ _ _ _ _)
      have hS := Hsw3.out
      have oo1 := (hS.o1.keep k1 hsz9).lower (C := w.heap.size) (by rw [kB]; omega)
      have oo2 := (hS.o2.keep k2 hsz9).lower (C := w.heap.size) (by rw [kB]; omega)
      have g1lt := hS.h1
      have g2lt := hS.h2
      rw [Hmn.out, ← kn1]
      exact ⟨some ⟨K.g1, 0, none⟩, K.c1, K.g1, some ⟨K.g2, 0, none⟩, K.c2, K.g2, rfl, ⟨oo1, oo2, hS.d3, hS.l1, hS.l2⟩, by omega, by omega, by rw [kn1, kc1]; exact hc5, by rw [kc2]; exact hc6, HF.be⟩
    · refine .inr ⟨_, hrc3.1, ?_⟩
      have hl3 := low_put (B := W1.heap.size) Z (.loop (R .exhausted (some .ret))) (show W1.heap.size ≤ W1.heap.size + 1 by omega)
      have Hrs3 := Lib.hid (hrs.low hl3 hW1)
      have Hrc3 := Lib.hid (hrc3.put (r' := R .exhausted (some .ret)) (by omega))
      have Hmn := Lib.hid hmv
      generalize Z.putObj (W1.heap.size + 1) (.loop (R .exhausted (some .ret))) = Z2 at *
      clear hl3 hrs hrc3 hmv hv
      gi_wp2_with fail
      refine ⟨by simp, .inl ⟨_, _, rfl, run_takeDeferred Hrc3.out.2, ?_⟩⟩
      have HF := Hrs3.out.low (low_put (B := W1.heap.size) Z2 (.deferred none) (Nat.le_refl _)) hW1
      refine ⟨.tuple #[.agg #[.slice none 0 0, .slice none 0 0, .int .i64 0, .int .i64 0], .int .i64 10], by simp [results, Try.results70, go_sem, HF.c0, HF.c1, HF.c2, HF.c3, HF.c4], ?_⟩
      rw [Hmn.out]
      exact soZ_zero 10 HF.be (by have := HF.lt; omega)
set_option maxHeartbeats 8000000 in
set_option maxRecDepth 100000 in
theorem implMove1 (p s c l : Int) (st sk re fe ag : Bool) (p1 p2 : Option Addr) (pn1 pc1 pn2 pc2 : Nat) (xs ys : List Int) (move : Int) (w : World) (h : PosR w p1 p2 pn1 pn2 xs ys) (hk : okP (okR p s c l st ag) p pn1 pn2 1 xs ys = true) (F : Nat) (hF : F < pn1) (hf : 1 * p + move = F) (hm0 : 0 ≤ move) (hm1 : move < p) (he : xs.getD F 0 ≠ 0)
    (MV : Option Res) (hMV : mvF ⟨p, 1, st, sk, re⟩ 100 xs ys F 0 [] = MV) :
    Calls Try.prog 70 #[.agg #[.int .i64 p, .int .i64 s, .bool st, .bool sk, .bool re, .bool fe, .bool ag, .int .i64 c, .int .i64 l], .agg #[.slice p1 pn1 pc1, .slice p2 pn2 pc2, .int .i64 1], .int .i64 move] w (MvQ pn1 MV w) := by
  have HR := Lib.hid (rv_new p s c l st sk re fe ag p1 p2 pn1 pc1 pn2 pc2 1 w 30 32 50 2)
  have hok := okP_parts hk
  have hbd := okR_bd hok.1
  have hn1 := hok.2.1
  have hp2 := hbd.1
  have hp8 := hbd.2.1
  have HL := Lib.hid (lap_of_ok (sk := sk) (re := re) hk h.l1 h.l2 hF he)
  have HB : Hid (∀ u, Below w.heap.size w u → Calls Try.prog 87 #[.agg #[.int .i64 p, .int .i64 s, .bool st, .bool sk, .bool re, .bool fe, .bool ag, .int .i64 c, .int .i64 l], .agg #[.slice p1 pn1 pc1, .slice p2 pn2 pc2, .int .i64 1], .int .i64 move] u (BegY p s c l st sk re fe ag 1 F pn1 xs ys u)) := Lib.hid fun u hu => begin_yes p s c l st sk re fe ag p1 p2 pn1 pc1 pn2 pc2 1 xs ys move u (h.below hu) hk F hF hf hm0 hm1 he
  have HMV := Lib.hid hMV
  have hl1 := h.l1
  have hl2 := h.l2
  rw [hok.2.2.1] at hl2
  clear hk hok hbd hMV he h
  refine (callsIn_wide (n := 6)).1 ?_
  refine callsIn_of_wp_marks Try.func70 rfl trivial ?_ rfl
  simp only [Try.ntmps70, List.size_toArray, List.length_cons, List.length_nil, Nat.reduceAdd, Nat.reduceSub, Array.replicate_succ, Array.replicate_zero, List.push_toArray, List.append_toArray, List.nil_append, List.cons_append]
  gi_wp2_with fail
  refine ⟨trivial, ?_⟩
  refine CallsIn.mono (callsIn_wide.2 (HB.out _ HR.out.be)) ?_
  have HE := HR.out.lt
  generalize (((w.alloc (.cells #[.int .i64 p, .int .i64 s, .bool st, .bool sk, .bool re, .bool fe, .bool ag, .int .i64 c, .int .i64 l] 30)).alloc (.cells #[.slice p1 pn1 pc1, .slice p2 pn2 pc2, .int .i64 1] 32)).alloc (.cells #[.slice none 0 0, .slice none 0 0, .int .i64 0, .int .i64 0] 50)).alloc (.cells #[.int .i64 0] 2) = W0 at *
  rintro e u ⟨g1, c1, g2, c2, rfl, o1, o2, hne, hl5, hl6, hc5, hc6, hb⟩
  have HR := Lib.hid (HR.out.below hb)
  have hsz := hb.size
  clear hb HB
  obtain ⟨K, hK⟩ : ∃ K : Cfg, K = ⟨p, s, c, l, st, sk, re, fe, ag, 1, F, W0.heap.size, u.heap.size, g1, c1, g2, c2, pn1⟩ := ⟨_, rfl⟩
  have HK := Lib.hid hK
  have HS := Lib.hid (sw_new K 0 0 0 xs ys u 109 (by rw [hK]) (by rw [hK]; exact o1) (by rw [hK]; exact o2) (by rw [hK]; exact hl1) hl2 (by rw [hK]; exact hne) (by rw [hK]; exact hl5) (by rw [hK]; exact hl6))
  have hg1 := o1.new
  have hg2 := o2.new
  clear o1 o2 hK
  gi_wp2_with fail
  have HR1 := Lib.hid (HR.out.below (al1 u (.cells #[.int .i64 p, .int .i64 s, .bool st, .bool sk, .bool re, .bool fe, .bool ag, .int .i64 c, .int .i64 l, .int .i64 1, .int .i64 F, .int .i64 0, .slice (some ⟨g1, 0, none⟩) pn1 c1, .slice (some ⟨g2, 0, none⟩) 2 c2, .int .i64 0, .int .i64 0] 109)))
  have HS1 : Hid (SwS (u.alloc (.cells #[.int .i64 p, .int .i64 s, .bool st, .bool sk, .bool re, .bool fe, .bool ag, .int .i64 c, .int .i64 l, .int .i64 1, .int .i64 F, .int .i64 0, .slice (some ⟨g1, 0, none⟩) pn1 c1, .slice (some ⟨g2, 0, none⟩) 2 c2, .int .i64 0, .int .i64 0] 109)) K 0 0 0 xs ys) := by
    have h := HS.out
    rw [HK.out] at h ⊢
    exact Lib.hid h
  have hsz1 : (u.alloc (.cells #[.int .i64 p, .int .i64 s, .bool st, .bool sk, .bool re, .bool fe, .bool ag, .int .i64 c, .int .i64 l, .int .i64 1, .int .i64 F, .int .i64 0, .slice (some ⟨g1, 0, none⟩) pn1 c1, .slice (some ⟨g2, 0, none⟩) 2 c2, .int .i64 0, .int .i64 0] 109)).heap.size = u.heap.size + 1 := by simp
  generalize (u.alloc (.cells #[.int .i64 p, .int .i64 s, .bool st, .bool sk, .bool re, .bool fe, .bool ag, .int .i64 c, .int .i64 l, .int .i64 1, .int .i64 F, .int .i64 0, .slice (some ⟨g1, 0, none⟩) pn1 c1, .slice (some ⟨g2, 0, none⟩) 2 c2, .int .i64 0, .int .i64 0] 109)) = W1 at *
  have hKb : K.b = u.heap.size := by rw [HK.out]
  have hKg1 : K.g1 = g1 := by rw [HK.out]
  have hKg2 : K.g2 = g2 := by rw [HK.out]
  have hKc1 : K.c1 = c1 := by rw [HK.out]
  have hKc2 : K.c2 = c2 := by rw [HK.out]
  have hKn1 : K.n1 = pn1 := by rw [HK.out]
  have hKR : K.R = ⟨p, 1, st, sk, re⟩ := by rw [HK.out]; rfl
  have hKB : K.B = W0.heap.size := by rw [HK.out]
  have hb4 : w.heap.size + 4 ≤ K.b := by rw [hKb]; omega
  have hb5 : w.heap.size + 4 ≤ K.g1 := by rw [hKg1]; omega
  have hb6 : w.heap.size + 4 ≤ K.g2 := by rw [hKg2]; omega
  have hW1 : w.heap.size + 4 ≤ W1.heap.size := by omega
  have hlow : K.b < W1.heap.size ∧ K.g1 < W1.heap.size ∧ K.g2 < W1.heap.size := ⟨by omega, by omega, by omega⟩
  rw [← hKb]
  have Hsz1 := Lib.hid hsz1
  have Hsz := Lib.hid hsz
  have HKn := Lib.hid (And.intro hKg1 (And.intro hKg2 (And.intro hKc1 (And.intro hKc2 (And.intro hKn1 (And.intro hKR (And.intro hKB hKb)))))))
  clear hsz1 hsz
  refine range_stmt (gf := 88) (fb := #[.pointer (some ⟨K.b, 0, none⟩)]) (cb := #[]) rfl (enters_of Try.func88 (by kernel_rfl) rfl) ?_
  intro fn R hRR
  have hb12 : Below W1.heap.size W1 ((W1.alloc (.deferred (some []))).alloc (.loop (R .ready none))) := ((Below.refl _ W1).alloc (Nat.le_refl _) _).alloc (by simp) _
  have hrc : RecAt ((W1.alloc (.deferred (some []))).alloc (.loop (R .ready none))) (W1.heap.size + 1) W1.heap.size (R .ready none) := laid_loop W1 _
  have hsz2 : ((W1.alloc (.deferred (some []))).alloc (.loop (R .ready none))).heap.size = W1.heap.size + 1 + 1 := by simp
  have HR2 := Lib.hid (HR1.out.low hb12 hW1)
  have HS2 := Lib.hid (HS1.out.low hb12 hlow)
  generalize (W1.alloc (.deferred (some []))).alloc (.loop (R .ready none)) = W2 at *
  have HRR := Lib.hid hRR
  clear hRR
  have Hrc := Lib.hid hrc
  have hKp : K.p = p := by rw [HK.out]
  have Hsz2 := Lib.hid hsz2
  refine (steps_gives1 (6 - 1) K (by rw [HK.out]) (by rw [hKp]; exact hp2) (by rw [hKp]; exact hp8) (by rw [hKn1, hKp]; exact hn1) (tot xs + tot ys) (W1.heap.size + 1) (MoJ w K MV (W1.heap.size + 1) W1.heap.size R) (MoX w MV (W1.heap.size + 1) W1.heap.size R) W2 ⟨0, xs, ys, F, []⟩ 0 0
    HS2.out (by rw [HK.out]) ⟨by rw [hKR]; exact HL.out, by show 0 ≤ 100; omega⟩ rfl ?_ ?_ ?_ ?_ ⟨HR2.out, by rw [hKR]; exact HMV.out, Hrc.out⟩).mono ?_
  all_goals clear hKb hKg1 hKg2 hKc1 hKc2 hKn1 hKR hKB hKp
  · rintro s2 i A Z ⟨h1, h2, h3⟩ ho
    exact ⟨h1.of_out ho (by omega) hb4 hb5 hb6, h2, h3.of_out ho (by omega) (by omega) hlow.1 hlow.2.1 hlow.2.2 (by omega)⟩
  · rintro A Z ⟨h1, h2, h3⟩ ho
    exact ⟨h1.low ho (by omega), h2, ⟨(ho.block _ (by omega)).trans h3.1, (ho.block _ (by omega)).trans h3.2⟩⟩
  · rintro s2 i A hok hi ⟨hrs, hmv, hrc2⟩ hsw
    refine yield_mono (R := MoP w K MV (W1.heap.size + 1) W1.heap.size R W2.heap.size A s2 i) ?_ (fun e Z h => h.or)
    refine round_yield HRR.out hrc2.1 rfl ?_
    intro K0 hK0
    clear hsz2
    gi_wp2
    refine ⟨hrc2.1, ?_⟩
    have hsz2 := Hsz2.out
    have hl3 := low_put (B := W1.heap.size) A (.loop (R .busy none)) (show W1.heap.size ≤ W1.heap.size + 1 by omega)
    have Hrs3 := Lib.hid (hrs.low hl3 hW1)
    have Hsw3 := Lib.hid (SwS.low hsw hl3 hlow)
    have Hrc3 := Lib.hid (hrc2.put (r' := R .busy none) (by omega))
    have Hab3 := Lib.hid (Above.putObj (B := W2.heap.size) (A := A) (r := W1.heap.size + 1) (.loop (R .busy none)) (by omega))
    have Hmv := Lib.hid hmv
    generalize A.putObj (W1.heap.size + 1) (.loop (R .busy none)) = A3 at *
    clear hl3 hrs hsw hrc2 hmv hsz2
    gi_wp2_with fail
    refine ⟨trivial, ?_⟩
    refine CallsIn.mono (CallsIn.inRound _ (callsIn_wide.2 (endless_any K _ _ _ _ _ A3 Hsw3.out))) ?_
    rintro e A4 ⟨rfl, rfl⟩
    by_cases hj : s2.j < 100
    · have hd : decide (100 < (s2.j : Int) + 1) = false := by simp; omega
      rw [hd]
      gi_wp2_with fail
      have hl4 := low_put (B := W1.heap.size) A3 (.loop (R .ready none)) (show W1.heap.size ≤ W1.heap.size + 1 by omega)
      exact ⟨Hrc3.out.1, ⟨.inl ⟨rfl, hj, ⟨Hrs3.out.low hl4 hW1, Hmv.out, Hrc3.out.put (by omega)⟩, SwS.low Hsw3.out hl4 hlow, Hab3.out.trans (Above.putObj _ (by have := Hsz2.out; omega))⟩⟩⟩
    · have hd : decide (100 < (s2.j : Int) + 1) = true := by simp; omega
      rw [hd]
      have Hmn := Lib.hid (mv_end hj Hmv.out)
      obtain ⟨rb, rl, c0, c1', c2', c3, c4, f0, f1, f2, f3, f4⟩ := Hrs3.out
      have rl2 : w.heap.size + 1 + 1 < A3.heap.size := by omega
      dsimp only
      iterate 20 (first | go_values | gi_guarded | gi_step | gi_upon)
      simp only [Exit.inBlock]
      have hrc5 := rec_rs Hrc3.out Hrs3.out (.slice none 0 0) (.slice none 0 0) (.int .i64 0) (.int .i64 0) (.int .i64 10)
      exact ⟨hrc5.1, ⟨.inr ⟨rfl, ⟨(Hrs3.out.set (.slice none 0 0) (.slice none 0 0) (.int .i64 0) (.int .i64 0) 10).low (low_put (B := W1.heap.size) _ _ (by omega)) hW1, Hmn.out, hrc5.put (by omega)⟩, (Hab3.out.trans (above_rs (by have := Hsz2.out; omega) _ _ _ _ _)).trans (Above.putObj _ (by have := Hsz2.out; omega))⟩⟩⟩
  · rintro s2 A hok hj hag ⟨h1, h2, h3⟩
    exact ⟨h1, mv_next hj hag h2, h3⟩
  · rintro e Z ⟨hv, hz⟩
    refine ⟨hv, ?_⟩
    clear hsz2
    rcases hz with ⟨s2, hok, hj, hag, ⟨hrs, hmv, hrc3⟩, hsw⟩ | ⟨hrs, hmv, hrc3⟩
    · refine .inl ⟨hrc3.1, ?_⟩
      have hl3 := low_put (B := W1.heap.size) Z (.loop (R .exhausted none)) (show W1.heap.size ≤ W1.heap.size + 1 by omega)
      have Hrs3 := Lib.hid (hrs.low hl3 hW1)
      have Hsw3 := Lib.hid (SwS.low hsw hl3 hlow)
      have Hrc3 := Lib.hid (hrc3.put (r' := R .exhausted none) (by omega))
      have Hmn := Lib.hid (mv_last hj hag hmv)
      generalize Z.putObj (W1.heap.size + 1) (.loop (R .exhausted none)) = Z2 at *
      obtain ⟨rb, rl, e0, e1, e2, e3, e4, f0, f1, f2, f3, f4⟩ := Hrs3.out
      have rl2 : w.heap.size + 1 + 1 < Z2.heap.size := by omega
      have q12 := Hsw3.out.q12
      have q13 := Hsw3.out.q13
      have q14 := Hsw3.out.q14
      have q15 := Hsw3.out.q15
      clear hl3 hrs hsw hrc3 hmv hv
      gi_wp2_with fail
      have hrc5 := rec_rs Hrc3.out Hrs3.out (.slice (some ⟨K.g1, 0, none⟩) K.n1 K.c1) (.slice (some ⟨K.g2, 0, none⟩) 2 K.c2) (.int .i64 (lst K.R s2.xs s2.f)) (.int .i64 ((s2.j : Int) + 1)) (.int .i64 0)
      refine ⟨by simp, .inl ⟨_, _, rfl, run_takeDeferred hrc5.2, ?_⟩⟩
      have HF := (Hrs3.out.set (.slice (some ⟨K.g1, 0, none⟩) K.n1 K.c1) (.slice (some ⟨K.g2, 0, none⟩) 2 K.c2) (.int .i64 (lst K.R s2.xs s2.f)) (.int .i64 ((s2.j : Int) + 1)) 0).low (low_put (B := W1.heap.size) _ (.deferred none) (Nat.le_refl _)) hW1
      refine ⟨.tuple #[.agg #[.slice (some ⟨K.g1, 0, none⟩) K.n1 K.c1, .slice (some ⟨K.g2, 0, none⟩) 2 K.c2, .int .i64 (lst K.R s2.xs s2.f), .int .i64 ((s2.j : Int) + 1)], .int .i64 0], by simp [results, Try.results70, go_sem, HF.c0, HF.c1, HF.c2, HF.c3, HF.c4], ?_⟩
      obtain ⟨kg1, kg2, kc1, kc2, kn1, -, kB, -⟩ := HKn.out
      have hsz9 : Z2.heap.size ≤ (((((((Z2.setCell ⟨w.heap.size + 1 + 1, 0, none⟩ (.slice (some ⟨K.g1, 0, none⟩) K.n1 K.c1)).setCell ⟨w.heap.size + 1 + 1, 1, none⟩ (.slice (some ⟨K.g2, 0, none⟩) 2 K.c2)).setCell ⟨w.heap.size + 1 + 1, 2, none⟩ (.int .i64 (lst K.R s2.xs s2.f))).setCell ⟨w.heap.size + 1 + 1, 3, none⟩ (.int .i64 ((s2.j : Int) + 1))).setCell ⟨w.heap.size + 1 + 1 + 1, 0, none⟩ (.int .i64 0)).putObj W1.heap.size (.deferred none))).heap.size := by simp
      have k1 := (World.putObj_heap_other (o := .deferred none) (w := ((((Z2.setCell ⟨w.heap.size + 1 + 1, 0, none⟩ (.slice (some ⟨K.g1, 0, none⟩) K.n1 K.c1)).setCell ⟨w.heap.size + 1 + 1, 1, none⟩ (.slice (some ⟨K.g2, 0, none⟩) 2 K.c2)).setCell ⟨w.heap.size + 1 + 1, 2, none⟩ (.int .i64 (lst K.R s2.xs s2.f))).setCell ⟨w.heap.size + 1 + 1, 3, none⟩ (.int .i64 ((s2.j : Int) + 1))).setCell ⟨w.heap.size + 1 + 1 + 1, 0, none⟩ (.int .i64 0)) (show K.g1 ≠ W1.heap.size by have := hlow.2.1; omega)).trans (keep_rs hb5 _ _ _ _ _)
      have k2 := (World.putObj_heap_other (o := .deferred none) (w := ((((Z2.setCell ⟨w.heap.size + 1 + 1, 0, none⟩ (.slice (some ⟨K.g1, 0, none⟩) K.n1 K.c1)).setCell ⟨w.heap.size + 1 + 1, 1, none⟩ (.slice (some ⟨K.g2, 0, none⟩) 2 K.c2)).setCell ⟨w.heap.size + 1 + 1, 2, none⟩ (.int .i64 (lst K.R s2.xs s2.f))).setCell ⟨w.heap.size + 1 + 1, 3, none⟩ (.int .i64 ((s2.j : Int) + 1))).setCell ⟨w.heap.size + 1 + 1 + 1, 0, none⟩ (.int .i64 0)) (show K.g2 ≠ W1.heap.size by have := hlow.2.2; omega)).trans (keep_rs hb6 _ _ _ _ _)
      have hS := Hsw3.out
      have oo1 := (hS.o1.keep k1 hsz9).lower (C := w.heap.size) (by rw [kB]; omega)
      have oo2 := (hS.o2.keep k2 hsz9).lower (C := w.heap.size) (by rw [kB]; omega)
      have g1lt := hS.h1
      have g2lt := hS.h2
      rw [Hmn.out, ← kn1]
      exact ⟨some ⟨K.g1, 0, none⟩, K.c1, K.g1, some ⟨K.g2, 0, none⟩, K.c2, K.g2, rfl, ⟨oo1, oo2, hS.d3, hS.l1, hS.l2⟩, by omega, by omega, by rw [kn1, kc1]; exact hc5, by rw [kc2]; exact hc6, HF.be⟩
    · refine .inr ⟨_, hrc3.1, ?_⟩
      have hl3 := low_put (B := W1.heap.size) Z (.loop (R .exhausted (some .ret))) (show W1.heap.size ≤ W1.heap.size + 1 by omega)
      have Hrs3 := Lib.hid (hrs.low hl3 hW1)
      have Hrc3 := Lib.hid (hrc3.put (r' := R .exhausted (some .ret)) (by omega))
      have Hmn := Lib.hid hmv
      generalize Z.putObj (W1.heap.size + 1) (.loop (R .exhausted (some .ret))) = Z2 at *
      clear hl3 hrs hrc3 hmv hv
      gi_wp2_with fail
      refine ⟨by simp, .inl ⟨_, _, rfl, run_takeDeferred Hrc3.out.2, ?_⟩⟩
      have HF := Hrs3.out.low (low_put (B := W1.heap.size) Z2 (.deferred none) (Nat.le_refl _)) hW1
      refine ⟨.tuple #[.agg #[.slice none 0 0, .slice none 0 0, .int .i64 0, .int .i64 0], .int .i64 10], by simp [results, Try.results70, go_sem, HF.c0, HF.c1, HF.c2, HF.c3, HF.c4], ?_⟩
      rw [Hmn.out]
      exact soZ_zero 10 HF.be (by have := HF.lt; omega)
end Go.Proofs.Ytdhkfkfoibddnaa
