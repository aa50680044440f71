/- Mov6, End5, WatS, Mv7, Tk6, Rm7, Mk7, Mk8, Mk9, one after the other (what the laws reach of them). No conditions. -/
import Derived.Test.YtgbaneildbdgdaaGreatWb4
import Derived.Test.YtgbaneildbdgdaaGreatCode5
namespace Go.Proofs.YtgbaneildbdgdaaGreat
open Go.Joins Go.ChangeShapes Go.WideShapes Go.ChangeAt Go.RowKit Go.Deep
set_option linter.unusedVariables false
set_option maxHeartbeats 8000000
set_option maxRecDepth 100000
/- Mov6 -/
open Go.RowKit Go.Shelf
attribute [local go_sem] Oper.semAt_some
theorem lap_of_ok {p s c l pp : Int} {st sk re ag : Bool} {n1 n2 : Nat} {xs ys : List Int} {F : Nat} (hk : okP (okR p s c l st ag) p n1 n2 pp xs ys = true) (l1 : xs.length = n1) (l2 : ys.length = n2) (hF : F < n1) (he : xs.getD F 0 ≠ 0) : Lap ⟨p, pp, st, sk, re⟩ xs ys F (tot xs + tot ys) := by
 obtain ⟨h1, h2, h3, h4, h5⟩ := okP_parts hk
 obtain ⟨k1, k2, k3⟩ := seedB_parts h5
 have := posB_getD k1 F
 exact ⟨⟨by show (xs.length : Int) = 2 * p; rw [l1]; exact h2, by rw [l2, h3], k1, k2, rfl⟩, by omega, by show (F : Int) < 2 * p; omega, by rw [Int.toNat_natCast]; omega, k3⟩
def MvQ (n1 : Nat) (MV : Option Res) (w : World) (e : Ending) (w' : World) : Prop :=
 match MV with
 | none => SoZ 0 0 0 0 10 [] [] w e w'
 | some m => SoZ n1 2 m.last m.laps 0 m.xs m.ys w e w'
theorem yield_mono {F : Fence} {m : Nat} {P : Program} {l : Nat} {args : Array Value} {W : World} {R R' : Ending → World → Prop} (h : YieldAt F m P l args W R) (hr : ∀ e w, R e w → R' e w) : YieldAt F m P l args W R' := by
 obtain ⟨fn, tmps, assign, body, hy, hR⟩ := h
 exact ⟨fn, tmps, assign, body, hy, RoundIn.mono hR hr⟩
structure MoP (w : World) (K : Cfg) (MV : Option Res) (L D : Nat) (R : LoopState → Option Code → Loop) (B : Nat) (A : World) (s : Stg) (i : Nat) (e : Ending) (Z : World) : Prop where
 or : (e = .returned (.bool true) ∧ s.j < 100 ∧ MoJ w K MV L D R s (i + 1) Z ∧ StW Z K s (i + 1) (K.R.at s.f i) ∧ Above B A Z) ∨ (e = .returned (.bool false) ∧ MoX w MV L D R Z ∧ Above B A Z)
theorem implMove_err (p s c l : Int) (st sk re fe ag : Bool) (p1 p2 : Option Addr) (pn1 pc1 pn2 pc2 : Nat) (pp : Int) (move cd : Int) (hcd : (cd == 0) = false) (w : World) (hb : ∀ u, Below w.heap.size w u → Calls Tryz.prog 160 #[.agg #[.int .i64 p, .int .i64 s, .bool st, .bool sk, .bool re, .bool fe, .bool ag, .int .i64 c, .int .i64 l], .agg #[.slice p1 pn1 pc1, .slice p2 pn2 pc2, .int .i64 pp], .int .i64 move] u (BegZ cd u)) :
  Calls Tryz.prog 140 #[.agg #[.int .i64 p, .int .i64 s, .bool st, .bool sk, .bool re, .bool fe, .bool ag, .int .i64 c, .int .i64 l], .agg #[.slice p1 pn1 pc1, .slice p2 pn2 pc2, .int .i64 pp], .int .i64 move] w (SoZ 0 0 0 0 cd [] [] w) := by
 have HB := Lib.hid hb
 have HR := Lib.hid (rv_new p s c l st sk re fe ag p1 p2 pn1 pc1 pn2 pc2 pp w 32 33 121 2)
 clear hb
 refine (callsIn_wide (n := 6)).1 ?_
 refine callsIn_of_wp_marks Tryz.func140 rfl trivial ?_ rfl
 simp only [Tryz.ntmps140, List.size_toArray, List.length_cons, List.length_nil, Nat.reduceAdd, Nat.reduceSub, Array.replicate_succ, Array.replicate_zero, List.push_toArray, List.append_toArray, List.nil_append, List.cons_append]
 gi_wp2_with fail
 refine ⟨trivial, ?_⟩
 refine CallsIn.mono (callsIn_wide.2 (HB.out _ HR.out.be)) ?_
 rintro e u ⟨rfl, hb⟩
 have HR := Lib.hid (HR.out.below hb)
 clear hb HB
 obtain ⟨rb, rl, c0, c1, c2, c3, c4, f0, f1, f2, f3, f4⟩ := HR.out
 have rl2 : w.heap.size + 1 + 1 < u.heap.size := by omega
 gi_wp2_with fail
 have HF := (HR.out.set (.slice none 0 0) (.slice none 0 0) (.int .i64 0) (.int .i64 0) cd).below (al1 _ (.cells #[.int .i64 0, .int .i64 0, .bool false, .bool false, .bool false, .bool false, .bool false, .int .i64 0, .int .i64 0, .int .i64 0, .int .i64 0, .int .i64 0, .slice none 0 0, .slice none 0 0, .int .i64 0, .int .i64 0] 177))
 exact ⟨.tuple #[.agg #[.slice none 0 0, .slice none 0 0, .int .i64 0, .int .i64 0], .int .i64 cd], by simp [results, Tryz.results140, go_sem, HF.c0, HF.c1, HF.c2, HF.c3, HF.c4], soZ_zero cd HF.be (by have := HF.lt; omega)⟩
theorem implMove0 (p s c l : Int) (st sk re fe ag : Bool) (p1 p2 : Option Addr) (pn1 pc1 pn2 pc2 : Nat) (xs ys : List Int) (move : Int) (w : World) (h : PosR w p1 p2 pn1 pn2 xs ys) (hk : okP (okR p s c l st ag) p pn1 pn2 0 xs ys = true) (F : Nat) (hF : F < pn1) (hf : 0 * p + move = F) (hm0 : 0 ≤ move) (hm1 : move < p) (he : xs.getD F 0 ≠ 0)
  (MV : Option Res) (hMV : mvF ⟨p, 0, st, sk, re⟩ 100 xs ys F 0 [] = MV) :
  Calls Tryz.prog 140 #[.agg #[.int .i64 p, .int .i64 s, .bool st, .bool sk, .bool re, .bool fe, .bool ag, .int .i64 c, .int .i64 l], .agg #[.slice p1 pn1 pc1, .slice p2 pn2 pc2, .int .i64 0], .int .i64 move] w (MvQ pn1 MV w) := by
 have HR := Lib.hid (rv_new p s c l st sk re fe ag p1 p2 pn1 pc1 pn2 pc2 0 w 32 33 121 2)
 have hok := okP_parts hk
 have hbd := okR_bd hok.1
 have hn1 := hok.2.1
 have hp2 := hbd.1
 have hp8 := hbd.2.1
 have HL := Lib.hid (lap_of_ok (sk := sk) (re := re) hk h.l1 h.l2 hF he)
 have HB : Hid (∀ u, Below w.heap.size w u → Calls Tryz.prog 160 #[.agg #[.int .i64 p, .int .i64 s, .bool st, .bool sk, .bool re, .bool fe, .bool ag, .int .i64 c, .int .i64 l], .agg #[.slice p1 pn1 pc1, .slice p2 pn2 pc2, .int .i64 0], .int .i64 move] u (BegY p s c l st sk re fe ag 0 F pn1 xs ys u)) := Lib.hid fun u hu => begin_yes p s c l st sk re fe ag p1 p2 pn1 pc1 pn2 pc2 0 xs ys move u (h.below hu) hk F hF hf hm0 hm1 he
 have HMV := Lib.hid hMV
 have hl1 := h.l1
 have hl2 := h.l2
 rw [hok.2.2.1] at hl2
 clear hk hok hbd hMV he h
 refine (callsIn_wide (n := 6)).1 ?_
 refine callsIn_of_wp_marks Tryz.func140 rfl trivial ?_ rfl
 simp only [Tryz.ntmps140, List.size_toArray, List.length_cons, List.length_nil, Nat.reduceAdd, Nat.reduceSub, Array.replicate_succ, Array.replicate_zero, List.push_toArray, List.append_toArray, List.nil_append, List.cons_append]
 gi_wp2_with fail
 refine ⟨trivial, ?_⟩
 refine CallsIn.mono (callsIn_wide.2 (HB.out _ HR.out.be)) ?_
 have HE := HR.out.lt
 generalize (((w.alloc (.cells #[.int .i64 p, .int .i64 s, .bool st, .bool sk, .bool re, .bool fe, .bool ag, .int .i64 c, .int .i64 l] 32)).alloc (.cells #[.slice p1 pn1 pc1, .slice p2 pn2 pc2, .int .i64 0] 33)).alloc (.cells #[.slice none 0 0, .slice none 0 0, .int .i64 0, .int .i64 0] 121)).alloc (.cells #[.int .i64 0] 2) = W0 at *
 rintro e u ⟨g1, c1, g2, c2, rfl, o1, o2, hne, hl5, hl6, hc5, hc6, hb⟩
 have HR := Lib.hid (HR.out.below hb)
 have hsz := hb.size
 clear hb HB
 obtain ⟨K, hK⟩ : ∃ K : Cfg, K = ⟨p, s, c, l, st, sk, re, fe, ag, 0, F, W0.heap.size, u.heap.size, g1, c1, g2, c2, pn1⟩ := ⟨_, rfl⟩
 have HK := Lib.hid hK
 have HS := Lib.hid (sw_new K 0 0 0 xs ys u 177 (by rw [hK]) (by rw [hK]; exact o1) (by rw [hK]; exact o2) (by rw [hK]; exact hl1) hl2 (by rw [hK]; exact hne) (by rw [hK]; exact hl5) (by rw [hK]; exact hl6))
 have hg1 := o1.new
 have hg2 := o2.new
 clear o1 o2 hK
 gi_wp2_with fail
 have HR1 := Lib.hid (HR.out.below (al1 u (.cells #[.int .i64 p, .int .i64 s, .bool st, .bool sk, .bool re, .bool fe, .bool ag, .int .i64 c, .int .i64 l, .int .i64 0, .int .i64 F, .int .i64 0, .slice (some ⟨g1, 0, none⟩) pn1 c1, .slice (some ⟨g2, 0, none⟩) 2 c2, .int .i64 0, .int .i64 0] 177)))
 have HS1 : Hid (SwS (u.alloc (.cells #[.int .i64 p, .int .i64 s, .bool st, .bool sk, .bool re, .bool fe, .bool ag, .int .i64 c, .int .i64 l, .int .i64 0, .int .i64 F, .int .i64 0, .slice (some ⟨g1, 0, none⟩) pn1 c1, .slice (some ⟨g2, 0, none⟩) 2 c2, .int .i64 0, .int .i64 0] 177)) K 0 0 0 xs ys) := by
  have h := HS.out
  rw [HK.out] at h ⊢
  exact Lib.hid h
 have hsz1 : (u.alloc (.cells #[.int .i64 p, .int .i64 s, .bool st, .bool sk, .bool re, .bool fe, .bool ag, .int .i64 c, .int .i64 l, .int .i64 0, .int .i64 F, .int .i64 0, .slice (some ⟨g1, 0, none⟩) pn1 c1, .slice (some ⟨g2, 0, none⟩) 2 c2, .int .i64 0, .int .i64 0] 177)).heap.size = u.heap.size + 1 := by simp
 generalize (u.alloc (.cells #[.int .i64 p, .int .i64 s, .bool st, .bool sk, .bool re, .bool fe, .bool ag, .int .i64 c, .int .i64 l, .int .i64 0, .int .i64 F, .int .i64 0, .slice (some ⟨g1, 0, none⟩) pn1 c1, .slice (some ⟨g2, 0, none⟩) 2 c2, .int .i64 0, .int .i64 0] 177)) = W1 at *
 have hKb : K.b = u.heap.size := by rw [HK.out]
 have hKg1 : K.g1 = g1 := by rw [HK.out]
 have hKg2 : K.g2 = g2 := by rw [HK.out]
 have hKc1 : K.c1 = c1 := by rw [HK.out]
 have hKc2 : K.c2 = c2 := by rw [HK.out]
 have hKn1 : K.n1 = pn1 := by rw [HK.out]
 have hKR : K.R = ⟨p, 0, st, sk, re⟩ := by rw [HK.out]; rfl
 have hKB : K.B = W0.heap.size := by rw [HK.out]
 have hb4 : w.heap.size + 4 ≤ K.b := by rw [hKb]; omega
 have hb5 : w.heap.size + 4 ≤ K.g1 := by rw [hKg1]; omega
 have hb6 : w.heap.size + 4 ≤ K.g2 := by rw [hKg2]; omega
 have hW1 : w.heap.size + 4 ≤ W1.heap.size := by omega
 have hlow : K.b < W1.heap.size ∧ K.g1 < W1.heap.size ∧ K.g2 < W1.heap.size := ⟨by omega, by omega, by omega⟩
 rw [← hKb]
 have Hsz1 := Lib.hid hsz1
 have Hsz := Lib.hid hsz
 have HKn := Lib.hid (And.intro hKg1 (And.intro hKg2 (And.intro hKc1 (And.intro hKc2 (And.intro hKn1 (And.intro hKR (And.intro hKB hKb)))))))
 clear hsz1 hsz
 refine range_stmt (gf := 161) (fb := #[.pointer (some ⟨K.b, 0, none⟩)]) (cb := #[]) rfl (enters_of Tryz.func161 (by kernel_rfl) rfl) ?_
 intro fn R hRR
 have hb12 : Below W1.heap.size W1 ((W1.alloc (.deferred (some []))).alloc (.loop (R .ready none))) := ((Below.refl _ W1).alloc (Nat.le_refl _) _).alloc (by simp) _
 have hrc : RecAt ((W1.alloc (.deferred (some []))).alloc (.loop (R .ready none))) (W1.heap.size + 1) W1.heap.size (R .ready none) := laid_loop W1 _
 have hsz2 : ((W1.alloc (.deferred (some []))).alloc (.loop (R .ready none))).heap.size = W1.heap.size + 1 + 1 := by simp
 have HR2 := Lib.hid (HR1.out.low hb12 hW1)
 have HS2 := Lib.hid (HS1.out.low hb12 hlow)
 generalize (W1.alloc (.deferred (some []))).alloc (.loop (R .ready none)) = W2 at *
 have HRR := Lib.hid hRR
 clear hRR
 have Hrc := Lib.hid hrc
 have hKp : K.p = p := by rw [HK.out]
 have Hsz2 := Lib.hid hsz2
 refine (steps_gives0 (6 - 1) K (by rw [HK.out]) (by rw [hKp]; exact hp2) (by rw [hKp]; exact hp8) (by rw [hKn1, hKp]; exact hn1) (tot xs + tot ys) (W1.heap.size + 1) (MoJ w K MV (W1.heap.size + 1) W1.heap.size R) (MoX w MV (W1.heap.size + 1) W1.heap.size R) W2 ⟨0, xs, ys, F, []⟩ 0 0
  HS2.out (by rw [HK.out]) ⟨by rw [hKR]; exact HL.out, by show 0 ≤ 100; omega⟩ rfl ?_ ?_ ?_ ?_ ⟨HR2.out, by rw [hKR]; exact HMV.out, Hrc.out⟩).mono ?_
 all_goals clear hKb hKg1 hKg2 hKc1 hKc2 hKn1 hKR hKB hKp
 ·rintro s2 i A Z ⟨h1, h2, h3⟩ ho
  exact ⟨h1.of_out ho (by omega) hb4 hb5 hb6, h2, h3.of_out ho (by omega) (by omega) hlow.1 hlow.2.1 hlow.2.2 (by omega)⟩
 ·rintro A Z ⟨h1, h2, h3⟩ ho
  exact ⟨h1.low ho (by omega), h2, ⟨(ho.block _ (by omega)).trans h3.1, (ho.block _ (by omega)).trans h3.2⟩⟩
 ·rintro s2 i A hok hi ⟨hrs, hmv, hrc2⟩ hsw
  refine yield_mono (R := MoP w K MV (W1.heap.size + 1) W1.heap.size R W2.heap.size A s2 i) ?_ (fun e Z h => h.or)
  refine round_yield HRR.out hrc2.1 rfl ?_
  intro K0 hK0
  clear hsz2
  gi_wp2
  refine ⟨hrc2.1, ?_⟩
  have hsz2 := Hsz2.out
  have hl3 := low_put (B := W1.heap.size) A (.loop (R .busy none)) (show W1.heap.size ≤ W1.heap.size + 1 by omega)
  have Hrs3 := Lib.hid (hrs.low hl3 hW1)
  have Hsw3 := Lib.hid (SwS.low hsw hl3 hlow)
  have Hrc3 := Lib.hid (hrc2.put (r' := R .busy none) (by omega))
  have Hab3 := Lib.hid (Above.putObj (B := W2.heap.size) (A := A) (r := W1.heap.size + 1) (.loop (R .busy none)) (by omega))
  have Hmv := Lib.hid hmv
  generalize A.putObj (W1.heap.size + 1) (.loop (R .busy none)) = A3 at *
  clear hl3 hrs hsw hrc2 hmv hsz2
  gi_wp2_with fail
  refine ⟨trivial, ?_⟩
  refine CallsIn.mono (CallsIn.inRound _ (callsIn_wide.2 (endless_any K _ _ _ _ _ A3 Hsw3.out))) ?_
  rintro e A4 ⟨rfl, rfl⟩
  by_cases hj : s2.j < 100
  ·have hd : decide (100 < (s2.j : Int) + 1) = false := by simp; omega
   rw [hd]
   gi_wp2_with fail
   have hl4 := low_put (B := W1.heap.size) A3 (.loop (R .ready none)) (show W1.heap.size ≤ W1.heap.size + 1 by omega)
   exact ⟨Hrc3.out.1, ⟨.inl ⟨rfl, hj, ⟨Hrs3.out.low hl4 hW1, Hmv.out, Hrc3.out.put (by omega)⟩, SwS.low Hsw3.out hl4 hlow, Hab3.out.trans (Above.putObj _ (by have := Hsz2.out; omega))⟩⟩⟩
  ·have hd : decide (100 < (s2.j : Int) + 1) = true := by simp; omega
   rw [hd]
   have Hmn := Lib.hid (mv_end hj Hmv.out)
   obtain ⟨rb, rl, c0, c1', c2', c3, c4, f0, f1, f2, f3, f4⟩ := Hrs3.out
   have rl2 : w.heap.size + 1 + 1 < A3.heap.size := by omega
   dsimp only
   iterate 20 (first | go_values | gi_guarded | gi_step | gi_upon)
   simp only [Exit.inBlock]
   have hrc5 := rec_rs Hrc3.out Hrs3.out (.slice none 0 0) (.slice none 0 0) (.int .i64 0) (.int .i64 0) (.int .i64 10)
   exact ⟨hrc5.1, ⟨.inr ⟨rfl, ⟨(Hrs3.out.set (.slice none 0 0) (.slice none 0 0) (.int .i64 0) (.int .i64 0) 10).low (low_put (B := W1.heap.size) _ _ (by omega)) hW1, Hmn.out, hrc5.put (by omega)⟩, (Hab3.out.trans (above_rs (by have := Hsz2.out; omega) _ _ _ _ _)).trans (Above.putObj _ (by have := Hsz2.out; omega))⟩⟩⟩
 ·rintro s2 A hok hj hag ⟨h1, h2, h3⟩
  exact ⟨h1, mv_next hj hag h2, h3⟩
 ·rintro e Z ⟨hv, hz⟩
  refine ⟨hv, ?_⟩
  clear hsz2
  rcases hz with ⟨s2, hok, hj, hag, ⟨hrs, hmv, hrc3⟩, hsw⟩ | ⟨hrs, hmv, hrc3⟩
  ·refine .inl ⟨hrc3.1, ?_⟩
   have hl3 := low_put (B := W1.heap.size) Z (.loop (R .exhausted none)) (show W1.heap.size ≤ W1.heap.size + 1 by omega)
   have Hrs3 := Lib.hid (hrs.low hl3 hW1)
   have Hsw3 := Lib.hid (SwS.low hsw hl3 hlow)
   have Hrc3 := Lib.hid (hrc3.put (r' := R .exhausted none) (by omega))
   have Hmn := Lib.hid (mv_last hj hag hmv)
   generalize Z.putObj (W1.heap.size + 1) (.loop (R .exhausted none)) = Z2 at *
   obtain ⟨rb, rl, e0, e1, e2, e3, e4, f0, f1, f2, f3, f4⟩ := Hrs3.out
   have rl2 : w.heap.size + 1 + 1 < Z2.heap.size := by omega
   have q12 := Hsw3.out.q12
   have q13 := Hsw3.out.q13
   have q14 := Hsw3.out.q14
   have q15 := Hsw3.out.q15
   clear hl3 hrs hsw hrc3 hmv hv
   gi_wp2_with fail
   have hrc5 := rec_rs Hrc3.out Hrs3.out (.slice (some ⟨K.g1, 0, none⟩) K.n1 K.c1) (.slice (some ⟨K.g2, 0, none⟩) 2 K.c2) (.int .i64 (lst K.R s2.xs s2.f)) (.int .i64 ((s2.j : Int) + 1)) (.int .i64 0)
   refine ⟨by simp, .inl ⟨_, _, rfl, run_takeDeferred hrc5.2, ?_⟩⟩
   have HF := (Hrs3.out.set (.slice (some ⟨K.g1, 0, none⟩) K.n1 K.c1) (.slice (some ⟨K.g2, 0, none⟩) 2 K.c2) (.int .i64 (lst K.R s2.xs s2.f)) (.int .i64 ((s2.j : Int) + 1)) 0).low (low_put (B := W1.heap.size) _ (.deferred none) (Nat.le_refl _)) hW1
   refine ⟨.tuple #[.agg #[.slice (some ⟨K.g1, 0, none⟩) K.n1 K.c1, .slice (some ⟨K.g2, 0, none⟩) 2 K.c2, .int .i64 (lst K.R s2.xs s2.f), .int .i64 ((s2.j : Int) + 1)], .int .i64 0], by simp [results, Tryz.results140, go_sem, HF.c0, HF.c1, HF.c2, HF.c3, HF.c4], ?_⟩
   obtain ⟨kg1, kg2, kc1, kc2, kn1, -, kB, -⟩ := HKn.out
   have hsz9 : Z2.heap.size ≤ (((((((Z2.setCell ⟨w.heap.size + 1 + 1, 0, none⟩ (.slice (some ⟨K.g1, 0, none⟩) K.n1 K.c1)).setCell ⟨w.heap.size + 1 + 1, 1, none⟩ (.slice (some ⟨K.g2, 0, none⟩) 2 K.c2)).setCell ⟨w.heap.size + 1 + 1, 2, none⟩ (.int .i64 (lst K.R s2.xs s2.f))).setCell ⟨w.heap.size + 1 + 1, 3, none⟩ (.int .i64 ((s2.j : Int) + 1))).setCell ⟨w.heap.size + 1 + 1 + 1, 0, none⟩ (.int .i64 0)).putObj W1.heap.size (.deferred none))).heap.size := by simp
   have k1 := (World.putObj_heap_other (o := .deferred none) (w := ((((Z2.setCell ⟨w.heap.size + 1 + 1, 0, none⟩ (.slice (some ⟨K.g1, 0, none⟩) K.n1 K.c1)).setCell ⟨w.heap.size + 1 + 1, 1, none⟩ (.slice (some ⟨K.g2, 0, none⟩) 2 K.c2)).setCell ⟨w.heap.size + 1 + 1, 2, none⟩ (.int .i64 (lst K.R s2.xs s2.f))).setCell ⟨w.heap.size + 1 + 1, 3, none⟩ (.int .i64 ((s2.j : Int) + 1))).setCell ⟨w.heap.size + 1 + 1 + 1, 0, none⟩ (.int .i64 0)) (show K.g1 ≠ W1.heap.size by have := hlow.2.1; omega)).trans (keep_rs hb5 _ _ _ _ _)
   have k2 := (World.putObj_heap_other (o := .deferred none) (w := ((((Z2.setCell ⟨w.heap.size + 1 + 1, 0, none⟩ (.slice (some ⟨K.g1, 0, none⟩) K.n1 K.c1)).setCell ⟨w.heap.size + 1 + 1, 1, none⟩ (.slice (some ⟨K.g2, 0, none⟩) 2 K.c2)).setCell ⟨w.heap.size + 1 + 1, 2, none⟩ (.int .i64 (lst K.R s2.xs s2.f))).setCell ⟨w.heap.size + 1 + 1, 3, none⟩ (.int .i64 ((s2.j : Int) + 1))).setCell ⟨w.heap.size + 1 + 1 + 1, 0, none⟩ (.int .i64 0)) (show K.g2 ≠ W1.heap.size by have := hlow.2.2; omega)).trans (keep_rs hb6 _ _ _ _ _)
   have hS := Hsw3.out
   have oo1 := (hS.o1.keep k1 hsz9).lower (C := w.heap.size) (by rw [kB]; omega)
   have oo2 := (hS.o2.keep k2 hsz9).lower (C := w.heap.size) (by rw [kB]; omega)
   have g1lt := hS.h1
   have g2lt := hS.h2
   rw [Hmn.out, ← kn1]
   exact ⟨some ⟨K.g1, 0, none⟩, K.c1, K.g1, some ⟨K.g2, 0, none⟩, K.c2, K.g2, rfl, ⟨oo1, oo2, hS.d3, hS.l1, hS.l2⟩, by omega, by omega, by rw [kn1, kc1]; exact hc5, by rw [kc2]; exact hc6, HF.be⟩
  ·refine .inr ⟨_, hrc3.1, ?_⟩
   have hl3 := low_put (B := W1.heap.size) Z (.loop (R .exhausted (some .ret))) (show W1.heap.size ≤ W1.heap.size + 1 by omega)
   have Hrs3 := Lib.hid (hrs.low hl3 hW1)
   have Hrc3 := Lib.hid (hrc3.put (r' := R .exhausted (some .ret)) (by omega))
   have Hmn := Lib.hid hmv
   generalize Z.putObj (W1.heap.size + 1) (.loop (R .exhausted (some .ret))) = Z2 at *
   clear hl3 hrs hrc3 hmv hv
   gi_wp2_with fail
   refine ⟨by simp, .inl ⟨_, _, rfl, run_takeDeferred Hrc3.out.2, ?_⟩⟩
   have HF := Hrs3.out.low (low_put (B := W1.heap.size) Z2 (.deferred none) (Nat.le_refl _)) hW1
   refine ⟨.tuple #[.agg #[.slice none 0 0, .slice none 0 0, .int .i64 0, .int .i64 0], .int .i64 10], by simp [results, Tryz.results140, go_sem, HF.c0, HF.c1, HF.c2, HF.c3, HF.c4], ?_⟩
   rw [Hmn.out]
   exact soZ_zero 10 HF.be (by have := HF.lt; omega)
theorem implMove1 (p s c l : Int) (st sk re fe ag : Bool) (p1 p2 : Option Addr) (pn1 pc1 pn2 pc2 : Nat) (xs ys : List Int) (move : Int) (w : World) (h : PosR w p1 p2 pn1 pn2 xs ys) (hk : okP (okR p s c l st ag) p pn1 pn2 1 xs ys = true) (F : Nat) (hF : F < pn1) (hf : 1 * p + move = F) (hm0 : 0 ≤ move) (hm1 : move < p) (he : xs.getD F 0 ≠ 0)
  (MV : Option Res) (hMV : mvF ⟨p, 1, st, sk, re⟩ 100 xs ys F 0 [] = MV) :
  Calls Tryz.prog 140 #[.agg #[.int .i64 p, .int .i64 s, .bool st, .bool sk, .bool re, .bool fe, .bool ag, .int .i64 c, .int .i64 l], .agg #[.slice p1 pn1 pc1, .slice p2 pn2 pc2, .int .i64 1], .int .i64 move] w (MvQ pn1 MV w) := by
 have HR := Lib.hid (rv_new p s c l st sk re fe ag p1 p2 pn1 pc1 pn2 pc2 1 w 32 33 121 2)
 have hok := okP_parts hk
 have hbd := okR_bd hok.1
 have hn1 := hok.2.1
 have hp2 := hbd.1
 have hp8 := hbd.2.1
 have HL := Lib.hid (lap_of_ok (sk := sk) (re := re) hk h.l1 h.l2 hF he)
 have HB : Hid (∀ u, Below w.heap.size w u → Calls Tryz.prog 160 #[.agg #[.int .i64 p, .int .i64 s, .bool st, .bool sk, .bool re, .bool fe, .bool ag, .int .i64 c, .int .i64 l], .agg #[.slice p1 pn1 pc1, .slice p2 pn2 pc2, .int .i64 1], .int .i64 move] u (BegY p s c l st sk re fe ag 1 F pn1 xs ys u)) := Lib.hid fun u hu => begin_yes p s c l st sk re fe ag p1 p2 pn1 pc1 pn2 pc2 1 xs ys move u (h.below hu) hk F hF hf hm0 hm1 he
 have HMV := Lib.hid hMV
 have hl1 := h.l1
 have hl2 := h.l2
 rw [hok.2.2.1] at hl2
 clear hk hok hbd hMV he h
 refine (callsIn_wide (n := 6)).1 ?_
 refine callsIn_of_wp_marks Tryz.func140 rfl trivial ?_ rfl
 simp only [Tryz.ntmps140, List.size_toArray, List.length_cons, List.length_nil, Nat.reduceAdd, Nat.reduceSub, Array.replicate_succ, Array.replicate_zero, List.push_toArray, List.append_toArray, List.nil_append, List.cons_append]
 gi_wp2_with fail
 refine ⟨trivial, ?_⟩
 refine CallsIn.mono (callsIn_wide.2 (HB.out _ HR.out.be)) ?_
 have HE := HR.out.lt
 generalize (((w.alloc (.cells #[.int .i64 p, .int .i64 s, .bool st, .bool sk, .bool re, .bool fe, .bool ag, .int .i64 c, .int .i64 l] 32)).alloc (.cells #[.slice p1 pn1 pc1, .slice p2 pn2 pc2, .int .i64 1] 33)).alloc (.cells #[.slice none 0 0, .slice none 0 0, .int .i64 0, .int .i64 0] 121)).alloc (.cells #[.int .i64 0] 2) = W0 at *
 rintro e u ⟨g1, c1, g2, c2, rfl, o1, o2, hne, hl5, hl6, hc5, hc6, hb⟩
 have HR := Lib.hid (HR.out.below hb)
 have hsz := hb.size
 clear hb HB
 obtain ⟨K, hK⟩ : ∃ K : Cfg, K = ⟨p, s, c, l, st, sk, re, fe, ag, 1, F, W0.heap.size, u.heap.size, g1, c1, g2, c2, pn1⟩ := ⟨_, rfl⟩
 have HK := Lib.hid hK
 have HS := Lib.hid (sw_new K 0 0 0 xs ys u 177 (by rw [hK]) (by rw [hK]; exact o1) (by rw [hK]; exact o2) (by rw [hK]; exact hl1) hl2 (by rw [hK]; exact hne) (by rw [hK]; exact hl5) (by rw [hK]; exact hl6))
 have hg1 := o1.new
 have hg2 := o2.new
 clear o1 o2 hK
 gi_wp2_with fail
 have HR1 := Lib.hid (HR.out.below (al1 u (.cells #[.int .i64 p, .int .i64 s, .bool st, .bool sk, .bool re, .bool fe, .bool ag, .int .i64 c, .int .i64 l, .int .i64 1, .int .i64 F, .int .i64 0, .slice (some ⟨g1, 0, none⟩) pn1 c1, .slice (some ⟨g2, 0, none⟩) 2 c2, .int .i64 0, .int .i64 0] 177)))
 have HS1 : Hid (SwS (u.alloc (.cells #[.int .i64 p, .int .i64 s, .bool st, .bool sk, .bool re, .bool fe, .bool ag, .int .i64 c, .int .i64 l, .int .i64 1, .int .i64 F, .int .i64 0, .slice (some ⟨g1, 0, none⟩) pn1 c1, .slice (some ⟨g2, 0, none⟩) 2 c2, .int .i64 0, .int .i64 0] 177)) K 0 0 0 xs ys) := by
  have h := HS.out
  rw [HK.out] at h ⊢
  exact Lib.hid h
 have hsz1 : (u.alloc (.cells #[.int .i64 p, .int .i64 s, .bool st, .bool sk, .bool re, .bool fe, .bool ag, .int .i64 c, .int .i64 l, .int .i64 1, .int .i64 F, .int .i64 0, .slice (some ⟨g1, 0, none⟩) pn1 c1, .slice (some ⟨g2, 0, none⟩) 2 c2, .int .i64 0, .int .i64 0] 177)).heap.size = u.heap.size + 1 := by simp
 generalize (u.alloc (.cells #[.int .i64 p, .int .i64 s, .bool st, .bool sk, .bool re, .bool fe, .bool ag, .int .i64 c, .int .i64 l, .int .i64 1, .int .i64 F, .int .i64 0, .slice (some ⟨g1, 0, none⟩) pn1 c1, .slice (some ⟨g2, 0, none⟩) 2 c2, .int .i64 0, .int .i64 0] 177)) = W1 at *
 have hKb : K.b = u.heap.size := by rw [HK.out]
 have hKg1 : K.g1 = g1 := by rw [HK.out]
 have hKg2 : K.g2 = g2 := by rw [HK.out]
 have hKc1 : K.c1 = c1 := by rw [HK.out]
 have hKc2 : K.c2 = c2 := by rw [HK.out]
 have hKn1 : K.n1 = pn1 := by rw [HK.out]
 have hKR : K.R = ⟨p, 1, st, sk, re⟩ := by rw [HK.out]; rfl
 have hKB : K.B = W0.heap.size := by rw [HK.out]
 have hb4 : w.heap.size + 4 ≤ K.b := by rw [hKb]; omega
 have hb5 : w.heap.size + 4 ≤ K.g1 := by rw [hKg1]; omega
 have hb6 : w.heap.size + 4 ≤ K.g2 := by rw [hKg2]; omega
 have hW1 : w.heap.size + 4 ≤ W1.heap.size := by omega
 have hlow : K.b < W1.heap.size ∧ K.g1 < W1.heap.size ∧ K.g2 < W1.heap.size := ⟨by omega, by omega, by omega⟩
 rw [← hKb]
 have Hsz1 := Lib.hid hsz1
 have Hsz := Lib.hid hsz
 have HKn := Lib.hid (And.intro hKg1 (And.intro hKg2 (And.intro hKc1 (And.intro hKc2 (And.intro hKn1 (And.intro hKR (And.intro hKB hKb)))))))
 clear hsz1 hsz
 refine range_stmt (gf := 161) (fb := #[.pointer (some ⟨K.b, 0, none⟩)]) (cb := #[]) rfl (enters_of Tryz.func161 (by kernel_rfl) rfl) ?_
 intro fn R hRR
 have hb12 : Below W1.heap.size W1 ((W1.alloc (.deferred (some []))).alloc (.loop (R .ready none))) := ((Below.refl _ W1).alloc (Nat.le_refl _) _).alloc (by simp) _
 have hrc : RecAt ((W1.alloc (.deferred (some []))).alloc (.loop (R .ready none))) (W1.heap.size + 1) W1.heap.size (R .ready none) := laid_loop W1 _
 have hsz2 : ((W1.alloc (.deferred (some []))).alloc (.loop (R .ready none))).heap.size = W1.heap.size + 1 + 1 := by simp
 have HR2 := Lib.hid (HR1.out.low hb12 hW1)
 have HS2 := Lib.hid (HS1.out.low hb12 hlow)
 generalize (W1.alloc (.deferred (some []))).alloc (.loop (R .ready none)) = W2 at *
 have HRR := Lib.hid hRR
 clear hRR
 have Hrc := Lib.hid hrc
 have hKp : K.p = p := by rw [HK.out]
 have Hsz2 := Lib.hid hsz2
 refine (steps_gives1 (6 - 1) K (by rw [HK.out]) (by rw [hKp]; exact hp2) (by rw [hKp]; exact hp8) (by rw [hKn1, hKp]; exact hn1) (tot xs + tot ys) (W1.heap.size + 1) (MoJ w K MV (W1.heap.size + 1) W1.heap.size R) (MoX w MV (W1.heap.size + 1) W1.heap.size R) W2 ⟨0, xs, ys, F, []⟩ 0 0
  HS2.out (by rw [HK.out]) ⟨by rw [hKR]; exact HL.out, by show 0 ≤ 100; omega⟩ rfl ?_ ?_ ?_ ?_ ⟨HR2.out, by rw [hKR]; exact HMV.out, Hrc.out⟩).mono ?_
 all_goals clear hKb hKg1 hKg2 hKc1 hKc2 hKn1 hKR hKB hKp
 ·rintro s2 i A Z ⟨h1, h2, h3⟩ ho
  exact ⟨h1.of_out ho (by omega) hb4 hb5 hb6, h2, h3.of_out ho (by omega) (by omega) hlow.1 hlow.2.1 hlow.2.2 (by omega)⟩
 ·rintro A Z ⟨h1, h2, h3⟩ ho
  exact ⟨h1.low ho (by omega), h2, ⟨(ho.block _ (by omega)).trans h3.1, (ho.block _ (by omega)).trans h3.2⟩⟩
 ·rintro s2 i A hok hi ⟨hrs, hmv, hrc2⟩ hsw
  refine yield_mono (R := MoP w K MV (W1.heap.size + 1) W1.heap.size R W2.heap.size A s2 i) ?_ (fun e Z h => h.or)
  refine round_yield HRR.out hrc2.1 rfl ?_
  intro K0 hK0
  clear hsz2
  gi_wp2
  refine ⟨hrc2.1, ?_⟩
  have hsz2 := Hsz2.out
  have hl3 := low_put (B := W1.heap.size) A (.loop (R .busy none)) (show W1.heap.size ≤ W1.heap.size + 1 by omega)
  have Hrs3 := Lib.hid (hrs.low hl3 hW1)
  have Hsw3 := Lib.hid (SwS.low hsw hl3 hlow)
  have Hrc3 := Lib.hid (hrc2.put (r' := R .busy none) (by omega))
  have Hab3 := Lib.hid (Above.putObj (B := W2.heap.size) (A := A) (r := W1.heap.size + 1) (.loop (R .busy none)) (by omega))
  have Hmv := Lib.hid hmv
  generalize A.putObj (W1.heap.size + 1) (.loop (R .busy none)) = A3 at *
  clear hl3 hrs hsw hrc2 hmv hsz2
  gi_wp2_with fail
  refine ⟨trivial, ?_⟩
  refine CallsIn.mono (CallsIn.inRound _ (callsIn_wide.2 (endless_any K _ _ _ _ _ A3 Hsw3.out))) ?_
  rintro e A4 ⟨rfl, rfl⟩
  by_cases hj : s2.j < 100
  ·have hd : decide (100 < (s2.j : Int) + 1) = false := by simp; omega
   rw [hd]
   gi_wp2_with fail
   have hl4 := low_put (B := W1.heap.size) A3 (.loop (R .ready none)) (show W1.heap.size ≤ W1.heap.size + 1 by omega)
   exact ⟨Hrc3.out.1, ⟨.inl ⟨rfl, hj, ⟨Hrs3.out.low hl4 hW1, Hmv.out, Hrc3.out.put (by omega)⟩, SwS.low Hsw3.out hl4 hlow, Hab3.out.trans (Above.putObj _ (by have := Hsz2.out; omega))⟩⟩⟩
  ·have hd : decide (100 < (s2.j : Int) + 1) = true := by simp; omega
   rw [hd]
   have Hmn := Lib.hid (mv_end hj Hmv.out)
   obtain ⟨rb, rl, c0, c1', c2', c3, c4, f0, f1, f2, f3, f4⟩ := Hrs3.out
   have rl2 : w.heap.size + 1 + 1 < A3.heap.size := by omega
   dsimp only
   iterate 20 (first | go_values | gi_guarded | gi_step | gi_upon)
   simp only [Exit.inBlock]
   have hrc5 := rec_rs Hrc3.out Hrs3.out (.slice none 0 0) (.slice none 0 0) (.int .i64 0) (.int .i64 0) (.int .i64 10)
   exact ⟨hrc5.1, ⟨.inr ⟨rfl, ⟨(Hrs3.out.set (.slice none 0 0) (.slice none 0 0) (.int .i64 0) (.int .i64 0) 10).low (low_put (B := W1.heap.size) _ _ (by omega)) hW1, Hmn.out, hrc5.put (by omega)⟩, (Hab3.out.trans (above_rs (by have := Hsz2.out; omega) _ _ _ _ _)).trans (Above.putObj _ (by have := Hsz2.out; omega))⟩⟩⟩
 ·rintro s2 A hok hj hag ⟨h1, h2, h3⟩
  exact ⟨h1, mv_next hj hag h2, h3⟩
 ·rintro e Z ⟨hv, hz⟩
  refine ⟨hv, ?_⟩
  clear hsz2
  rcases hz with ⟨s2, hok, hj, hag, ⟨hrs, hmv, hrc3⟩, hsw⟩ | ⟨hrs, hmv, hrc3⟩
  ·refine .inl ⟨hrc3.1, ?_⟩
   have hl3 := low_put (B := W1.heap.size) Z (.loop (R .exhausted none)) (show W1.heap.size ≤ W1.heap.size + 1 by omega)
   have Hrs3 := Lib.hid (hrs.low hl3 hW1)
   have Hsw3 := Lib.hid (SwS.low hsw hl3 hlow)
   have Hrc3 := Lib.hid (hrc3.put (r' := R .exhausted none) (by omega))
   have Hmn := Lib.hid (mv_last hj hag hmv)
   generalize Z.putObj (W1.heap.size + 1) (.loop (R .exhausted none)) = Z2 at *
   obtain ⟨rb, rl, e0, e1, e2, e3, e4, f0, f1, f2, f3, f4⟩ := Hrs3.out
   have rl2 : w.heap.size + 1 + 1 < Z2.heap.size := by omega
   have q12 := Hsw3.out.q12
   have q13 := Hsw3.out.q13
   have q14 := Hsw3.out.q14
   have q15 := Hsw3.out.q15
   clear hl3 hrs hsw hrc3 hmv hv
   gi_wp2_with fail
   have hrc5 := rec_rs Hrc3.out Hrs3.out (.slice (some ⟨K.g1, 0, none⟩) K.n1 K.c1) (.slice (some ⟨K.g2, 0, none⟩) 2 K.c2) (.int .i64 (lst K.R s2.xs s2.f)) (.int .i64 ((s2.j : Int) + 1)) (.int .i64 0)
   refine ⟨by simp, .inl ⟨_, _, rfl, run_takeDeferred hrc5.2, ?_⟩⟩
   have HF := (Hrs3.out.set (.slice (some ⟨K.g1, 0, none⟩) K.n1 K.c1) (.slice (some ⟨K.g2, 0, none⟩) 2 K.c2) (.int .i64 (lst K.R s2.xs s2.f)) (.int .i64 ((s2.j : Int) + 1)) 0).low (low_put (B := W1.heap.size) _ (.deferred none) (Nat.le_refl _)) hW1
   refine ⟨.tuple #[.agg #[.slice (some ⟨K.g1, 0, none⟩) K.n1 K.c1, .slice (some ⟨K.g2, 0, none⟩) 2 K.c2, .int .i64 (lst K.R s2.xs s2.f), .int .i64 ((s2.j : Int) + 1)], .int .i64 0], by simp [results, Tryz.results140, go_sem, HF.c0, HF.c1, HF.c2, HF.c3, HF.c4], ?_⟩
   obtain ⟨kg1, kg2, kc1, kc2, kn1, -, kB, -⟩ := HKn.out
   have hsz9 : Z2.heap.size ≤ (((((((Z2.setCell ⟨w.heap.size + 1 + 1, 0, none⟩ (.slice (some ⟨K.g1, 0, none⟩) K.n1 K.c1)).setCell ⟨w.heap.size + 1 + 1, 1, none⟩ (.slice (some ⟨K.g2, 0, none⟩) 2 K.c2)).setCell ⟨w.heap.size + 1 + 1, 2, none⟩ (.int .i64 (lst K.R s2.xs s2.f))).setCell ⟨w.heap.size + 1 + 1, 3, none⟩ (.int .i64 ((s2.j : Int) + 1))).setCell ⟨w.heap.size + 1 + 1 + 1, 0, none⟩ (.int .i64 0)).putObj W1.heap.size (.deferred none))).heap.size := by simp
   have k1 := (World.putObj_heap_other (o := .deferred none) (w := ((((Z2.setCell ⟨w.heap.size + 1 + 1, 0, none⟩ (.slice (some ⟨K.g1, 0, none⟩) K.n1 K.c1)).setCell ⟨w.heap.size + 1 + 1, 1, none⟩ (.slice (some ⟨K.g2, 0, none⟩) 2 K.c2)).setCell ⟨w.heap.size + 1 + 1, 2, none⟩ (.int .i64 (lst K.R s2.xs s2.f))).setCell ⟨w.heap.size + 1 + 1, 3, none⟩ (.int .i64 ((s2.j : Int) + 1))).setCell ⟨w.heap.size + 1 + 1 + 1, 0, none⟩ (.int .i64 0)) (show K.g1 ≠ W1.heap.size by have := hlow.2.1; omega)).trans (keep_rs hb5 _ _ _ _ _)
   have k2 := (World.putObj_heap_other (o := .deferred none) (w := ((((Z2.setCell ⟨w.heap.size + 1 + 1, 0, none⟩ (.slice (some ⟨K.g1, 0, none⟩) K.n1 K.c1)).setCell ⟨w.heap.size + 1 + 1, 1, none⟩ (.slice (some ⟨K.g2, 0, none⟩) 2 K.c2)).setCell ⟨w.heap.size + 1 + 1, 2, none⟩ (.int .i64 (lst K.R s2.xs s2.f))).setCell ⟨w.heap.size + 1 + 1, 3, none⟩ (.int .i64 ((s2.j : Int) + 1))).setCell ⟨w.heap.size + 1 + 1 + 1, 0, none⟩ (.int .i64 0)) (show K.g2 ≠ W1.heap.size by have := hlow.2.2; omega)).trans (keep_rs hb6 _ _ _ _ _)
   have hS := Hsw3.out
   have oo1 := (hS.o1.keep k1 hsz9).lower (C := w.heap.size) (by rw [kB]; omega)
   have oo2 := (hS.o2.keep k2 hsz9).lower (C := w.heap.size) (by rw [kB]; omega)
   have g1lt := hS.h1
   have g2lt := hS.h2
   rw [Hmn.out, ← kn1]
   exact ⟨some ⟨K.g1, 0, none⟩, K.c1, K.g1, some ⟨K.g2, 0, none⟩, K.c2, K.g2, rfl, ⟨oo1, oo2, hS.d3, hS.l1, hS.l2⟩, by omega, by omega, by rw [kn1, kc1]; exact hc5, by rw [kc2]; exact hc6, HF.be⟩
  ·refine .inr ⟨_, hrc3.1, ?_⟩
   have hl3 := low_put (B := W1.heap.size) Z (.loop (R .exhausted (some .ret))) (show W1.heap.size ≤ W1.heap.size + 1 by omega)
   have Hrs3 := Lib.hid (hrs.low hl3 hW1)
   have Hrc3 := Lib.hid (hrc3.put (r' := R .exhausted (some .ret)) (by omega))
   have Hmn := Lib.hid hmv
   generalize Z.putObj (W1.heap.size + 1) (.loop (R .exhausted (some .ret))) = Z2 at *
   clear hl3 hrs hrc3 hmv hv
   gi_wp2_with fail
   refine ⟨by simp, .inl ⟨_, _, rfl, run_takeDeferred Hrc3.out.2, ?_⟩⟩
   have HF := Hrs3.out.low (low_put (B := W1.heap.size) Z2 (.deferred none) (Nat.le_refl _)) hW1
   refine ⟨.tuple #[.agg #[.slice none 0 0, .slice none 0 0, .int .i64 0, .int .i64 0], .int .i64 10], by simp [results, Tryz.results140, go_sem, HF.c0, HF.c1, HF.c2, HF.c3, HF.c4], ?_⟩
   rw [Hmn.out]
   exact soZ_zero 10 HF.be (by have := HF.lt; omega)
/- End5 -/
def SwC (n1 : Nat) (cd : Int) (MV : Option Res) (w : World) (e : Ending) (w' : World) : Prop :=
 match MV with
 | none => e = .returned (.tuple #[.agg #[.slice none 0 0, .slice none 0 0, .int .i64 0, .int .i64 0], .slice none 0 0, .int .i64 cd]) ∧ Below w.heap.size w w'
 | some m => ∃ b1 c1 b2 c2 v, e = .returned (.tuple #[.agg #[.slice (some ⟨b1, 0, none⟩) n1 c1, .slice (some ⟨b2, 0, none⟩) 2 c2, .int .i64 m.last, .int .i64 m.laps], v, .int .i64 0]) ∧
   PosO w' w.heap.size (some ⟨b1, 0, none⟩) (some ⟨b2, 0, none⟩) b1 b2 n1 2 m.xs m.ys ∧ b1 < w'.heap.size ∧ b2 < w'.heap.size ∧ n1 ≤ c1 ∧ 2 ≤ c2 ∧ w'.ownsRow w.heap.size 2 1 v m.path.length (nvs m.path) ∧ Below w.heap.size w w'
structure MvO (B n1 : Nat) (m : Res) (b1 c1 b2 c2 : Nat) (v : Value) (u : World) : Prop where
 ho : PosO u B (some ⟨b1, 0, none⟩) (some ⟨b2, 0, none⟩) b1 b2 n1 2 m.xs m.ys
 l1 : b1 < u.heap.size
 l2 : b2 < u.heap.size
 k1 : n1 ≤ c1
 k2 : 2 ≤ c2
 row : u.ownsRow B 2 1 v m.path.length (nvs m.path)
section
variable {B n1 b1 c1 b2 c2 : Nat} {m : Res} {v : Value} {u z : World}
theorem MvO.below (h : MvO B n1 m b1 c1 b2 c2 v u) (k : Below u.heap.size u z) : MvO B n1 m b1 c1 b2 c2 v z :=
 ⟨h.ho.below k, Nat.lt_of_lt_of_le h.l1 k.size, Nat.lt_of_lt_of_le h.l2 k.size, h.k1, h.k2, own_keep h.row k⟩
theorem MvO.drew (h : MvO B n1 m b1 c1 b2 c2 v u) : MvO B n1 m b1 c1 b2 c2 v u.drew := h.below (Below.refl _ _).drew
theorem MvO.set4 {q : Nat} (h : MvO B n1 m b1 c1 b2 c2 v u) (hq : q < B) (x0 x1 x2 x3 : Value) : MvO B n1 m b1 c1 b2 c2 v ((((u.setCell ⟨q, 0, none⟩ x0).setCell ⟨q, 1, none⟩ x1).setCell ⟨q, 2, none⟩ x2).setCell ⟨q, 3, none⟩ x3) := by
 have h1 := h.ho.o1.new
 have h2 := h.ho.o2.new
 exact ⟨h.ho.but (but4 q u x0 x1 x2 x3) (by omega) (by omega), by simpa using h.l1, by simpa using h.l2, h.k1, h.k2, own_but h.row (but4 q u x0 x1 x2 x3) hq⟩
theorem mvO_end {w : World} {cd : Int} (h : MvO B n1 m b1 c1 b2 c2 v u) (hB : w.heap.size ≤ B) (hb : OnW w u) :
  SwC n1 cd (some m) w (.returned (.tuple #[.agg #[.slice (some ⟨b1, 0, none⟩) n1 c1, .slice (some ⟨b2, 0, none⟩) 2 c2, .int .i64 m.last, .int .i64 m.laps], v, .int .i64 0])) u :=
 ⟨b1, c1, b2, c2, v, rfl, h.ho.lower hB, h.l1, h.l2, h.k1, h.k2, own_lower h.row hB, hb⟩
end
theorem l05Move_err (rb pb : Nat) (move cd : Int) (hcd : (cd == 0) = false) (w : World) (hc : ∀ u, Below w.heap.size w u → Calls Tryz.prog 154 #[.pointer (some ⟨rb, 0, none⟩), .pointer (some ⟨pb, 0, none⟩), .int .i64 move] u (Still (.int .i64 cd) u)) :
  Calls Tryz.prog 136 #[.pointer (some ⟨rb, 0, none⟩), .pointer (some ⟨pb, 0, none⟩), .int .i64 move] w (SwC 0 cd none w) := by
 have HC := Lib.hid hc
 have HZ := Lib.hid (z4_new w 121)
 have HB := Lib.hid (al1 w (.cells #[.slice none 0 0, .slice none 0 0, .int .i64 0, .int .i64 0] 121))
 have hcd2 : (cd != 0) = true := by simpa [bne] using hcd
 clear hc
 go_enter Tryz.func136, Tryz.ntmps136
 go_wp2_with fail
 generalize w.alloc (.cells #[.slice none 0 0, .slice none 0 0, .int .i64 0, .int .i64 0] 121) = u at *
 refine (HC.out _ HB.out).mono ?_
 rintro e u2 ⟨rfl, m, rfl⟩
 obtain ⟨zl, z0, z1, z2, z3, y0, y1, y2, y3⟩ := HZ.out
 go_wp2_with fail
 refine bodyPost_ret (v := .tuple #[.agg #[.slice none 0 0, .slice none 0 0, .int .i64 0, .int .i64 0], .slice none 0 0, .int .i64 cd]) (by simp [results, Tryz.results136, go_sem, z0, z1, z2, z3]) rfl ⟨rfl, OnW.set4 (show OnW w _ from below_dn HB.out _) (Nat.le_refl _) _ _ _ _⟩
theorem l05Move_yes0 (p s c l : Int) (st sk re fe ag : Bool) (p1 p2 : Option Addr) (pn1 pc1 pc2 : Nat) (xs ys : List Int) (F rb pb : Nat) (move : Int) (w : World) (hr : RuAt w rb p s c l st sk re fe ag) (hq : PoAt w pb p1 p2 pn1 pc1 2 pc2 0) (h : PosR w p1 p2 pn1 2 xs ys) (hk : okP (okR p s c l st ag) p pn1 2 0 xs ys = true) (hF : F < pn1) (hf : 0 * p + move = F) (hm0 : 0 ≤ move) (hm1 : move < p) (he : xs.getD F 0 ≠ 0) (MV : Option Res) (hMV : mvF ⟨p, 0, st, sk, re⟩ 100 xs ys F 0 [] = MV) :
  Calls Tryz.prog 136 #[.pointer (some ⟨rb, 0, none⟩), .pointer (some ⟨pb, 0, none⟩), .int .i64 move] w (SwC pn1 10 MV w) := by
 have hok := okP_parts hk
 have hbd := okR_bd hok.1
 have hp2 := hbd.1
 have hp8 := hbd.2.1
 have hlap := lap_of_ok (sk := sk) (re := re) hk h.l1 h.l2 hF he
 have HC : Hid (∀ u, Below w.heap.size w u → Calls Tryz.prog 154 #[.pointer (some ⟨rb, 0, none⟩), .pointer (some ⟨pb, 0, none⟩), .int .i64 move] u (Still (.int .i64 0) u)) := Lib.hid (fun u hu => code_yes p s c l st sk re fe ag _ _ _ _ _ _ _ xs ys rb pb move u (hr.below hu) (hq.below hu) (h.below hu) hk F hF hf hm0 hm1 he)
 have HSw : Hid (∀ u, Below w.heap.size w u → Calls Tryz.prog 155 #[.pointer (some ⟨rb, 0, none⟩), .pointer (some ⟨pb, 0, none⟩), .int .i64 F] u (SwQ pn1 MV u)) := Lib.hid (fun u hu => specSow0 p s c l st sk re fe ag p1 p2 pn1 pc1 pc2 xs ys F rb pb u _ (hr.below hu) (hq.below hu) (h.below hu) hp2 hp8 hlap MV hMV)
 have HZ := Lib.hid (z4_new w 121)
 have HB := Lib.hid (al1 w (.cells #[.slice none 0 0, .slice none 0 0, .int .i64 0, .int .i64 0] 121))
 have HR := Lib.hid hr
 have HQ := Lib.hid hq
 have hw1 : IntKind.i64.wrap (0 * p) = 0 * p := IntWalk.i64_in _ ⟨by omega, by omega⟩
 have hw2 : IntKind.i64.wrap (0 * p + move) = (F : Int) := by rw [hf]; exact IntWalk.i64_in _ ⟨by omega, by omega⟩
 have hw3 : IntKind.i64.wrap (p + move) = p + move := IntWalk.i64_in _ ⟨by omega, by omega⟩
 have hw4 : IntKind.i64.wrap move = move := IntWalk.i64_in _ ⟨by omega, by omega⟩
 obtain ⟨M, hM⟩ : ∃ M : Nat, move = (M : Int) := ⟨move.toNat, by omega⟩
 subst hM
 have HWA : Hid (IntKind.i64.wrap (IntKind.i64.wrap 0 + (M : Int)) = (F : Int)) := Lib.hid (by rw [show IntKind.i64.wrap 0 = 0 from IntWalk.i64_in _ ⟨by omega, by omega⟩, IntWalk.i64_in _ ⟨by omega, by omega⟩]; omega)
 clear hok hbd hlap hk h he hMV hr hq
 go_enter Tryz.func136, Tryz.ntmps136
 go_wp2_with fail
 refine (HC.out _ HB.out).mono ?_
 rintro e u2 ⟨rfl, m, rfl⟩
 have HB3 : Hid (Below w.heap.size w ((w.alloc (.cells #[.slice none 0 0, .slice none 0 0, .int .i64 0, .int .i64 0] 121)).drewN m)) := Lib.hid (below_dn HB.out m)
 have HZ3 : Hid (Z4 ((w.alloc (.cells #[.slice none 0 0, .slice none 0 0, .int .i64 0, .int .i64 0] 121)).drewN m) w.heap.size) := Lib.hid (HZ.out.below (below_dn (Below.refl _ _) m))
 have HR3 : Hid (RuAt ((w.alloc (.cells #[.slice none 0 0, .slice none 0 0, .int .i64 0, .int .i64 0] 121)).drewN m) rb p s c l st sk re fe ag) := Lib.hid (HR.out.below HB3.out)
 have HQ3 : Hid (PoAt ((w.alloc (.cells #[.slice none 0 0, .slice none 0 0, .int .i64 0, .int .i64 0] 121)).drewN m) pb p1 p2 pn1 pc1 2 pc2 0) := Lib.hid (HQ.out.below HB3.out)
 generalize (w.alloc (.cells #[.slice none 0 0, .slice none 0 0, .int .i64 0, .int .i64 0] 121)).drewN m = u4 at *
 have HT : Hid (∀ u, RuAt u rb p s c l st sk re fe ag → PoAt u pb p1 p2 pn1 pc1 2 pc2 0 → OnW w u → (rb < u.heap.size ∧ u.cell? ⟨rb, 0, none⟩ = some (.int .i64 p)) ∧ (pb < u.heap.size ∧ u.cell? ⟨pb, 2, none⟩ = some (.int .i64 0)) ∧ Below w.heap.size w u) := Lib.hid (fun u h1 h2 h3 => ⟨⟨h1.1, h1.2.1⟩, ⟨h2.1, h2.2.2.2⟩, h3⟩)
 have HB3 := Lib.hid (show OnW w u4 from HB3.out)
 have hrl := HR3.out.1
 have hql := HQ3.out.1
 have hwz : w.heap.size ≤ u4.heap.size := HB3.out.bel.size
 have hzl := HZ3.out.lt
 have hne1 : w.heap.size ≠ u4.heap.size := by omega
 have hne2 : u4.heap.size ≠ w.heap.size := by omega
 go_wp2_with fail
 cases MV with
 | none =>
  go_region_held3 (fun u => (rb < u.heap.size ∧ u.cell? ⟨rb, 0, none⟩ = some (.int .i64 p)) ∧ (pb < u.heap.size ∧ u.cell? ⟨pb, 2, none⟩ = some (.int .i64 0)) ∧ Below w.heap.size w u) (first | with_reducible exact HT.out _ HR3.out HQ3.out HB3.out | with_reducible exact HT.out _ HR3.out.drew HQ3.out.drew HB3.out.drew | with_reducible exact HT.out _ (HR3.out.below (al1 _ _)) (HQ3.out.below (al1 _ _)) (HB3.out.below (al1 _ _)) | with_reducible exact HT.out _ (HR3.out.below (al1 _ _)).drew (HQ3.out.below (al1 _ _)).drew (HB3.out.below (al1 _ _)).drew | with_reducible exact HT.out _ (HR3.out.drew.below (al1 _ _)) (HQ3.out.drew.below (al1 _ _)) (HB3.out.drew.below (al1 _ _)) | with_reducible exact HT.out _ (HR3.out.but (but4 _ _ _ _ _ _) (by omega)) (HQ3.out.but (but4 _ _ _ _ _ _) (by omega)) (OnW.set4 HB3.out (by omega) _ _ _ _))
   ((go_at_call 155; (rw [HWA.out]); (first | with_reducible refine (HSw.out _ HB3.out.bel).mono ?_ | with_reducible refine (HSw.out _ HB3.out.drew.bel).mono ?_ | with_reducible refine (HSw.out _ (HB3.out.below (al1 _ _)).bel).mono ?_ | with_reducible refine (HSw.out _ (HB3.out.below (al1 _ _)).drew.bel).mono ?_ | with_reducible refine (HSw.out _ (HB3.out.drew.below (al1 _ _)).bel).mono ?_); rintro e u5 ⟨rfl, hb3⟩; (first | have HR3 := Lib.hid (HR3.out.below hb3) | have HR3 := Lib.hid (HR3.out.drew.below hb3) | have HR3 := Lib.hid ((HR3.out.below (al1 _ _)).below hb3) | have HR3 := Lib.hid ((HR3.out.below (al1 _ _)).drew.below hb3)); (first | have HQ3 := Lib.hid (HQ3.out.below hb3) | have HQ3 := Lib.hid (HQ3.out.drew.below hb3) | have HQ3 := Lib.hid ((HQ3.out.below (al1 _ _)).below hb3) | have HQ3 := Lib.hid ((HQ3.out.below (al1 _ _)).drew.below hb3)); (first | have HB3 := Lib.hid (HB3.out.below hb3) | have HB3 := Lib.hid (HB3.out.drew.below hb3) | have HB3 := Lib.hid ((HB3.out.below (al1 _ _)).below hb3) | have HB3 := Lib.hid ((HB3.out.below (al1 _ _)).drew.below hb3)); (first | have HZ3 := Lib.hid (HZ3.out.below hb3) | have HZ3 := Lib.hid (HZ3.out.drew.below hb3) | have HZ3 := Lib.hid ((HZ3.out.below (al1 _ _)).below hb3) | have HZ3 := Lib.hid ((HZ3.out.below (al1 _ _)).drew.below hb3)); have nz3 := HR3.out.1; have nq3 := HQ3.out.1; (first | have HY := Lib.hid ((z4_new u4 121).drew.below hb3) | have HY := Lib.hid ((z4_new u4.drew 121).below hb3) | have HY := Lib.hid ((z4_new u4 121).below hb3) | skip); (try obtain ⟨yz, y0, y1, y2, y3, k0, k1, k2, k3⟩ := HY.out); clear hb3))
  all_goals (obtain ⟨zl, z0, z1, z2, z3, q0, q1, q2, q3⟩ := HZ3.out)
  all_goals have hne3 : w.heap.size ≠ u5.heap.size := by omega
  all_goals have hne4 : u5.heap.size ≠ w.heap.size := by omega
  all_goals go_wp2_with fail
  all_goals (refine bodyPost_ret (v := .tuple #[.agg #[.slice none 0 0, .slice none 0 0, .int .i64 0, .int .i64 0], .slice none 0 0, .int .i64 10]) (by simp [results, Tryz.results136, go_sem, z0, z1, z2, z3, zl]) rfl ⟨rfl, ?_⟩)
  all_goals first
   | with_reducible exact (OnW.below (OnW.set4 HB3.out (Nat.le_refl _) _ _ _ _) (al1 _ _)).bel
   | with_reducible exact (OnW.set4 (OnW.set4 HB3.out hwz _ _ _ _) (Nat.le_refl _) _ _ _ _).bel
   | with_reducible exact (OnW.set4 (OnW.below HB3.out (al1 _ _)) (Nat.le_refl _) _ _ _ _).bel
 | some mm =>
  go_region_held3 (fun u => (rb < u.heap.size ∧ u.cell? ⟨rb, 0, none⟩ = some (.int .i64 p)) ∧ (pb < u.heap.size ∧ u.cell? ⟨pb, 2, none⟩ = some (.int .i64 0)) ∧ Below w.heap.size w u) (first | with_reducible exact HT.out _ HR3.out HQ3.out HB3.out | with_reducible exact HT.out _ HR3.out.drew HQ3.out.drew HB3.out.drew | with_reducible exact HT.out _ (HR3.out.below (al1 _ _)) (HQ3.out.below (al1 _ _)) (HB3.out.below (al1 _ _)) | with_reducible exact HT.out _ (HR3.out.below (al1 _ _)).drew (HQ3.out.below (al1 _ _)).drew (HB3.out.below (al1 _ _)).drew | with_reducible exact HT.out _ (HR3.out.drew.below (al1 _ _)) (HQ3.out.drew.below (al1 _ _)) (HB3.out.drew.below (al1 _ _)) | with_reducible exact HT.out _ (HR3.out.but (but4 _ _ _ _ _ _) (by omega)) (HQ3.out.but (but4 _ _ _ _ _ _) (by omega)) (OnW.set4 HB3.out (by omega) _ _ _ _))
   ((go_at_call 155; (rw [HWA.out]); (first | with_reducible refine (HSw.out _ HB3.out.bel).mono ?_ | with_reducible refine (HSw.out _ HB3.out.drew.bel).mono ?_ | with_reducible refine (HSw.out _ (HB3.out.below (al1 _ _)).bel).mono ?_ | with_reducible refine (HSw.out _ (HB3.out.below (al1 _ _)).drew.bel).mono ?_ | with_reducible refine (HSw.out _ (HB3.out.drew.below (al1 _ _)).bel).mono ?_); rintro e u5 ⟨b1, c1, b2, c2, v, rfl, ho, hl1, hl2, hc1, hc2, hown, hb3⟩; have HM := Lib.hid (MvO.mk ho hl1 hl2 hc1 hc2 hown); (have hbz := hb3.size); clear ho hl1 hl2 hc1 hc2 hown; (try simp at hbz); (first | have HR3 := Lib.hid (HR3.out.below hb3) | have HR3 := Lib.hid (HR3.out.drew.below hb3) | have HR3 := Lib.hid ((HR3.out.below (al1 _ _)).below hb3) | have HR3 := Lib.hid ((HR3.out.below (al1 _ _)).drew.below hb3)); (first | have HQ3 := Lib.hid (HQ3.out.below hb3) | have HQ3 := Lib.hid (HQ3.out.drew.below hb3) | have HQ3 := Lib.hid ((HQ3.out.below (al1 _ _)).below hb3) | have HQ3 := Lib.hid ((HQ3.out.below (al1 _ _)).drew.below hb3)); (first | have HB3 := Lib.hid (HB3.out.below hb3) | have HB3 := Lib.hid (HB3.out.drew.below hb3) | have HB3 := Lib.hid ((HB3.out.below (al1 _ _)).below hb3) | have HB3 := Lib.hid ((HB3.out.below (al1 _ _)).drew.below hb3)); (first | have HZ3 := Lib.hid (HZ3.out.below hb3) | have HZ3 := Lib.hid (HZ3.out.drew.below hb3) | have HZ3 := Lib.hid ((HZ3.out.below (al1 _ _)).below hb3) | have HZ3 := Lib.hid ((HZ3.out.below (al1 _ _)).drew.below hb3)); have nz3 := HR3.out.1; have nq3 := HQ3.out.1; (first | have HY := Lib.hid ((z4_new u4 121).drew.below hb3) | have HY := Lib.hid ((z4_new u4.drew 121).below hb3) | have HY := Lib.hid ((z4_new u4 121).below hb3) | skip); (try obtain ⟨yz, y0, y1, y2, y3, k0, k1, k2, k3⟩ := HY.out); clear hb3))
  all_goals (obtain ⟨zl, z0, z1, z2, z3, q0, q1, q2, q3⟩ := HZ3.out)
  all_goals have hne3 : w.heap.size ≠ u5.heap.size := by omega
  all_goals have hne4 : u5.heap.size ≠ w.heap.size := by omega
  all_goals go_wp2_with fail
  all_goals (refine bodyPost_ret (v := .tuple #[.agg #[.slice (some ⟨b1, 0, none⟩) pn1 c1, .slice (some ⟨b2, 0, none⟩) 2 c2, .int .i64 mm.last, .int .i64 mm.laps], v, .int .i64 0]) (by simp [results, Tryz.results136, go_sem, z0, z1, z2, z3, zl]) rfl ?_)
  ·have HM1 := Lib.hid (show MvO u4.heap.size pn1 mm b1 c1 b2 c2 v u5 from HM.out)
   clear HM HSw HZ3 HT HR3 HQ3
   refine mvO_end (B := u4.heap.size) ?_ hwz ?_
   ·with_reducible exact (HM1.out.set4 hzl _ _ _ _).below (al1 _ _)
   ·with_reducible exact OnW.below (OnW.set4 HB3.out (Nat.le_refl _) _ _ _ _) (al1 _ _)
  ·have HM1 := Lib.hid (show MvO (u4.heap.size + 1) pn1 mm b1 c1 b2 c2 v u5 from by have h := HM.out; simpa using h)
   clear HM HSw HZ3 HT HR3 HQ3
   refine mvO_end (B := u4.heap.size + 1) ?_ (by omega) ?_
   ·with_reducible exact (HM1.out.set4 (Nat.lt_succ_self _) _ _ _ _).set4 (Nat.lt_succ_of_lt hzl) _ _ _ _
   ·with_reducible exact OnW.set4 (OnW.set4 HB3.out hwz _ _ _ _) (Nat.le_refl _) _ _ _ _
theorem l05Move_yes1 (p s c l : Int) (st sk re fe ag : Bool) (p1 p2 : Option Addr) (pn1 pc1 pc2 : Nat) (xs ys : List Int) (F rb pb : Nat) (move : Int) (w : World) (hr : RuAt w rb p s c l st sk re fe ag) (hq : PoAt w pb p1 p2 pn1 pc1 2 pc2 1) (h : PosR w p1 p2 pn1 2 xs ys) (hk : okP (okR p s c l st ag) p pn1 2 1 xs ys = true) (hF : F < pn1) (hf : 1 * p + move = F) (hm0 : 0 ≤ move) (hm1 : move < p) (he : xs.getD F 0 ≠ 0) (MV : Option Res) (hMV : mvF ⟨p, 1, st, sk, re⟩ 100 xs ys F 0 [] = MV) :
  Calls Tryz.prog 136 #[.pointer (some ⟨rb, 0, none⟩), .pointer (some ⟨pb, 0, none⟩), .int .i64 move] w (SwC pn1 10 MV w) := by
 have hok := okP_parts hk
 have hbd := okR_bd hok.1
 have hp2 := hbd.1
 have hp8 := hbd.2.1
 have hlap := lap_of_ok (sk := sk) (re := re) hk h.l1 h.l2 hF he
 have HC : Hid (∀ u, Below w.heap.size w u → Calls Tryz.prog 154 #[.pointer (some ⟨rb, 0, none⟩), .pointer (some ⟨pb, 0, none⟩), .int .i64 move] u (Still (.int .i64 0) u)) := Lib.hid (fun u hu => code_yes p s c l st sk re fe ag _ _ _ _ _ _ _ xs ys rb pb move u (hr.below hu) (hq.below hu) (h.below hu) hk F hF hf hm0 hm1 he)
 have HSw : Hid (∀ u, Below w.heap.size w u → Calls Tryz.prog 155 #[.pointer (some ⟨rb, 0, none⟩), .pointer (some ⟨pb, 0, none⟩), .int .i64 F] u (SwQ pn1 MV u)) := Lib.hid (fun u hu => specSow1 p s c l st sk re fe ag p1 p2 pn1 pc1 pc2 xs ys F rb pb u _ (hr.below hu) (hq.below hu) (h.below hu) hp2 hp8 hlap MV hMV)
 have HZ := Lib.hid (z4_new w 121)
 have HB := Lib.hid (al1 w (.cells #[.slice none 0 0, .slice none 0 0, .int .i64 0, .int .i64 0] 121))
 have HR := Lib.hid hr
 have HQ := Lib.hid hq
 have hw1 : IntKind.i64.wrap (1 * p) = 1 * p := IntWalk.i64_in _ ⟨by omega, by omega⟩
 have hw2 : IntKind.i64.wrap (1 * p + move) = (F : Int) := by rw [hf]; exact IntWalk.i64_in _ ⟨by omega, by omega⟩
 have hw3 : IntKind.i64.wrap (p + move) = p + move := IntWalk.i64_in _ ⟨by omega, by omega⟩
 have hw4 : IntKind.i64.wrap move = move := IntWalk.i64_in _ ⟨by omega, by omega⟩
 obtain ⟨M, hM⟩ : ∃ M : Nat, move = (M : Int) := ⟨move.toNat, by omega⟩
 subst hM
 have HWA : Hid (IntKind.i64.wrap (IntKind.i64.wrap p + (M : Int)) = (F : Int)) := Lib.hid (by rw [show IntKind.i64.wrap p = p from IntWalk.i64_in _ ⟨by omega, by omega⟩, IntWalk.i64_in _ ⟨by omega, by omega⟩]; omega)
 clear hok hbd hlap hk h he hMV hr hq
 go_enter Tryz.func136, Tryz.ntmps136
 go_wp2_with fail
 refine (HC.out _ HB.out).mono ?_
 rintro e u2 ⟨rfl, m, rfl⟩
 have HB3 : Hid (Below w.heap.size w ((w.alloc (.cells #[.slice none 0 0, .slice none 0 0, .int .i64 0, .int .i64 0] 121)).drewN m)) := Lib.hid (below_dn HB.out m)
 have HZ3 : Hid (Z4 ((w.alloc (.cells #[.slice none 0 0, .slice none 0 0, .int .i64 0, .int .i64 0] 121)).drewN m) w.heap.size) := Lib.hid (HZ.out.below (below_dn (Below.refl _ _) m))
 have HR3 : Hid (RuAt ((w.alloc (.cells #[.slice none 0 0, .slice none 0 0, .int .i64 0, .int .i64 0] 121)).drewN m) rb p s c l st sk re fe ag) := Lib.hid (HR.out.below HB3.out)
 have HQ3 : Hid (PoAt ((w.alloc (.cells #[.slice none 0 0, .slice none 0 0, .int .i64 0, .int .i64 0] 121)).drewN m) pb p1 p2 pn1 pc1 2 pc2 1) := Lib.hid (HQ.out.below HB3.out)
 generalize (w.alloc (.cells #[.slice none 0 0, .slice none 0 0, .int .i64 0, .int .i64 0] 121)).drewN m = u4 at *
 have HT : Hid (∀ u, RuAt u rb p s c l st sk re fe ag → PoAt u pb p1 p2 pn1 pc1 2 pc2 1 → OnW w u → (rb < u.heap.size ∧ u.cell? ⟨rb, 0, none⟩ = some (.int .i64 p)) ∧ (pb < u.heap.size ∧ u.cell? ⟨pb, 2, none⟩ = some (.int .i64 1)) ∧ Below w.heap.size w u) := Lib.hid (fun u h1 h2 h3 => ⟨⟨h1.1, h1.2.1⟩, ⟨h2.1, h2.2.2.2⟩, h3⟩)
 have HB3 := Lib.hid (show OnW w u4 from HB3.out)
 have hrl := HR3.out.1
 have hql := HQ3.out.1
 have hwz : w.heap.size ≤ u4.heap.size := HB3.out.bel.size
 have hzl := HZ3.out.lt
 have hne1 : w.heap.size ≠ u4.heap.size := by omega
 have hne2 : u4.heap.size ≠ w.heap.size := by omega
 go_wp2_with fail
 cases MV with
 | none =>
  go_region_held3 (fun u => (rb < u.heap.size ∧ u.cell? ⟨rb, 0, none⟩ = some (.int .i64 p)) ∧ (pb < u.heap.size ∧ u.cell? ⟨pb, 2, none⟩ = some (.int .i64 1)) ∧ Below w.heap.size w u) (first | with_reducible exact HT.out _ HR3.out HQ3.out HB3.out | with_reducible exact HT.out _ HR3.out.drew HQ3.out.drew HB3.out.drew | with_reducible exact HT.out _ (HR3.out.below (al1 _ _)) (HQ3.out.below (al1 _ _)) (HB3.out.below (al1 _ _)) | with_reducible exact HT.out _ (HR3.out.below (al1 _ _)).drew (HQ3.out.below (al1 _ _)).drew (HB3.out.below (al1 _ _)).drew | with_reducible exact HT.out _ (HR3.out.drew.below (al1 _ _)) (HQ3.out.drew.below (al1 _ _)) (HB3.out.drew.below (al1 _ _)) | with_reducible exact HT.out _ (HR3.out.but (but4 _ _ _ _ _ _) (by omega)) (HQ3.out.but (but4 _ _ _ _ _ _) (by omega)) (OnW.set4 HB3.out (by omega) _ _ _ _))
   ((go_at_call 155; (rw [HWA.out]); (first | with_reducible refine (HSw.out _ HB3.out.bel).mono ?_ | with_reducible refine (HSw.out _ HB3.out.drew.bel).mono ?_ | with_reducible refine (HSw.out _ (HB3.out.below (al1 _ _)).bel).mono ?_ | with_reducible refine (HSw.out _ (HB3.out.below (al1 _ _)).drew.bel).mono ?_ | with_reducible refine (HSw.out _ (HB3.out.drew.below (al1 _ _)).bel).mono ?_); rintro e u5 ⟨rfl, hb3⟩; (first | have HR3 := Lib.hid (HR3.out.below hb3) | have HR3 := Lib.hid (HR3.out.drew.below hb3) | have HR3 := Lib.hid ((HR3.out.below (al1 _ _)).below hb3) | have HR3 := Lib.hid ((HR3.out.below (al1 _ _)).drew.below hb3)); (first | have HQ3 := Lib.hid (HQ3.out.below hb3) | have HQ3 := Lib.hid (HQ3.out.drew.below hb3) | have HQ3 := Lib.hid ((HQ3.out.below (al1 _ _)).below hb3) | have HQ3 := Lib.hid ((HQ3.out.below (al1 _ _)).drew.below hb3)); (first | have HB3 := Lib.hid (HB3.out.below hb3) | have HB3 := Lib.hid (HB3.out.drew.below hb3) | have HB3 := Lib.hid ((HB3.out.below (al1 _ _)).below hb3) | have HB3 := Lib.hid ((HB3.out.below (al1 _ _)).drew.below hb3)); (first | have HZ3 := Lib.hid (HZ3.out.below hb3) | have HZ3 := Lib.hid (HZ3.out.drew.below hb3) | have HZ3 := Lib.hid ((HZ3.out.below (al1 _ _)).below hb3) | have HZ3 := Lib.hid ((HZ3.out.below (al1 _ _)).drew.below hb3)); have nz3 := HR3.out.1; have nq3 := HQ3.out.1; (first | have HY := Lib.hid ((z4_new u4 121).drew.below hb3) | have HY := Lib.hid ((z4_new u4.drew 121).below hb3) | have HY := Lib.hid ((z4_new u4 121).below hb3) | skip); (try obtain ⟨yz, y0, y1, y2, y3, k0, k1, k2, k3⟩ := HY.out); clear hb3))
  all_goals (obtain ⟨zl, z0, z1, z2, z3, q0, q1, q2, q3⟩ := HZ3.out)
  all_goals have hne3 : w.heap.size ≠ u5.heap.size := by omega
  all_goals have hne4 : u5.heap.size ≠ w.heap.size := by omega
  all_goals go_wp2_with fail
  all_goals (refine bodyPost_ret (v := .tuple #[.agg #[.slice none 0 0, .slice none 0 0, .int .i64 0, .int .i64 0], .slice none 0 0, .int .i64 10]) (by simp [results, Tryz.results136, go_sem, z0, z1, z2, z3, zl]) rfl ⟨rfl, ?_⟩)
  all_goals first
   | with_reducible exact (OnW.below (OnW.set4 HB3.out (Nat.le_refl _) _ _ _ _) (al1 _ _)).bel
   | with_reducible exact (OnW.set4 (OnW.set4 HB3.out hwz _ _ _ _) (Nat.le_refl _) _ _ _ _).bel
   | with_reducible exact (OnW.set4 (OnW.below HB3.out (al1 _ _)) (Nat.le_refl _) _ _ _ _).bel
 | some mm =>
  go_region_held3 (fun u => (rb < u.heap.size ∧ u.cell? ⟨rb, 0, none⟩ = some (.int .i64 p)) ∧ (pb < u.heap.size ∧ u.cell? ⟨pb, 2, none⟩ = some (.int .i64 1)) ∧ Below w.heap.size w u) (first | with_reducible exact HT.out _ HR3.out HQ3.out HB3.out | with_reducible exact HT.out _ HR3.out.drew HQ3.out.drew HB3.out.drew | with_reducible exact HT.out _ (HR3.out.below (al1 _ _)) (HQ3.out.below (al1 _ _)) (HB3.out.below (al1 _ _)) | with_reducible exact HT.out _ (HR3.out.below (al1 _ _)).drew (HQ3.out.below (al1 _ _)).drew (HB3.out.below (al1 _ _)).drew | with_reducible exact HT.out _ (HR3.out.drew.below (al1 _ _)) (HQ3.out.drew.below (al1 _ _)) (HB3.out.drew.below (al1 _ _)) | with_reducible exact HT.out _ (HR3.out.but (but4 _ _ _ _ _ _) (by omega)) (HQ3.out.but (but4 _ _ _ _ _ _) (by omega)) (OnW.set4 HB3.out (by omega) _ _ _ _))
   ((go_at_call 155; (rw [HWA.out]); (first | with_reducible refine (HSw.out _ HB3.out.bel).mono ?_ | with_reducible refine (HSw.out _ HB3.out.drew.bel).mono ?_ | with_reducible refine (HSw.out _ (HB3.out.below (al1 _ _)).bel).mono ?_ | with_reducible refine (HSw.out _ (HB3.out.below (al1 _ _)).drew.bel).mono ?_ | with_reducible refine (HSw.out _ (HB3.out.drew.below (al1 _ _)).bel).mono ?_); rintro e u5 ⟨b1, c1, b2, c2, v, rfl, ho, hl1, hl2, hc1, hc2, hown, hb3⟩; have HM := Lib.hid (MvO.mk ho hl1 hl2 hc1 hc2 hown); (have hbz := hb3.size); clear ho hl1 hl2 hc1 hc2 hown; (try simp at hbz); (first | have HR3 := Lib.hid (HR3.out.below hb3) | have HR3 := Lib.hid (HR3.out.drew.below hb3) | have HR3 := Lib.hid ((HR3.out.below (al1 _ _)).below hb3) | have HR3 := Lib.hid ((HR3.out.below (al1 _ _)).drew.below hb3)); (first | have HQ3 := Lib.hid (HQ3.out.below hb3) | have HQ3 := Lib.hid (HQ3.out.drew.below hb3) | have HQ3 := Lib.hid ((HQ3.out.below (al1 _ _)).below hb3) | have HQ3 := Lib.hid ((HQ3.out.below (al1 _ _)).drew.below hb3)); (first | have HB3 := Lib.hid (HB3.out.below hb3) | have HB3 := Lib.hid (HB3.out.drew.below hb3) | have HB3 := Lib.hid ((HB3.out.below (al1 _ _)).below hb3) | have HB3 := Lib.hid ((HB3.out.below (al1 _ _)).drew.below hb3)); (first | have HZ3 := Lib.hid (HZ3.out.below hb3) | have HZ3 := Lib.hid (HZ3.out.drew.below hb3) | have HZ3 := Lib.hid ((HZ3.out.below (al1 _ _)).below hb3) | have HZ3 := Lib.hid ((HZ3.out.below (al1 _ _)).drew.below hb3)); have nz3 := HR3.out.1; have nq3 := HQ3.out.1; (first | have HY := Lib.hid ((z4_new u4 121).drew.below hb3) | have HY := Lib.hid ((z4_new u4.drew 121).below hb3) | have HY := Lib.hid ((z4_new u4 121).below hb3) | skip); (try obtain ⟨yz, y0, y1, y2, y3, k0, k1, k2, k3⟩ := HY.out); clear hb3))
  all_goals (obtain ⟨zl, z0, z1, z2, z3, q0, q1, q2, q3⟩ := HZ3.out)
  all_goals have hne3 : w.heap.size ≠ u5.heap.size := by omega
  all_goals have hne4 : u5.heap.size ≠ w.heap.size := by omega
  all_goals go_wp2_with fail
  all_goals (refine bodyPost_ret (v := .tuple #[.agg #[.slice (some ⟨b1, 0, none⟩) pn1 c1, .slice (some ⟨b2, 0, none⟩) 2 c2, .int .i64 mm.last, .int .i64 mm.laps], v, .int .i64 0]) (by simp [results, Tryz.results136, go_sem, z0, z1, z2, z3, zl]) rfl ?_)
  ·have HM1 := Lib.hid (show MvO u4.heap.size pn1 mm b1 c1 b2 c2 v u5 from HM.out)
   clear HM HSw HZ3 HT HR3 HQ3
   refine mvO_end (B := u4.heap.size) ?_ hwz ?_
   ·with_reducible exact (HM1.out.set4 hzl _ _ _ _).below (al1 _ _)
   ·with_reducible exact OnW.below (OnW.set4 HB3.out (Nat.le_refl _) _ _ _ _) (al1 _ _)
  ·have HM1 := Lib.hid (show MvO (u4.heap.size + 1) pn1 mm b1 c1 b2 c2 v u5 from by have h := HM.out; simpa using h)
   clear HM HSw HZ3 HT HR3 HQ3
   refine mvO_end (B := u4.heap.size + 1) ?_ (by omega) ?_
   ·with_reducible exact (HM1.out.set4 (Nat.lt_succ_self _) _ _ _ _).set4 (Nat.lt_succ_of_lt hzl) _ _ _ _
   ·with_reducible exact OnW.set4 (OnW.set4 HB3.out hwz _ _ _ _) (Nat.le_refl _) _ _ _ _
/- WatS -/
theorem PosO.set4 {w : World} {B z : Nat} {a1 a2 : Option Addr} {b1 b2 n1 n2 : Nat} {xs ys : List Int} (h : PosO w B a1 a2 b1 b2 n1 n2 xs ys) (x y t q : Value) (k1 : b1 ≠ z) (k2 : b2 ≠ z) : PosO ((((w.setCell ⟨z, 0, none⟩ x).setCell ⟨z, 1, none⟩ y).setCell ⟨z, 2, none⟩ t).setCell ⟨z, 3, none⟩ q) B a1 a2 b1 b2 n1 n2 xs ys :=
 h.but (but4 z w x y t q) k1 k2
structure WAtS (u : World) (lo hi A : Nat) (a1 a2 : Option Addr) (b1 b2 n1 c1 n2 c2 : Nat) (pl pk : Int) (us vs : List Int) : Prop where
 po : SoAt u A a1 a2 n1 c1 n2 c2 pl pk
 o : PosO u lo a1 a2 b1 b2 n1 n2 us vs
 lo_le : lo ≤ A
 lt : A < hi
 lt1 : b1 < hi
 lt2 : b2 < hi
 hi_le : hi ≤ u.heap.size
 ne1 : A ≠ b1
 ne2 : A ≠ b2
section
variable {u v w : World} {lo hi A b1 b2 n1 c1 n2 c2 : Nat} {a1 a2 : Option Addr} {pl pk : Int} {us vs : List Int}
theorem WAtS.below (h : WAtS u lo hi A a1 a2 b1 b2 n1 c1 n2 c2 pl pk us vs) (k : Below u.heap.size u v) : WAtS v lo hi A a1 a2 b1 b2 n1 c1 n2 c2 pl pk us vs :=
 ⟨h.po.below k, h.o.below k, h.lo_le, h.lt, h.lt1, h.lt2, Nat.le_trans h.hi_le k.size, h.ne1, h.ne2⟩
theorem WAtS.drew (h : WAtS u lo hi A a1 a2 b1 b2 n1 c1 n2 c2 pl pk us vs) : WAtS u.drew lo hi A a1 a2 b1 b2 n1 c1 n2 c2 pl pk us vs := h.below (Below.refl _ _).drew
theorem SoAt.but2 {b c d : Nat} {x1 x2 : Option Addr} {xn1 xc1 xn2 xc2 : Nat} {xp xq : Int} (h : SoAt u d x1 x2 xn1 xc1 xn2 xc2 xp xq) (k : But2 b c u v) (hb : d ≠ b) (hc : d ≠ c) : SoAt v d x1 x2 xn1 xc1 xn2 xc2 xp xq := by
 obtain ⟨hd, h⟩ := h
 have e := fun o => k.cell (d := d) (o := o) hd hb hc
 exact ⟨Nat.lt_of_lt_of_le hd k.size, by rw [e, e, e, e]; exact h⟩
theorem WAtS.but2 {b c : Nat} (h : WAtS u lo hi A a1 a2 b1 b2 n1 c1 n2 c2 pl pk us vs) (k : But2 b c u v) (hb : hi ≤ b ∨ b < lo) (hc : hi ≤ c ∨ c < lo) : WAtS v lo hi A a1 a2 b1 b2 n1 c1 n2 c2 pl pk us vs := by
 have h1 := h.lo_le
 have h2 := h.lt
 have h3 := h.lt1
 have h4 := h.lt2
 have h5 := h.o.o1.new
 have h6 := h.o.o2.new
 exact ⟨h.po.but2 k (by omega) (by omega), h.o.but2 k (by omega) (by omega) (by omega) (by omega), h1, h2, h3, h4, Nat.le_trans h.hi_le k.size, h.ne1, h.ne2⟩
theorem WAtS.mark {xs ys : List Int} {us' vs' : List Int} (h : WAtS u lo hi A a1 a2 b1 b2 n1 c1 n2 c2 pl pk us vs) (k : But2 b1 b2 u v) (o : PosO v lo a1 a2 b1 b2 n1 n2 us' vs') : WAtS v lo hi A a1 a2 b1 b2 n1 c1 n2 c2 pl pk us' vs' :=
 ⟨h.po.but2 k h.ne1 h.ne2, o, h.lo_le, h.lt, h.lt1, h.lt2, Nat.le_trans h.hi_le k.size, h.ne1, h.ne2⟩
theorem WAtS.set4 {z : Nat} (h : WAtS u lo hi A a1 a2 b1 b2 n1 c1 n2 c2 pl pk us vs) (x y t q : Value) (hz : hi ≤ z) : WAtS ((((u.setCell ⟨z, 0, none⟩ x).setCell ⟨z, 1, none⟩ y).setCell ⟨z, 2, none⟩ t).setCell ⟨z, 3, none⟩ q) lo hi A a1 a2 b1 b2 n1 c1 n2 c2 pl pk us vs :=
 h.but2 (b := z) (c := z) (.of_l (but4 z u x y t q)) (.inl hz) (.inl hz)
theorem WAt.set4 {z : Nat} (h : WAt u lo hi A a1 a2 b1 b2 n1 c1 n2 c2 pl us vs) (x y t q : Value) (hz : hi ≤ z) : WAt ((((u.setCell ⟨z, 0, none⟩ x).setCell ⟨z, 1, none⟩ y).setCell ⟨z, 2, none⟩ t).setCell ⟨z, 3, none⟩ q) lo hi A a1 a2 b1 b2 n1 c1 n2 c2 pl us vs :=
 h.but2 (b := z) (c := z) (.of_l (but4 z u x y t q)) (.inl hz) (.inl hz)
variable {p s c l : Int} {st sk re fe ag : Bool} {p1 p2 : Option Addr} {pn1 pc1 pn2 pc2 : Nat} {pp : Int}
end
/- Mv7 -/
def inM (p move : Int) : Bool := decide (0 ≤ move) && decide (move < p)
def mvV (k : Bool) (p pp : Int) (st sk re : Bool) (xs ys : List Int) (move : Int) : Option Res :=
 if k && (inM p move && decide (xs.getD (pp * p + move).toNat 0 ≠ 0)) then mvF ⟨p, pp, st, sk, re⟩ 100 xs ys (pp * p + move) 0 [] else none
def mvCd (k : Bool) (p pp : Int) (st sk re : Bool) (xs ys : List Int) (move : Int) : Int :=
 if k then (if inM p move then (if xs.getD (pp * p + move).toNat 0 = 0 then 6 else if (mvF ⟨p, pp, st, sk, re⟩ 100 xs ys (pp * p + move) 0 []).isNone then 10 else 0) else 2) else 1
theorem mv_cases {p s c l : Int} {st sk re ag : Bool} {n1 n2 : Nat} {pp : Int} {xs ys : List Int} {k : Bool} (hk : okP (okR p s c l st ag) p n1 n2 pp xs ys = k) (l1 : xs.length = n1) (move : Int) (M : Int → Option Res → Prop)
  (h1 : k = false → M 1 none) (h2 : k = true → ¬ (0 ≤ move ∧ move < p) → M 2 none)
  (h6 : k = true → 0 ≤ move → move < p → ∀ F : Nat, F < n1 → pp * p + move = F → xs.getD F 0 = 0 → M 6 none)
  (hy : k = true → 0 ≤ move → move < p → ∀ F : Nat, F < n1 → pp * p + move = F → xs.getD F 0 ≠ 0 → ∀ MV, mvF ⟨p, pp, st, sk, re⟩ 100 xs ys F 0 [] = MV → M (if MV.isNone then 10 else 0) MV) :
  M (mvCd k p pp st sk re xs ys move) (mvV k p pp st sk re xs ys move) := by
 unfold mvCd mvV
 cases k
 ·simpa using h1 rfl
 ·by_cases hm : 0 ≤ move ∧ move < p
  ·have e1 : inM p move = true := by unfold inM; simp [hm.1, hm.2]
   obtain ⟨q1, q2, q3, q4, -⟩ := okP_parts hk
   obtain ⟨r1, r2, -⟩ := okR_bd q1
   have hmul : 0 ≤ pp * p ∧ pp * p ≤ p := by
    rcases (by omega : pp = 0 ∨ pp = 1) with e | e <;> subst e <;> omega
   obtain ⟨F, hF⟩ : ∃ F : Nat, pp * p + move = F := ⟨(pp * p + move).toNat, by omega⟩
   have hF1 : F < n1 := by omega
   rw [hF, e1]
   simp only [Bool.true_and, Int.toNat_natCast, if_true]
   by_cases he : xs.getD F 0 = 0
   ·rw [if_pos he, if_neg (by simpa using he)]
    exact h6 rfl hm.1 hm.2 F hF1 hF he
   ·have hd : decide (xs.getD F 0 ≠ 0) = true := decide_eq_true he
    rw [if_neg he, hd]
    exact hy rfl hm.1 hm.2 F hF1 hF he _ rfl
  ·have e1 : inM p move = false := by
    unfold inM
    by_cases h : 0 ≤ move
    ·simp; omega
    ·simp [h]
   rw [e1]
   simpa using h2 rfl hm
theorem pl_of_ok {p s c l : Int} {st ag : Bool} {n1 n2 : Nat} {pp : Int} {xs ys : List Int} (hk : okP (okR p s c l st ag) p n1 n2 pp xs ys = true) : n2 = 2 ∧ (pp = 0 ∨ pp = 1) := by
 obtain ⟨q1, q2, q3, q4, -⟩ := okP_parts hk
 exact ⟨q3, by omega⟩
theorem l05Move_any (p s c l : Int) (st sk re fe ag : Bool) (p1 p2 : Option Addr) (pn1 pc1 pn2 pc2 : Nat) (pp : Int) (xs ys : List Int) (rb pb : Nat) (move : Int) (w : World) (hr : RuAt w rb p s c l st sk re fe ag) (hq : PoAt w pb p1 p2 pn1 pc1 pn2 pc2 pp) (h : PosR w p1 p2 pn1 pn2 xs ys) (k : Bool) (hk : okP (okR p s c l st ag) p pn1 pn2 pp xs ys = k) :
  Calls Tryz.prog 136 #[.pointer (some ⟨rb, 0, none⟩), .pointer (some ⟨pb, 0, none⟩), .int .i64 move] w (SwC pn1 (mvCd k p pp st sk re xs ys move) (mvV k p pp st sk re xs ys move) w) := by
 refine mv_cases (sk := sk) (re := re) hk h.l1 move (fun cd MV => Calls Tryz.prog 136 #[.pointer (some ⟨rb, 0, none⟩), .pointer (some ⟨pb, 0, none⟩), .int .i64 move] w (SwC pn1 cd MV w)) ?_ ?_ ?_ ?_
 ·intro e
  exact l05Move_err rb pb move 1 rfl w (fun u hu => code_invalid p s c l st sk re fe ag _ _ _ _ _ _ _ xs ys rb pb move u (hr.below hu) (hq.below hu) (h.below hu) (hk.trans e))
 ·intro e hm
  exact l05Move_err rb pb move 2 rfl w (fun u hu => code_range p s c l st sk re fe ag _ _ _ _ _ _ _ xs ys rb pb move u (hr.below hu) (hq.below hu) (h.below hu) (hk.trans e) hm)
 ·intro e m0 m1 F hF hf he
  exact l05Move_err rb pb move 6 rfl w (fun u hu => code_empty p s c l st sk re fe ag _ _ _ _ _ _ _ xs ys rb pb move u (hr.below hu) (hq.below hu) (h.below hu) (hk.trans e) F hF hf m0 m1 he)
 ·intro e m0 m1 F hF hf he MV hMV
  have hk1 := hk.trans e
  obtain ⟨rfl, hpl⟩ := pl_of_ok hk1
  have hC : Calls Tryz.prog 136 #[.pointer (some ⟨rb, 0, none⟩), .pointer (some ⟨pb, 0, none⟩), .int .i64 move] w (SwC pn1 10 MV w) := by
   rcases hpl with rfl | rfl
   ·exact l05Move_yes0 p s c l st sk re fe ag p1 p2 pn1 pc1 pc2 xs ys F rb pb move w hr hq h hk1 hF hf m0 m1 he MV hMV
   ·exact l05Move_yes1 p s c l st sk re fe ag p1 p2 pn1 pc1 pc2 xs ys F rb pb move w hr hq h hk1 hF hf m0 m1 he MV hMV
  cases MV
  ·exact hC
  ·exact hC
def SoV (n1 : Nat) (cd : Int) (MV : Option Res) (w : World) (e : Ending) (w' : World) : Prop :=
 match MV with
 | none => SoZ 0 0 0 0 cd [] [] w e w'
 | some m => SoZ n1 2 m.last m.laps 0 m.xs m.ys w e w'
theorem implMove_any (p s c l : Int) (st sk re fe ag : Bool) (p1 p2 : Option Addr) (pn1 pc1 pn2 pc2 : Nat) (pp : Int) (xs ys : List Int) (move : Int) (w : World) (h : PosR w p1 p2 pn1 pn2 xs ys) (k : Bool) (hk : okP (okR p s c l st ag) p pn1 pn2 pp xs ys = k) :
  Calls Tryz.prog 140 #[.agg #[.int .i64 p, .int .i64 s, .bool st, .bool sk, .bool re, .bool fe, .bool ag, .int .i64 c, .int .i64 l], .agg #[.slice p1 pn1 pc1, .slice p2 pn2 pc2, .int .i64 pp], .int .i64 move] w (SoV pn1 (mvCd k p pp st sk re xs ys move) (mvV k p pp st sk re xs ys move) w) := by
 refine mv_cases (sk := sk) (re := re) hk h.l1 move (fun cd MV => Calls Tryz.prog 140 #[.agg #[.int .i64 p, .int .i64 s, .bool st, .bool sk, .bool re, .bool fe, .bool ag, .int .i64 c, .int .i64 l], .agg #[.slice p1 pn1 pc1, .slice p2 pn2 pc2, .int .i64 pp], .int .i64 move] w (SoV pn1 cd MV w)) ?_ ?_ ?_ ?_
 ·intro e
  exact implMove_err p s c l st sk re fe ag p1 p2 pn1 pc1 pn2 pc2 pp move 1 rfl w (fun u hu => begin_invalid p s c l st sk re fe ag _ _ _ _ _ _ _ xs ys move u (h.below hu) (hk.trans e))
 ·intro e hm
  exact implMove_err p s c l st sk re fe ag p1 p2 pn1 pc1 pn2 pc2 pp move 2 rfl w (fun u hu => begin_range p s c l st sk re fe ag _ _ _ _ _ _ _ xs ys move u (h.below hu) (hk.trans e) hm)
 ·intro e m0 m1 F hF hf he
  exact implMove_err p s c l st sk re fe ag p1 p2 pn1 pc1 pn2 pc2 pp move 6 rfl w (fun u hu => begin_empty p s c l st sk re fe ag _ _ _ _ _ _ _ xs ys move u (h.below hu) (hk.trans e) F hF hf m0 m1 he)
 ·intro e m0 m1 F hF hf he MV hMV
  have hk1 := hk.trans e
  obtain ⟨rfl, hpl⟩ := pl_of_ok hk1
  have hC : Calls Tryz.prog 140 #[.agg #[.int .i64 p, .int .i64 s, .bool st, .bool sk, .bool re, .bool fe, .bool ag, .int .i64 c, .int .i64 l], .agg #[.slice p1 pn1 pc1, .slice p2 2 pc2, .int .i64 pp], .int .i64 move] w (MvQ pn1 MV w) := by
   rcases hpl with rfl | rfl
   ·exact implMove0 p s c l st sk re fe ag p1 p2 pn1 pc1 2 pc2 xs ys move w h hk1 F hF hf m0 m1 he MV hMV
   ·exact implMove1 p s c l st sk re fe ag p1 p2 pn1 pc1 2 pc2 xs ys move w h hk1 F hF hf m0 m1 he MV hMV
  cases MV
  ·exact hC
  ·exact hC
/- Tk6 -/
theorem fin_of {p s c l pp : Int} {st sk re ag : Bool} {n1 n2 : Nat} {xs ys : List Int} {F : Nat} (hk : okP (okR p s c l st ag) p n1 n2 pp xs ys = true) (l1 : xs.length = n1) (l2 : ys.length = n2) (hF : F < n1) (he : xs.getD F 0 ≠ 0) {m : Res} (h : mvF ⟨p, pp, st, sk, re⟩ 100 xs ys F 0 [] = some m) :
  Fin ⟨p, pp, st, sk, re⟩ (tot xs + tot ys) ys m := by
 obtain ⟨q1, -, -, q4, -⟩ := okP_parts hk
 obtain ⟨r1, r2, -⟩ := okR_bd q1
 exact mvF_fin ⟨r1, r2, by show pp = 0 ∨ pp = 1; omega⟩ (lap_of_ok hk l1 l2 hF he) (way_start _ _) (by omega) h
theorem mvV_fin {p s c l pp : Int} {st sk re ag : Bool} {n1 n2 : Nat} {xs ys : List Int} {k : Bool} (hk : okP (okR p s c l st ag) p n1 n2 pp xs ys = k) (l1 : xs.length = n1) (l2 : ys.length = n2) {move : Int} {m : Res} (h : mvV k p pp st sk re xs ys move = some m) :
  k = true ∧ 0 ≤ move ∧ move < p ∧ mvCd k p pp st sk re xs ys move = 0 ∧ Fin ⟨p, pp, st, sk, re⟩ (tot xs + tot ys) ys m := by
 refine mv_cases (sk := sk) (re := re) hk l1 move (fun cd MV => MV = some m → k = true ∧ 0 ≤ move ∧ move < p ∧ cd = 0 ∧ Fin ⟨p, pp, st, sk, re⟩ (tot xs + tot ys) ys m) ?_ ?_ ?_ ?_ h
 ·intro _ e; cases e
 ·intro _ _ e; cases e
 ·intro _ _ _ _ _ _ _ e; cases e
 ·rintro e m0 m1 F hF hf he MV hMV rfl
  exact ⟨e, m0, m1, rfl, fin_of (hk.trans e) l1 l2 hF he hMV⟩
theorem mvV_none {p s c l pp : Int} {st sk re ag : Bool} {n1 n2 : Nat} {xs ys : List Int} {k : Bool} (hk : okP (okR p s c l st ag) p n1 n2 pp xs ys = k) (l1 : xs.length = n1) {move : Int} (h : mvV k p pp st sk re xs ys move = none) :
  mvCd k p pp st sk re xs ys move = 1 ∨ mvCd k p pp st sk re xs ys move = 2 ∨ mvCd k p pp st sk re xs ys move = 6 ∨ mvCd k p pp st sk re xs ys move = 10 := by
 refine mv_cases (sk := sk) (re := re) hk l1 move (fun cd MV => MV = none → cd = 1 ∨ cd = 2 ∨ cd = 6 ∨ cd = 10) ?_ ?_ ?_ ?_ h
 ·intros; omega
 ·intros; omega
 ·intros; omega
 ·rintro e m0 m1 F hF hf he MV hMV rfl
  exact .inr (.inr (.inr rfl))
theorem good_fin (p s c l : Int) (st sk re fe ag : Bool) {pp t : Int} {n1 : Nat} {y0 : List Int} {m : Res} {xs ys : List Int} {n2 : Nat} (hk : okP (okR p s c l st ag) p n1 n2 pp xs ys = true) (f : Fin ⟨p, pp, st, sk, re⟩ (tot xs + tot ys) y0 m) : Good p s c l st sk re fe ag pp n1 2 m.last m.xs m.ys ∧ m.xs.length = n1 ∧ m.ys.length = 2 := by
 obtain ⟨k1, k2, k3, k4, k5⟩ := okP_parts hk
 obtain ⟨m1, m2, -, -, m5, m6, -⟩ := okR_bd k1
 obtain ⟨s1, s2, s3⟩ := seedB_parts k5
 have ht := f.brd.tot
 have hx : (m.xs.length : Int) = 2 * p := f.brd.lx
 exact ⟨⟨k1, ⟨m1, m2⟩, ⟨m5, m6⟩, k2, rfl, by omega, f.brd.px, f.brd.py, by omega, f.lo, f.hi⟩, by omega, f.brd.ly⟩
def fbS (c l p pp : Int) (m : Res) : Bool := decide (l = 1) && slamF c p pp m.last m.xs
def fbF (c l p pp : Int) (fe : Bool) (xs : List Int) (m : Res) : Bool := (fe && noneO p pp xs) && noneO p pp (tkX c l p pp m.last m.xs)
def illB (c l p pp : Int) (fe : Bool) (xs : List Int) (m : Res) : Bool := fbS c l p pp m || fbF c l p pp fe xs m
def lgV (c l p pp : Int) (fe : Bool) (xs : List Int) (MV : Option Res) : Option Res :=
 match MV with
 | none => none
 | some m => if illB c l p pp fe xs m then none else some m
def lgC (c l p pp : Int) (fe : Bool) (xs : List Int) (cd : Int) (MV : Option Res) : Int :=
 match MV with
 | none => cd
 | some m => if illB c l p pp fe xs m then 9 else 0
def agV (ag : Bool) (m : Res) : Bool := ag && decide (m.last = -1)
def gnV (c l p pp : Int) (ys : List Int) (m : Res) : Int := (tkY c l p pp m.last m.xs m.ys).getD pp.toNat 0 - ys.getD pp.toNat 0
def nxV (ag : Bool) (pp : Int) (m : Res) : Int := if agV ag m then pp else 1 - pp
/- Rm7 -/
theorem quiet_sR {P : Program} {f : FuncId} {args : Array Value} {W w : World} {v : Value} (h : Calls P f args W (Still v W)) (hw : ∃ m, W = w.drewN m) :
  Calls P f args W fun e w'' => e = .returned v ∧ ∃ m, w'' = w.drewN m := h.mono fun _ _ ⟨he, m, hm⟩ => ⟨he, by
   obtain ⟨k, hk⟩ := hw
   exact ⟨k + m, by rw [hm, hk, World.drewN_drewN]⟩⟩
structure Z6 (u : World) (z : Nat) : Prop where
 lt : z < u.heap.size
 c0 : u.cell? ⟨z, 0, none⟩ = some (.int .i64 0)
 c1 : u.cell? ⟨z, 1, none⟩ = some (.int .i64 0)
 c2 : u.cell? ⟨z, 2, none⟩ = some (.bool false)
 c3 : u.cell? ⟨z, 3, none⟩ = some (.slice none 0 0)
 c4 : u.cell? ⟨z, 4, none⟩ = some (.slice none 0 0)
 c5 : u.cell? ⟨z, 5, none⟩ = some (.int .i64 0)
 fr : ∀ o, u.frozen? ⟨z, o, none⟩ = false
theorem Z6.below {u v : World} {z : Nat} (h : Z6 u z) (k : Below u.heap.size u v) : Z6 v z := by
 have e := fun o => k.cell (p := ⟨z, o, none⟩) h.lt
 exact ⟨Nat.lt_of_lt_of_le h.lt k.size, (e _).trans h.c0, (e _).trans h.c1, (e _).trans h.c2, (e _).trans h.c3, (e _).trans h.c4, (e _).trans h.c5, fun o => (k.frozen (p := ⟨z, o, none⟩) h.lt).trans (h.fr o)⟩
theorem z6_new (w : World) (T : TypeId) : Z6 (w.alloc (.cells #[.int .i64 0, .int .i64 0, .bool false, .slice none 0 0, .slice none 0 0, .int .i64 0] T)) w.heap.size :=
 ⟨by simp, by go_simp, by go_simp, by go_simp, by go_simp, by go_simp, by go_simp, fun o => by go_simp⟩
theorem below6 {B z : Nat} {w u : World} (h : Below B w u) (hz : B ≤ z) (x0 x1 x2 x3 x4 x5 : Value) : Below B w ((((((u.setCell ⟨z, 0, none⟩ x0).setCell ⟨z, 1, none⟩ x1).setCell ⟨z, 2, none⟩ x2).setCell ⟨z, 3, none⟩ x3).setCell ⟨z, 4, none⟩ x4).setCell ⟨z, 5, none⟩ x5) :=
 ((((((h.setCell (p := ⟨z, 0, none⟩) hz x0).setCell (p := ⟨z, 1, none⟩) hz x1).setCell (p := ⟨z, 2, none⟩) hz x2).setCell (p := ⟨z, 3, none⟩) hz x3).setCell (p := ⟨z, 4, none⟩) hz x4).setCell (p := ⟨z, 5, none⟩) hz x5)
def MrE (cd : Int) (w : World) (e : Ending) (w' : World) : Prop := e = .returned (.tuple #[.agg #[.int .i64 0, .int .i64 0, .bool false, .slice none 0 0, .slice none 0 0, .int .i64 0], .int .i64 cd]) ∧ Below w.heap.size w w'
def LkAt (w : World) (rb pb s0 : Nat) (p s c l : Int) (st sk re fe ag : Bool) (p1 p2 : Option Addr) (pn1 pc1 pn2 pc2 : Nat) (pp : Int) (s1 s2 : Option Addr) (sn1 sc1 sn2 sc2 : Nat) (sp sq : Int) (u : World) : Prop := RuAt u rb p s c l st sk re fe ag ∧ PoAt u pb p1 p2 pn1 pc1 pn2 pc2 pp ∧ SoAt u s0 s1 s2 sn1 sc1 sn2 sc2 sp sq ∧ OnW w u
section
variable {w u v : World} {rb pb s0 : Nat} {p s c l : Int} {st sk re fe ag : Bool} {p1 p2 : Option Addr} {pn1 pc1 pn2 pc2 : Nat} {pp : Int} {s1 s2 : Option Addr} {sn1 sc1 sn2 sc2 : Nat} {sp sq : Int}
theorem LkAt.below (h : LkAt w rb pb s0 p s c l st sk re fe ag p1 p2 pn1 pc1 pn2 pc2 pp s1 s2 sn1 sc1 sn2 sc2 sp sq u) (k : Below u.heap.size u v) : LkAt w rb pb s0 p s c l st sk re fe ag p1 p2 pn1 pc1 pn2 pc2 pp s1 s2 sn1 sc1 sn2 sc2 sp sq v :=
 ⟨h.1.below k, h.2.1.below k, h.2.2.1.below k, Below.trans h.2.2.2 (Below.mono k (Below.size h.2.2.2))⟩
theorem LkAt.be (h : LkAt w rb pb s0 p s c l st sk re fe ag p1 p2 pn1 pc1 pn2 pc2 pp s1 s2 sn1 sc1 sn2 sc2 sp sq u) : OnW w u := h.2.2.2
end
structure Ot6 (u : World) (z : Nat) (mv gn : Int) (b : Bool) (v3 v4 v5 : Value) : Prop where
 lt : z < u.heap.size
 c0 : u.cell? ⟨z, 0, none⟩ = some (.int .i64 mv)
 c1 : u.cell? ⟨z, 1, none⟩ = some (.int .i64 gn)
 c2 : u.cell? ⟨z, 2, none⟩ = some (.bool b)
 c3 : u.cell? ⟨z, 3, none⟩ = some v3
 c4 : u.cell? ⟨z, 4, none⟩ = some v4
 c5 : u.cell? ⟨z, 5, none⟩ = some v5
 fr : ∀ o, u.frozen? ⟨z, o, none⟩ = false
theorem but3o (z : Nat) (u : World) (x y t : Value) : But z u (((u.setCell ⟨z, 3, none⟩ x).setCell ⟨z, 4, none⟩ y).setCell ⟨z, 5, none⟩ t) :=
 (((But.refl z u).setCell (p := ⟨z, 3, none⟩) rfl x).setCell (p := ⟨z, 4, none⟩) rfl y).setCell (p := ⟨z, 5, none⟩) rfl t
theorem but6 (z : Nat) (u : World) (x0 x1 x2 x3 x4 x5 : Value) : But z u ((((((u.setCell ⟨z, 0, none⟩ x0).setCell ⟨z, 1, none⟩ x1).setCell ⟨z, 2, none⟩ x2).setCell ⟨z, 3, none⟩ x3).setCell ⟨z, 4, none⟩ x4).setCell ⟨z, 5, none⟩ x5) :=
 ((((((But.refl z u).setCell (p := ⟨z, 0, none⟩) rfl x0).setCell (p := ⟨z, 1, none⟩) rfl x1).setCell (p := ⟨z, 2, none⟩) rfl x2).setCell (p := ⟨z, 3, none⟩) rfl x3).setCell (p := ⟨z, 4, none⟩) rfl x4).setCell (p := ⟨z, 5, none⟩) rfl x5
theorem Z6.but {u v : World} {z b : Nat} (h : Z6 u z) (k : But b u v) (hb : z ≠ b) : Z6 v z := by
 have e := fun o => k.cell (o := o) h.lt hb
 exact ⟨Nat.lt_of_lt_of_le h.lt k.size, (e _).trans h.c0, (e _).trans h.c1, (e _).trans h.c2, (e _).trans h.c3, (e _).trans h.c4, (e _).trans h.c5, fun o => (k.frozen h.lt hb).trans (h.fr o)⟩
theorem ot6_next {u : World} {z : Nat} {mv gn : Int} {b : Bool} {v3 v4 v5 : Value} (h : Ot6 u z mv gn b v3 v4 v5) (x y t : Value) : Ot6 (((u.setCell ⟨z, 3, none⟩ x).setCell ⟨z, 4, none⟩ y).setCell ⟨z, 5, none⟩ t) z mv gn b x y t := by
 obtain ⟨zl, z0, z1, z2, z3, z4, z5, zf⟩ := h
 have f3 := zf 3
 have f4 := zf 4
 have f5 := zf 5
 exact ⟨by simpa using zl, by go_simp, by go_simp, by go_simp, by go_simp, by go_simp, by go_simp, fun o => by have := zf o; go_simp⟩
theorem Ot6.drew {u : World} {z : Nat} {mv gn : Int} {b : Bool} {v3 v4 v5 : Value} (h : Ot6 u z mv gn b v3 v4 v5) : Ot6 u.drew z mv gn b v3 v4 v5 := ⟨h.lt, h.c0, h.c1, h.c2, h.c3, h.c4, h.c5, h.fr⟩
theorem ot6_new (w : World) (T : TypeId) (mv gn : Int) (b : Bool) (v3 v4 v5 : Value) : Ot6 (w.alloc (.cells #[.int .i64 mv, .int .i64 gn, .bool b, v3, v4, v5] T)) w.heap.size mv gn b v3 v4 v5 :=
 ⟨by simp, by go_simp, by go_simp, by go_simp, by go_simp, by go_simp, by go_simp, fun o => by go_simp⟩
def Kp6 (w : World) (rb pb t0 : Nat) (p s c l : Int) (st sk re fe ag : Bool) (p1 p2 : Option Addr) (pn1 pc1 pn2 pc2 : Nat) (pp : Int) (t1 t2 : Option Addr) (tn1 tc1 tn2 tc2 : Nat) (tp tq : Int) (xs ys us vs : List Int) (g1 g2 : Nat) (u : World) : Prop :=
 LkAt w rb pb t0 p s c l st sk re fe ag p1 p2 pn1 pc1 pn2 pc2 pp t1 t2 tn1 tc1 tn2 tc2 tp tq u ∧ Z6 u w.heap.size ∧ PosR u p1 p2 pn1 pn2 xs ys ∧ PosO u (w.heap.size + 1) t1 t2 g1 g2 tn1 tn2 us vs ∧ w.heap.size < t0
section
variable {w u v : World} {rb pb t0 : Nat} {p s c l : Int} {st sk re fe ag : Bool} {p1 p2 : Option Addr} {pn1 pc1 pn2 pc2 : Nat} {pp : Int} {t1 t2 : Option Addr} {tn1 tc1 tn2 tc2 : Nat} {tp tq : Int} {xs ys us vs : List Int} {g1 g2 : Nat}
theorem Kp6.below (h : Kp6 w rb pb t0 p s c l st sk re fe ag p1 p2 pn1 pc1 pn2 pc2 pp t1 t2 tn1 tc1 tn2 tc2 tp tq xs ys us vs g1 g2 u) (k : Below u.heap.size u v) : Kp6 w rb pb t0 p s c l st sk re fe ag p1 p2 pn1 pc1 pn2 pc2 pp t1 t2 tn1 tc1 tn2 tc2 tp tq xs ys us vs g1 g2 v :=
 ⟨h.1.below k, h.2.1.below k, h.2.2.1.below k, h.2.2.2.1.below k, h.2.2.2.2⟩
theorem Kp6.drew (h : Kp6 w rb pb t0 p s c l st sk re fe ag p1 p2 pn1 pc1 pn2 pc2 pp t1 t2 tn1 tc1 tn2 tc2 tp tq xs ys us vs g1 g2 u) : Kp6 w rb pb t0 p s c l st sk re fe ag p1 p2 pn1 pc1 pn2 pc2 pp t1 t2 tn1 tc1 tn2 tc2 tp tq xs ys us vs g1 g2 u.drew := h.below (Below.refl _ _).drew
end
def MrL (c l p pp : Int) (ag : Bool) (pn1 : Nat) (xs ys : List Int) (move : Int) (m : Res) (b : Bool) (w : World) (e : Ending) (w' : World) : Prop :=
 if b = true then MrE 9 w e w' else
 ∃ g1 k1 g2 k2, e = .returned (.tuple #[.agg #[.int .i64 move, .int .i64 (gnV c l p pp ys m), .bool (agV ag m), .slice (some ⟨g1, 0, none⟩) pn1 k1, .slice (some ⟨g2, 0, none⟩) 2 k2, .int .i64 (nxV ag pp m)], .int .i64 0]) ∧
  PosO w' w.heap.size (some ⟨g1, 0, none⟩) (some ⟨g2, 0, none⟩) g1 g2 pn1 2 (tkX c l p pp m.last m.xs) (tkY c l p pp m.last m.xs m.ys) ∧ g1 < w'.heap.size ∧ g2 < w'.heap.size ∧ pn1 ≤ k1 ∧ 2 ≤ k2 ∧ Below w.heap.size w w'
theorem mrL_leg {c l p pp : Int} {ag : Bool} {pn1 : Nat} {xs ys : List Int} {move : Int} {m : Res} {w u : World} {g1 k1 g2 k2 : Nat} {gn nx : Int} {b : Bool} (hg : gnV c l p pp ys m = gn) (hb : agV ag m = b) (hn : nxV ag pp m = nx)
  (ho : PosO u w.heap.size (some ⟨g1, 0, none⟩) (some ⟨g2, 0, none⟩) g1 g2 pn1 2 (tkX c l p pp m.last m.xs) (tkY c l p pp m.last m.xs m.ys)) (h1 : g1 < u.heap.size) (h2 : g2 < u.heap.size) (h3 : pn1 ≤ k1) (h4 : 2 ≤ k2) (h : OnW w u) :
  MrL c l p pp ag pn1 xs ys move m false w (.returned (.tuple #[.agg #[.int .i64 move, .int .i64 gn, .bool b, .slice (some ⟨g1, 0, none⟩) pn1 k1, .slice (some ⟨g2, 0, none⟩) 2 k2, .int .i64 nx], .int .i64 0])) u := by
 unfold MrL
 rw [if_neg Bool.false_ne_true, hg, hb, hn]
 exact ⟨g1, k1, g2, k2, rfl, ho, h1, h2, h3, h4, h⟩
theorem mrL_ill {c l p pp : Int} {ag : Bool} {pn1 : Nat} {xs ys : List Int} {move : Int} {m : Res} {w u : World} (h : OnW w u) : MrL c l p pp ag pn1 xs ys move m true w (.returned (.tuple #[.agg #[.int .i64 0, .int .i64 0, .bool false, .slice none 0 0, .slice none 0 0, .int .i64 0], .int .i64 9])) u := by
 unfold MrL
 rw [if_pos rfl]
 exact ⟨rfl, h⟩
theorem l07Make_err (p s c l : Int) (st sk re fe ag : Bool) (rb pb n1 : Nat) (move cd : Int) (hcd : (cd == 0) = false) (w : World) (hC : ∀ u, Below w.heap.size w u → Calls Tryz.prog 136 #[.pointer (some ⟨rb, 0, none⟩), .pointer (some ⟨pb, 0, none⟩), .int .i64 move] u (SwC n1 cd none u)) :
  Calls Tryz.prog 108 #[.pointer (some ⟨rb, 0, none⟩), .pointer (some ⟨pb, 0, none⟩), .int .i64 move] w (MrE cd w) := by
 have HC := Lib.hid hC
 have HB := Lib.hid (al1 w (.cells #[.int .i64 0, .int .i64 0, .bool false, .slice none 0 0, .slice none 0 0, .int .i64 0] 117))
 have HZ := Lib.hid (z6_new w 117)
 have hcd2 : (cd != 0) = true := by simpa [bne] using hcd
 clear hC
 go_enter Tryz.func108, Tryz.ntmps108
 go_wp2_with fail
 refine (HC.out _ HB.out).mono ?_
 generalize w.alloc (.cells #[.int .i64 0, .int .i64 0, .bool false, .slice none 0 0, .slice none 0 0, .int .i64 0] 117) = u at *
 rintro e u2 ⟨rfl, hb⟩
 have HB2 := Lib.hid (show OnW w u2 from Below.trans HB.out (Below.mono hb HB.out.size))
 have HZ2 := Lib.hid (HZ.out.below hb)
 obtain ⟨zl, z0, z1, z2, z3, z4, z5, zf⟩ := HZ2.out
 have f0 := zf 0
 have f1 := zf 1
 have f2 := zf 2
 have f3 := zf 3
 have f4 := zf 4
 have f5 := zf 5
 have hne : u2.heap.size ≠ w.heap.size := by omega
 have hne' : w.heap.size ≠ u2.heap.size := by omega
 clear hb zf
 go_wp2_with fail
 refine bodyPost_ret (v := .tuple #[.agg #[.int .i64 0, .int .i64 0, .bool false, .slice none 0 0, .slice none 0 0, .int .i64 0], .int .i64 cd]) (by simp [results, Tryz.results108, go_sem, z0, z1, z2, z3, z4, z5, zl]) rfl ⟨rfl, ?_⟩
 exact OnW.below (show OnW w _ from below6 HB2.out (Nat.le_refl _) _ _ _ _ _ _) (al1 _ _)
theorem l07Make_some (p s c l : Int) (st sk re fe ag : Bool) (p1 p2 : Option Addr) (pn1 pc1 pc2 : Nat) (pp move : Int) (xs ys : List Int) (rb pb : Nat) (m : Res) (w : World) (hr : RuAt w rb p s c l st sk re fe ag) (hq : PoAt w pb p1 p2 pn1 pc1 2 pc2 pp) (h : PosR w p1 p2 pn1 2 xs ys) (hk : okP (okR p s c l st ag) p pn1 2 pp xs ys = true) (fin : Fin ⟨p, pp, st, sk, re⟩ (tot xs + tot ys) ys m)
  (hC : ∀ u, Below w.heap.size w u → Calls Tryz.prog 136 #[.pointer (some ⟨rb, 0, none⟩), .pointer (some ⟨pb, 0, none⟩), .int .i64 move] u (SwC pn1 0 (some m) u)) :
  Calls Tryz.prog 108 #[.pointer (some ⟨rb, 0, none⟩), .pointer (some ⟨pb, 0, none⟩), .int .i64 move] w (MrL c l p pp ag pn1 xs ys move m (illB c l p pp fe xs m) w) := by
 have HC := Lib.hid hC
 have H0 := Lib.hid h
 have Hk := Lib.hid hk
 have HG := Lib.hid (good_fin (t := 0) p s c l st sk re fe ag hk fin)
 have HB := Lib.hid (al1 w (.cells #[.int .i64 0, .int .i64 0, .bool false, .slice none 0 0, .slice none 0 0, .int .i64 0] 117))
 have HZ := Lib.hid (z6_new w 117)
 have HR := Lib.hid hr
 have HQ := Lib.hid hq
 clear hC h hk fin hr hq
 go_enter Tryz.func108, Tryz.ntmps108
 go_wp2_with fail
 refine (HC.out _ HB.out).mono ?_
 generalize w.alloc (.cells #[.int .i64 0, .int .i64 0, .bool false, .slice none 0 0, .slice none 0 0, .int .i64 0] 117) = u at *
 rintro e u2 ⟨e1, c1, e2, c2, v, rfl, ho, hl1, hl2, hc1, hc2, hown, hb⟩
 have HB2 := Lib.hid (show OnW w u2 from Below.trans HB.out (Below.mono hb HB.out.size))
 have HZ2 := Lib.hid (HZ.out.below hb)
 have HL := Lib.hid (show LkAt w rb pb u2.heap.size p s c l st sk re fe ag p1 p2 pn1 pc1 2 pc2 pp (some ⟨e1, 0, none⟩) (some ⟨e2, 0, none⟩) pn1 c1 2 c2 m.last m.laps (u2.alloc (.cells #[.slice (some ⟨e1, 0, none⟩) pn1 c1, .slice (some ⟨e2, 0, none⟩) 2 c2, .int .i64 m.last, .int .i64 m.laps] 121)) from ⟨(HR.out.below HB2.out).below (al1 _ _), (HQ.out.below HB2.out).below (al1 _ _), so_new _ _ _ _ _ _ _ _ u2 121, OnW.below HB2.out (al1 _ _)⟩)
 have HZ2 := Lib.hid (HZ2.out.below (al1 u2 (.cells #[.slice (some ⟨e1, 0, none⟩) pn1 c1, .slice (some ⟨e2, 0, none⟩) 2 c2, .int .i64 m.last, .int .i64 m.laps] 121)))
 have HSr := Lib.hid (ho.r.alloc (.cells #[.slice (some ⟨e1, 0, none⟩) pn1 c1, .slice (some ⟨e2, 0, none⟩) 2 c2, .int .i64 m.last, .int .i64 m.laps] 121))
 have hs0w : w.heap.size < u2.heap.size := Nat.lt_of_lt_of_le HZ.out.lt hb.size
 clear hb hown ho hl1 hl2
 go_upto_region 4 with fail
 generalize hU3 : u2.alloc (.cells #[.slice (some ⟨e1, 0, none⟩) pn1 c1, .slice (some ⟨e2, 0, none⟩) 2 c2, .int .i64 m.last, .int .i64 m.laps] 121) = u3 at *
 generalize hS0 : u2.heap.size = s0 at *
 clear hU3 hS0
 go_cut [37] (fun s37 wx => s37 = .bool (fbS c l p pp m) ∧ LkAt w rb pb s0 p s c l st sk re fe ag p1 p2 pn1 pc1 2 pc2 pp (some ⟨e1, 0, none⟩) (some ⟨e2, 0, none⟩) pn1 c1 2 c2 m.last m.laps wx ∧ Z6 wx w.heap.size ∧ PosR wx (some ⟨e1, 0, none⟩) (some ⟨e2, 0, none⟩) pn1 2 m.xs m.ys)
 case first =>
  obtain ⟨_, g0, g1, g2, g3, g4, g5, g6, g7, g8⟩ := HL.out.1
  obtain ⟨_, t0, t1, t2⟩ := HL.out.2.1
  by_cases hl : l = 1
  ·subst hl
   have e0 : fbS c 1 p pp m = slamF c p pp m.last m.xs := by unfold fbS; simp
   have E0 := Lib.hid e0
   clear e0
   go_wp2_with fail
   refine (l06Slam_any p s c 1 st sk re fe ag pp (some ⟨e1, 0, none⟩) (some ⟨e2, 0, none⟩) pn1 c1 2 c2 m.last m.laps m.xs m.ys rb _ _ HL.out.1 HL.out.2.2.1 HSr.out HG.out.1).mono ?_
   rintro e w5 ⟨rfl, hb5⟩
   have HL := Lib.hid (HL.out.below hb5)
   have HZ2 := Lib.hid (HZ2.out.below hb5)
   have HSr := Lib.hid (HSr.out.below hb5)
   clear hb5 g0 g1 g2 g3 g4 g5 g6 g7 g8 t0 t1 t2
   go_wp2_with fail
   go_meet
   exact ⟨by rw [E0.out], HL.out, HZ2.out, HSr.out⟩
  ·have d : (l == 1) = false := by simpa using hl
   have e0 : fbS c l p pp m = false := by unfold fbS; simp [hl]
   have E0 := Lib.hid e0
   clear e0 hl
   go_wp2_with fail
   go_meet
   exact ⟨by rw [E0.out], HL.out, HZ2.out, HSr.out⟩
 case rest =>
  obtain ⟨rfl, hL, hZ, hS⟩ := hcut
  have HL := Lib.hid hL
  have HZ2 := Lib.hid hZ
  have HSr := Lib.hid hS
  clear hL hZ hS
  rcases hfb : fbS c l p pp m with _ | _
  ·have HIl : Hid (illB c l p pp fe xs m = fbF c l p pp fe xs m) := Lib.hid (by unfold illB; rw [hfb, Bool.false_or])
   clear hfb
   obtain ⟨_, t0, t1, t2⟩ := HL.out.2.1
   have hww : w.heap.size + 1 ≤ wc.heap.size := HZ2.out.lt
   go_wp2_with fail
   refine (l06Take_any p s c l st sk re fe ag pp _ _ pn1 c1 c2 m.last m.laps m.xs m.ys rb _ wc HL.out.1 HL.out.2.2.1 HSr.out HG.out.1).mono ?_
   rintro e w5 ⟨k1, kc1, k2, kc2, rfl, hto, htl1, htl2, htc1, htc2, hb5⟩
   have HL := Lib.hid (HL.out.below hb5)
   have HZ2 := Lib.hid (HZ2.out.below hb5)
   have hwc : w.heap.size < w5.heap.size := HZ2.out.lt
   have HO := Lib.hid (show PosO w5 (w.heap.size + 1) _ _ _ _ _ _ _ _ from PosO.lower hto hww)
   have HKp := Lib.hid (show Kp6 w rb pb w5.heap.size p s c l st sk re fe ag p1 p2 pn1 pc1 2 pc2 pp (some ⟨k1, 0, none⟩) (some ⟨k2, 0, none⟩) pn1 kc1 2 kc2 m.last m.laps xs ys (tkX c l p pp m.last m.xs) (tkY c l p pp m.last m.xs m.ys) k1 k2 (w5.alloc (.cells #[.slice (some ⟨k1, 0, none⟩) pn1 kc1, .slice (some ⟨k2, 0, none⟩) 2 kc2, .int .i64 m.last, .int .i64 m.laps] 121)) from
    ⟨⟨HL.out.1.below (al1 _ _), HL.out.2.1.below (al1 _ _), so_new _ _ _ _ _ _ _ _ w5 121, OnW.below HL.out.be (al1 _ _)⟩, HZ2.out.below (al1 _ _), (H0.out.below HL.out.be).below (al1 _ _), HO.out.below (al1 _ _), hwc⟩)
   clear HL HZ2 HSr HO H0 hto hb5 HB2 HZ HB t0 t1 t2 HR HQ HC
   go_upto_region 7 with fail
   generalize hT : w5.heap.size = T0 at *
   generalize w5.alloc (.cells #[.slice (some ⟨k1, 0, none⟩) pn1 kc1, .slice (some ⟨k2, 0, none⟩) 2 kc2, .int .i64 m.last, .int .i64 m.laps] 121) = w8 at *
   clear hT
   have hw1 : IntKind.i64.wrap (1 - pp) = 1 - pp := IntWalk.i64_in _ ⟨by have := HG.out.1.pl; omega, by have := HG.out.1.pl; omega⟩
   go_cut [59] (fun s59 wx => s59 = .bool (fbF c l p pp fe xs m) ∧ Kp6 w rb pb T0 p s c l st sk re fe ag p1 p2 pn1 pc1 2 pc2 pp (some ⟨k1, 0, none⟩) (some ⟨k2, 0, none⟩) pn1 kc1 2 kc2 m.last m.laps xs ys (tkX c l p pp m.last m.xs) (tkY c l p pp m.last m.xs m.ys) k1 k2 wx ∧ k1 < wx.heap.size ∧ k2 < wx.heap.size)
   case first =>
    have HFd : Hid (∀ q, Calls Tryz.prog 139 #[.pointer (some ⟨rb, 0, none⟩), .pointer (some ⟨pb, 0, none⟩)] (w8.drewN q) (Still (.bool (fe && noneO p pp xs)) (w8.drewN q))) := Lib.hid (fun q => l07Feed_any p s c l st sk re fe ag p1 p2 pn1 pc1 2 pc2 pp xs ys rb pb (w8.drewN q) (HKp.out.1.1.below (below_dn (Below.refl _ _) q)) (HKp.out.1.2.1.below (below_dn (Below.refl _ _) q)) (HKp.out.2.2.1.below (below_dn (Below.refl _ _) q)) Hk.out)
    have hsum := HG.out.1.sum HG.out.2.1
    have ht1 := HG.out.1.t1
    have HSd : Hid (∀ q, Calls Tryz.prog 133 #[.pointer (some ⟨rb, 0, none⟩), .slice (some ⟨k1, 0, none⟩) pn1 kc1, .int .i64 (1 - pp)] (w8.drewN q) fun e w' => e = .returned (.int .i64 (tot (halfL (tkX c l p pp m.last m.xs) p.toNat (1 - pp)))) ∧ w8.drewN q = w') := Lib.hid (fun q => l04Side_p p rb (some ⟨k1, 0, none⟩) kc1 pn1 (tkX c l p pp m.last m.xs) (1 - pp) (w8.drewN q) (HKp.out.1.1.below (below_dn (Below.refl _ _) q)).2.1 (tkX_len.trans HG.out.2.1) (HKp.out.2.2.2.1.o1.row.drewN q) HG.out.1.p2 HG.out.1.n1 (by have := HG.out.1.pl; omega) (HG.out.1.tk HG.out.2.1 HG.out.2.2).1 (by omega))
    have HFF : Hid (fbF c l p pp fe xs m = ((fe && noneO p pp xs) && (tot (halfL (tkX c l p pp m.last m.xs) p.toNat (1 - pp)) == 0))) := Lib.hid rfl
    generalize (fe && noneO p pp xs) = b1 at *
    generalize tot (halfL (tkX c l p pp m.last m.xs) p.toNat (1 - pp)) = TT at *
    obtain ⟨_, t0, t1, t2⟩ := HKp.out.1.2.1
    obtain ⟨_, q0, q1, q2, q3⟩ := HKp.out.1.2.2.1
    clear hsum ht1
    cases b1
    ·go_quiet ((go_at_call 139; exact quiet_sR (HFd.out _) ⟨_, rfl⟩))
     go_wp2_with fail
     go_meet
     exact ⟨by rw [HFF.out]; rfl, HKp.out.below (below_dn (Below.refl _ _) _), Nat.lt_trans htl1 HKp.out.1.2.2.1.1, Nat.lt_trans htl2 HKp.out.1.2.2.1.1⟩
    ·by_cases h0 : TT = 0
     ·have d0 : (TT == 0) = true := by simpa using h0
      have HF1 : Hid (fbF c l p pp fe xs m = true) := Lib.hid (by rw [HFF.out, h0]; rfl)
      clear h0
      go_quiet ((first | (go_at_call 139; exact quiet_sR (HFd.out _) ⟨_, rfl⟩) | (go_at_call 133; exact quiet_w (HSd.out _) ⟨_, rfl⟩)))
      go_wp2_with fail
      go_meet
      exact ⟨by rw [HF1.out], HKp.out.below (below_dn (Below.refl _ _) _), Nat.lt_trans htl1 HKp.out.1.2.2.1.1, Nat.lt_trans htl2 HKp.out.1.2.2.1.1⟩
     ·have d0 : (TT == 0) = false := by simpa using h0
      have HF1 : Hid (fbF c l p pp fe xs m = false) := Lib.hid (by rw [HFF.out]; simp [h0])
      clear h0
      go_quiet ((first | (go_at_call 139; exact quiet_sR (HFd.out _) ⟨_, rfl⟩) | (go_at_call 133; exact quiet_w (HSd.out _) ⟨_, rfl⟩)))
      go_wp2_with fail
      go_meet
      exact ⟨by rw [HF1.out], HKp.out.below (below_dn (Below.refl _ _) _), Nat.lt_trans htl1 HKp.out.1.2.2.1.1, Nat.lt_trans htl2 HKp.out.1.2.2.1.1⟩
   case rest =>
    obtain ⟨rfl, hKp, hl1, hl2⟩ := hcut
    have HKp := Lib.hid hKp
    clear hKp
    rcases hfF : fbF c l p pp fe xs m with _ | _
    ·rw [hfF] at HIl
     clear hfF
     go_upto_region 9 with fail
     obtain ⟨P, hP⟩ : ∃ P : Nat, pp = (P : Int) := ⟨pp.toNat, by have := HG.out.1.pl; omega⟩
     have hP2 : P < 2 := by have := HG.out.1.pl; omega
     have hv : (tkY c l p pp m.last m.xs m.ys)[P]? = some ((tkY c l p pp m.last m.xs m.ys).getD P 0) := getD_at (by rw [tkY_len, HG.out.2.2]; exact hP2)
     have hz : ys[P]? = some (ys.getD P 0) := getD_at (by rw [HKp.out.2.2.1.l2]; exact hP2)
     obtain ⟨g', o', rfl, hgl', hcs'⟩ := HKp.out.2.2.1.r2.2.resolve_left (by intro e; subst e; cases hz)
     have hcy := hcs' _ _ hz
     have hct : wc.cell? ⟨k2, P, none⟩ = some (.int .i64 ((tkY c l p pp m.last m.xs m.ys).getD P 0)) := by
      obtain ⟨g, o, e, _, hcs⟩ := HKp.out.2.2.2.1.o2.row.2.resolve_left (by intro e; rw [e] at hv; cases hv)
      cases e
      have := hcs _ _ hv
      simpa using this
     have hyb := (HG.out.1.tk HG.out.2.1 HG.out.2.2)
     have hv0 := posB_getD hyb.2.1 P
     have hv1 := getD_le hyb.2.1 P
     have hv2 := posB_tot hyb.1
     have hy0 := posB_getD (seedB_parts (okP_parts Hk.out).2.2.2.2).2.1 P
     have hy1 := getD_le (seedB_parts (okP_parts Hk.out).2.2.2.2).2.1 P
     have hy2 := posB_tot (seedB_parts (okP_parts Hk.out).2.2.2.2).1
     have hy3 := (seedB_parts (okP_parts Hk.out).2.2.2.2).2.2
     have hx3 := HG.out.1.q3
     have HGn : Hid (gnV c l p pp ys m = (tkY c l p pp m.last m.xs m.ys).getD P 0 - ys.getD P 0) := Lib.hid (by unfold gnV; rw [hP, Int.toNat_natCast])
     generalize htv : (tkY c l p pp m.last m.xs m.ys).getD P 0 = tv at *
     generalize hyv : ys.getD P 0 = yv at *
     have hwg : IntKind.i64.wrap (tv - yv) = tv - yv := IntWalk.i64_in _ ⟨by omega, by omega⟩
     have z0 : (0 : Int) ≤ (P : Int) := by omega
     have z1 : (P : Int) < 2 := by omega
     have HTV := Lib.hid (And.intro htv hyv)
     have HP := Lib.hid hP
     have hT0 := HKp.out.1.2.2.1.1
     have hwT := HKp.out.2.2.2.2
     have hpbl := HKp.out.1.2.1.1
     have hrbl := HKp.out.1.1.1
     have HT : Hid (∀ u : World, OnW wc u → (pb < u.heap.size ∧ u.cell? ⟨pb, 1, none⟩ = some (.slice (some ⟨g', o', none⟩) 2 pc2) ∧ u.cell? ⟨pb, 2, none⟩ = some (.int .i64 P)) ∧ (T0 < u.heap.size ∧ u.cell? ⟨T0, 1, none⟩ = some (.slice (some ⟨k2, 0, none⟩) 2 kc2) ∧ u.cell? ⟨T0, 2, none⟩ = some (.int .i64 m.last)) ∧ (rb < u.heap.size ∧ u.cell? ⟨rb, 6, none⟩ = some (.bool ag)) ∧ u.cell? ⟨k2, P, none⟩ = some (.int .i64 tv) ∧ u.cell? ⟨g', o' + P, none⟩ = some (.int .i64 yv) ∧ Below wc.heap.size wc u) := Lib.hid (fun u hu => by
       have h1 := HKp.out.1.2.1.below hu
       have h2 := HKp.out.1.2.2.1.below hu
       have h3 := HKp.out.1.1.below hu
       rw [hP] at h1
       exact ⟨⟨h1.1, h1.2.2.1, h1.2.2.2⟩, ⟨h2.1, h2.2.2.1, h2.2.2.2.1⟩, ⟨h3.1, h3.2.2.2.2.2.2.2.1⟩, (hu.cell (p := ⟨k2, P, none⟩) hl2).trans hct, (hu.cell (p := ⟨g', o' + P, none⟩) hgl').trans hcy, hu⟩)
     clear hv hz hcs' hcy hct hyb hv0 hv1 hv2 hy0 hy1 hy2 hy3 hx3 htv hyv hP
     have HB8 := Lib.hid (show OnW wc wc from Below.refl _ _)
     go_cut [12] (fun s12 wx => ∃ O : Nat, s12 = .pointer (some ⟨O, 0, none⟩) ∧ wc.heap.size ≤ O ∧ Ot6 wx O move (tv - yv) (ag && decide (m.last = -1)) (.slice none 0 0) (.slice none 0 0) (.int .i64 0) ∧ Below wc.heap.size wc wx)
     case first =>
      cases ag
      ·refine wp_region_noPanic ?_
       refine wp_region_held_drew (S := fun u => (pb < u.heap.size ∧ u.cell? ⟨pb, 1, none⟩ = some (.slice (some ⟨g', o', none⟩) 2 pc2) ∧ u.cell? ⟨pb, 2, none⟩ = some (.int .i64 P)) ∧ (T0 < u.heap.size ∧ u.cell? ⟨T0, 1, none⟩ = some (.slice (some ⟨k2, 0, none⟩) 2 kc2) ∧ u.cell? ⟨T0, 2, none⟩ = some (.int .i64 m.last)) ∧ (rb < u.heap.size ∧ u.cell? ⟨rb, 6, none⟩ = some (.bool false)) ∧ u.cell? ⟨k2, P, none⟩ = some (.int .i64 tv) ∧ u.cell? ⟨g', o' + P, none⟩ = some (.int .i64 yv) ∧ Below wc.heap.size wc u) (by kernel_rfl) (HT.out _ HB8.out.drew) (fun hHeld => ?_)
       refine wpAnyH_take (i := 0) (oi := { dst := some 61, op := Op.move (Operand.tmp 2), type := 2, pos := "l07_moves.go:25", after := #[], guard := none }) (v := .int .i64 move) rfl (by kernel_rfl) (by kernel_rfl) (by kernel_rfl) (fun _ _ _ h => h) (Or.inl ⟨by rfl, fun u hu => by (try dsimp only at hu); go_simp; try with_reducible rfl⟩) hHeld ?_
       simp only [Act.put, List.setIfInBounds_toArray, List.set_cons_zero, List.set_cons_succ]
       refine wpAnyH_take (i := 1) (oi := { dst := some 62, op := Op.fieldAddr 121 (Operand.tmp 11) 1, type := 0, pos := "l07_moves.go:25", after := #[], guard := none }) (v := .pointer (some ⟨T0, 1, none⟩)) rfl (by kernel_rfl) (by kernel_rfl) (by kernel_rfl) (fun _ _ _ h => h) (Or.inl ⟨by rfl, fun u hu => by (try dsimp only at hu); go_simp; try with_reducible rfl⟩) hHeld ?_
       simp only [Act.put, List.setIfInBounds_toArray, List.set_cons_zero, List.set_cons_succ]
       refine wpAnyH_take (i := 2) (oi := { dst := some 63, op := Op.load 24 (Operand.tmp 62), type := 24, pos := "l07_moves.go:25", after := #[{ on := 1, ground := Ground.data }], guard := none }) (v := .slice (some ⟨k2, 0, none⟩) 2 kc2) rfl (by kernel_rfl) (by kernel_rfl) (by kernel_rfl) (fun _ _ _ h => h) (Or.inl ⟨by rfl, fun u hu => by (try dsimp only at hu); go_simp; try with_reducible rfl⟩) hHeld ?_
       simp only [Act.put, List.setIfInBounds_toArray, List.set_cons_zero, List.set_cons_succ]
       refine wpAnyH_take (i := 3) (oi := { dst := some 64, op := Op.move (Operand.tmp 1), type := 87, pos := "l07_moves.go:25", after := #[], guard := none }) (v := .pointer (some ⟨pb, 0, none⟩)) rfl (by kernel_rfl) (by kernel_rfl) (by kernel_rfl) (fun _ _ _ h => h) (Or.inl ⟨by rfl, fun u hu => by (try dsimp only at hu); go_simp; try with_reducible rfl⟩) hHeld ?_
       simp only [Act.put, List.setIfInBounds_toArray, List.set_cons_zero, List.set_cons_succ]
       refine wpAnyH_take (i := 4) (oi := { dst := some 65, op := Op.nilCheck (Operand.tmp 64), type := 0, pos := "l07_moves.go:25", after := #[{ on := 3, ground := Ground.data }], guard := none }) (v := .pointer (some ⟨pb, 0, none⟩)) rfl (by kernel_rfl) (by kernel_rfl) (by kernel_rfl) (fun _ _ _ h => h) (Or.inl ⟨by rfl, fun u hu => by (try dsimp only at hu); go_simp; try with_reducible rfl⟩) hHeld ?_
       simp only [Act.put, List.setIfInBounds_toArray, List.set_cons_zero, List.set_cons_succ]
       refine wpAnyH_take (i := 5) (oi := { dst := some 66, op := Op.fieldAddr 33 (Operand.tmp 65) 2, type := 0, pos := "l07_moves.go:25", after := #[{ on := 4, ground := Ground.data }], guard := none }) (v := .pointer (some ⟨pb, 2, none⟩)) rfl (by kernel_rfl) (by kernel_rfl) (by kernel_rfl) (fun _ _ _ h => h) (Or.inl ⟨by rfl, fun u hu => by (try dsimp only at hu); go_simp; try with_reducible rfl⟩) hHeld ?_
       simp only [Act.put, List.setIfInBounds_toArray, List.set_cons_zero, List.set_cons_succ]
       refine wpAnyH_take (i := 6) (oi := { dst := some 67, op := Op.load 2 (Operand.tmp 66), type := 2, pos := "l07_moves.go:25", after := #[{ on := 5, ground := Ground.data }], guard := none }) (v := .int .i64 P) rfl (by kernel_rfl) (by kernel_rfl) (by kernel_rfl) (fun _ _ _ h => h) (Or.inl ⟨by rfl, fun u hu => by (try dsimp only at hu); go_simp; try with_reducible rfl⟩) hHeld ?_
       simp only [Act.put, List.setIfInBounds_toArray, List.set_cons_zero, List.set_cons_succ]
       refine wpAnyH_take (i := 7) (oi := { dst := some 68, op := Op.indexAddr 24 (Operand.tmp 63) (Operand.tmp 67), type := 0, pos := "l07_moves.go:25", after := #[{ on := 2, ground := Ground.data }, { on := 6, ground := Ground.data }], guard := none }) (v := .pointer (some ⟨k2, P, none⟩)) rfl (by kernel_rfl) (by kernel_rfl) (by kernel_rfl) (fun _ _ _ h => h) (Or.inl ⟨by rfl, fun u hu => by (try dsimp only at hu); go_simp; try with_reducible rfl⟩) hHeld ?_
       simp only [Act.put, List.setIfInBounds_toArray, List.set_cons_zero, List.set_cons_succ]
       refine wpAnyH_take (i := 8) (oi := { dst := some 69, op := Op.load 2 (Operand.tmp 68), type := 2, pos := "l07_moves.go:25", after := #[{ on := 7, ground := Ground.data }], guard := none }) (v := .int .i64 tv) rfl (by kernel_rfl) (by kernel_rfl) (by kernel_rfl) (fun _ _ _ h => h) (Or.inl ⟨by rfl, fun u hu => by (try dsimp only at hu); go_simp; try with_reducible rfl⟩) hHeld ?_
       simp only [Act.put, List.setIfInBounds_toArray, List.set_cons_zero, List.set_cons_succ]
       refine wpAnyH_take (i := 9) (oi := { dst := some 70, op := Op.move (Operand.tmp 1), type := 87, pos := "l07_moves.go:25", after := #[], guard := none }) (v := .pointer (some ⟨pb, 0, none⟩)) rfl (by kernel_rfl) (by kernel_rfl) (by kernel_rfl) (fun _ _ _ h => h) (Or.inl ⟨by rfl, fun u hu => by (try dsimp only at hu); go_simp; try with_reducible rfl⟩) hHeld ?_
       simp only [Act.put, List.setIfInBounds_toArray, List.set_cons_zero, List.set_cons_succ]
       refine wpAnyH_take (i := 10) (oi := { dst := some 71, op := Op.nilCheck (Operand.tmp 70), type := 0, pos := "l07_moves.go:25", after := #[{ on := 9, ground := Ground.data }], guard := none }) (v := .pointer (some ⟨pb, 0, none⟩)) rfl (by kernel_rfl) (by kernel_rfl) (by kernel_rfl) (fun _ _ _ h => h) (Or.inl ⟨by rfl, fun u hu => by (try dsimp only at hu); go_simp; try with_reducible rfl⟩) hHeld ?_
       simp only [Act.put, List.setIfInBounds_toArray, List.set_cons_zero, List.set_cons_succ]
       refine wpAnyH_take (i := 11) (oi := { dst := some 72, op := Op.fieldAddr 33 (Operand.tmp 71) 1, type := 0, pos := "l07_moves.go:25", after := #[{ on := 10, ground := Ground.data }], guard := none }) (v := .pointer (some ⟨pb, 1, none⟩)) rfl (by kernel_rfl) (by kernel_rfl) (by kernel_rfl) (fun _ _ _ h => h) (Or.inl ⟨by rfl, fun u hu => by (try dsimp only at hu); go_simp; try with_reducible rfl⟩) hHeld ?_
       simp only [Act.put, List.setIfInBounds_toArray, List.set_cons_zero, List.set_cons_succ]
       refine wpAnyH_take (i := 12) (oi := { dst := some 73, op := Op.load 24 (Operand.tmp 72), type := 24, pos := "l07_moves.go:25", after := #[{ on := 11, ground := Ground.data }], guard := none }) (v := .slice (some ⟨g', o', none⟩) 2 pc2) rfl (by kernel_rfl) (by kernel_rfl) (by kernel_rfl) (fun _ _ _ h => h) (Or.inl ⟨by rfl, fun u hu => by (try dsimp only at hu); go_simp; try with_reducible rfl⟩) hHeld ?_
       simp only [Act.put, List.setIfInBounds_toArray, List.set_cons_zero, List.set_cons_succ]
       refine wpAnyH_take (i := 13) (oi := { dst := some 74, op := Op.move (Operand.tmp 1), type := 87, pos := "l07_moves.go:25", after := #[], guard := none }) (v := .pointer (some ⟨pb, 0, none⟩)) rfl (by kernel_rfl) (by kernel_rfl) (by kernel_rfl) (fun _ _ _ h => h) (Or.inl ⟨by rfl, fun u hu => by (try dsimp only at hu); go_simp; try with_reducible rfl⟩) hHeld ?_
       simp only [Act.put, List.setIfInBounds_toArray, List.set_cons_zero, List.set_cons_succ]
       refine wpAnyH_take (i := 14) (oi := { dst := some 75, op := Op.nilCheck (Operand.tmp 74), type := 0, pos := "l07_moves.go:25", after := #[{ on := 13, ground := Ground.data }], guard := none }) (v := .pointer (some ⟨pb, 0, none⟩)) rfl (by kernel_rfl) (by kernel_rfl) (by kernel_rfl) (fun _ _ _ h => h) (Or.inl ⟨by rfl, fun u hu => by (try dsimp only at hu); go_simp; try with_reducible rfl⟩) hHeld ?_
       simp only [Act.put, List.setIfInBounds_toArray, List.set_cons_zero, List.set_cons_succ]
       refine wpAnyH_take (i := 15) (oi := { dst := some 76, op := Op.fieldAddr 33 (Operand.tmp 75) 2, type := 0, pos := "l07_moves.go:25", after := #[{ on := 14, ground := Ground.data }], guard := none }) (v := .pointer (some ⟨pb, 2, none⟩)) rfl (by kernel_rfl) (by kernel_rfl) (by kernel_rfl) (fun _ _ _ h => h) (Or.inl ⟨by rfl, fun u hu => by (try dsimp only at hu); go_simp; try with_reducible rfl⟩) hHeld ?_
       simp only [Act.put, List.setIfInBounds_toArray, List.set_cons_zero, List.set_cons_succ]
       refine wpAnyH_take (i := 16) (oi := { dst := some 77, op := Op.load 2 (Operand.tmp 76), type := 2, pos := "l07_moves.go:25", after := #[{ on := 15, ground := Ground.data }], guard := none }) (v := .int .i64 P) rfl (by kernel_rfl) (by kernel_rfl) (by kernel_rfl) (fun _ _ _ h => h) (Or.inl ⟨by rfl, fun u hu => by (try dsimp only at hu); go_simp; try with_reducible rfl⟩) hHeld ?_
       simp only [Act.put, List.setIfInBounds_toArray, List.set_cons_zero, List.set_cons_succ]
       refine wpAnyH_take (i := 17) (oi := { dst := some 78, op := Op.indexAddr 24 (Operand.tmp 73) (Operand.tmp 77), type := 0, pos := "l07_moves.go:25", after := #[{ on := 12, ground := Ground.data }, { on := 16, ground := Ground.data }], guard := none }) (v := .pointer (some ⟨g', o' + P, none⟩)) rfl (by kernel_rfl) (by kernel_rfl) (by kernel_rfl) (fun _ _ _ h => h) (Or.inl ⟨by rfl, fun u hu => by (try dsimp only at hu); go_simp; try with_reducible rfl⟩) hHeld ?_
       simp only [Act.put, List.setIfInBounds_toArray, List.set_cons_zero, List.set_cons_succ]
       refine wpAnyH_take (i := 18) (oi := { dst := some 79, op := Op.load 2 (Operand.tmp 78), type := 2, pos := "l07_moves.go:25", after := #[{ on := 17, ground := Ground.data }], guard := none }) (v := .int .i64 yv) rfl (by kernel_rfl) (by kernel_rfl) (by kernel_rfl) (fun _ _ _ h => h) (Or.inl ⟨by rfl, fun u hu => by (try dsimp only at hu); go_simp; try with_reducible rfl⟩) hHeld ?_
       simp only [Act.put, List.setIfInBounds_toArray, List.set_cons_zero, List.set_cons_succ]
       refine wpAnyH_take (i := 19) (oi := { dst := some 80, op := Op.binOp BinOp.sub 2 (Operand.tmp 69) (Operand.tmp 79) 2, type := 2, pos := "l07_moves.go:25", after := #[{ on := 8, ground := Ground.data }, { on := 18, ground := Ground.data }], guard := none }) (v := .int .i64 (tv - yv)) rfl (by kernel_rfl) (by kernel_rfl) (by kernel_rfl) (fun _ _ _ h => h) (Or.inl ⟨by rfl, fun u hu => by (try dsimp only at hu); go_simp; try with_reducible rfl⟩) hHeld ?_
       simp only [Act.put, List.setIfInBounds_toArray, List.set_cons_zero, List.set_cons_succ]
       refine wpAnyH_take (i := 20) (oi := { dst := some 81, op := Op.move (Operand.tmp 0), type := 86, pos := "l07_moves.go:25", after := #[], guard := none }) (v := .pointer (some ⟨rb, 0, none⟩)) rfl (by kernel_rfl) (by kernel_rfl) (by kernel_rfl) (fun _ _ _ h => h) (Or.inl ⟨by rfl, fun u hu => by (try dsimp only at hu); go_simp; try with_reducible rfl⟩) hHeld ?_
       simp only [Act.put, List.setIfInBounds_toArray, List.set_cons_zero, List.set_cons_succ]
       refine wpAnyH_take (i := 21) (oi := { dst := some 82, op := Op.nilCheck (Operand.tmp 81), type := 0, pos := "l07_moves.go:25", after := #[{ on := 20, ground := Ground.data }], guard := none }) (v := .pointer (some ⟨rb, 0, none⟩)) rfl (by kernel_rfl) (by kernel_rfl) (by kernel_rfl) (fun _ _ _ h => h) (Or.inl ⟨by rfl, fun u hu => by (try dsimp only at hu); go_simp; try with_reducible rfl⟩) hHeld ?_
       simp only [Act.put, List.setIfInBounds_toArray, List.set_cons_zero, List.set_cons_succ]
       refine wpAnyH_take (i := 22) (oi := { dst := some 83, op := Op.fieldAddr 32 (Operand.tmp 82) 6, type := 0, pos := "l07_moves.go:25", after := #[{ on := 21, ground := Ground.data }], guard := none }) (v := .pointer (some ⟨rb, 6, none⟩)) rfl (by kernel_rfl) (by kernel_rfl) (by kernel_rfl) (fun _ _ _ h => h) (Or.inl ⟨by rfl, fun u hu => by (try dsimp only at hu); go_simp; try with_reducible rfl⟩) hHeld ?_
       simp only [Act.put, List.setIfInBounds_toArray, List.set_cons_zero, List.set_cons_succ]
       refine wpAnyH_take (i := 23) (oi := { dst := some 84, op := Op.load 4 (Operand.tmp 83), type := 4, pos := "l07_moves.go:25", after := #[{ on := 22, ground := Ground.data }], guard := none }) (v := .bool false) rfl (by kernel_rfl) (by kernel_rfl) (by kernel_rfl) (fun _ _ _ h => h) (Or.inl ⟨by rfl, fun u hu => by (try dsimp only at hu); go_simp; try with_reducible rfl⟩) hHeld ?_
       simp only [Act.put, List.setIfInBounds_toArray, List.set_cons_zero, List.set_cons_succ]
       refine wpAnyH_take (i := 24) (oi := { dst := some 85, op := Op.move (Operand.tmp 84), type := 4, pos := "l07_moves.go:25", after := #[{ on := 23, ground := Ground.data }], guard := none }) (v := .bool false) rfl (by kernel_rfl) (by kernel_rfl) (by kernel_rfl) (fun _ _ _ h => h) (Or.inl ⟨by rfl, fun u hu => by (try dsimp only at hu); go_simp; try with_reducible rfl⟩) hHeld ?_
       simp only [Act.put, List.setIfInBounds_toArray, List.set_cons_zero, List.set_cons_succ]
       refine wpAnyH_take (i := 25) (oi := { dst := some 86, op := Op.fieldAddr 121 (Operand.tmp 11) 2, type := 0, pos := "l07_moves.go:25", after := #[{ on := 24, ground := Ground.guard }], guard := some (24, true) }) (v := undef) rfl (by kernel_rfl) (by kernel_rfl) (by kernel_rfl) (fun _ _ _ h => h) (Or.inr ⟨by rfl, rfl⟩) hHeld ?_
       simp only [Act.put, List.setIfInBounds_toArray, List.set_cons_zero, List.set_cons_succ]
       refine wpAnyH_take (i := 26) (oi := { dst := some 87, op := Op.load 2 (Operand.tmp 86), type := 2, pos := "l07_moves.go:25", after := #[{ on := 25, ground := Ground.data }, { on := 24, ground := Ground.guard }], guard := some (24, true) }) (v := undef) rfl (by kernel_rfl) (by kernel_rfl) (by kernel_rfl) (fun _ _ _ h => h) (Or.inr ⟨by rfl, rfl⟩) hHeld ?_
       simp only [Act.put, List.setIfInBounds_toArray, List.set_cons_zero, List.set_cons_succ]
       refine wpAnyH_take (i := 27) (oi := { dst := some 88, op := Op.binOp BinOp.eql 2 (Operand.tmp 87) (Operand.const (Value.int IntKind.i64 (-1))) 2, type := 4, pos := "l07_moves.go:25", after := #[{ on := 26, ground := Ground.data }, { on := 24, ground := Ground.guard }], guard := some (24, true) }) (v := undef) rfl (by kernel_rfl) (by kernel_rfl) (by kernel_rfl) (fun _ _ _ h => h) (Or.inr ⟨by rfl, rfl⟩) hHeld ?_
       simp only [Act.put, List.setIfInBounds_toArray, List.set_cons_zero, List.set_cons_succ]
       refine wpAnyH_take (i := 28) (oi := { dst := some 89, op := Op.pick (Operand.tmp 85) (Operand.tmp 88) (Operand.const (Value.bool false)), type := 4, pos := "l07_moves.go:25", after := #[{ on := 24, ground := Ground.data }, { on := 27, ground := Ground.data }], guard := none }) (v := .bool false) rfl (by kernel_rfl) (by kernel_rfl) (by kernel_rfl) (fun _ _ _ h => h) (Or.inl ⟨by rfl, fun u hu => by (try dsimp only at hu); go_simp; try with_reducible rfl⟩) hHeld ?_
       simp only [Act.put, List.setIfInBounds_toArray, List.set_cons_zero, List.set_cons_succ]
       refine wpAnyH_take (i := 29) (oi := { dst := some 90, op := Op.build 117 #[(0, Operand.tmp 61), (1, Operand.tmp 80), (2, Operand.tmp 89)], type := 117, pos := "l07_moves.go:25", after := #[{ on := 0, ground := Ground.data }, { on := 19, ground := Ground.data }, { on := 28, ground := Ground.data }], guard := none }) (v := .agg #[.int .i64 move, .int .i64 (tv - yv), .bool false, .slice none 0 0, .slice none 0 0, .int .i64 0]) rfl (by kernel_rfl) (by kernel_rfl) (by kernel_rfl) (fun _ _ _ h => h) (Or.inl ⟨by rfl, fun u hu => by (try dsimp only at hu); go_simp; try with_reducible rfl⟩) hHeld ?_
       simp only [Act.put, List.setIfInBounds_toArray, List.set_cons_zero, List.set_cons_succ]
       refine wpAnyH_ready (rs := [30]) (by kernel_rfl) (by simp) ?_
       refine AllReadyH.cons rfl (fun K hK => ?_) AllReadyH.nil
       rw [if_pos (by rfl)]
       go_simp
       have HB9 := Lib.hid (show OnW wc _ from (HB8.out.below (al1 wc (.cells #[.int .i64 0, .int .i64 0, .bool false, .slice none 0 0, .slice none 0 0, .int .i64 0] 117))).drew)
       refine hK.out _ _ (HT.out _ HB9.out) (fun hHeld => ?_)
       clear hK K
       (try simp only [Act.put, List.setIfInBounds_toArray, List.set_cons_zero, List.set_cons_succ])
       refine wpAnyH_ready (rs := [31]) (by kernel_rfl) (by simp) ?_
       refine AllReadyH.cons rfl (fun K hK => ?_) AllReadyH.nil
       rw [if_pos (by rfl)]
       go_simp
       have HB10 := Lib.hid (show OnW wc _ from (HB8.out.below (al1 wc (.cells #[.int .i64 move, .int .i64 (tv - yv), .bool false, .slice none 0 0, .slice none 0 0, .int .i64 0] 117))).drew)
       refine hK.out _ _ (HT.out _ HB10.out) (fun hHeld => ?_)
       clear hK K
       (try simp only [Act.put, List.setIfInBounds_toArray, List.set_cons_zero, List.set_cons_succ])
       refine wpAnyH_done (by kernel_rfl) ?_ _
       refine NoPanic.normal ?_
       go_wp2_with fail
       go_meet
       exact ⟨wc.heap.size, rfl, Nat.le_refl _, (ot6_new wc 117 move (tv - yv) false (.slice none 0 0) (.slice none 0 0) (.int .i64 0)).drew, HB10.out⟩
      ·go_region_held3 (fun u => (pb < u.heap.size ∧ u.cell? ⟨pb, 1, none⟩ = some (.slice (some ⟨g', o', none⟩) 2 pc2) ∧ u.cell? ⟨pb, 2, none⟩ = some (.int .i64 P)) ∧ (T0 < u.heap.size ∧ u.cell? ⟨T0, 1, none⟩ = some (.slice (some ⟨k2, 0, none⟩) 2 kc2) ∧ u.cell? ⟨T0, 2, none⟩ = some (.int .i64 m.last)) ∧ (rb < u.heap.size ∧ u.cell? ⟨rb, 6, none⟩ = some (.bool true)) ∧ u.cell? ⟨k2, P, none⟩ = some (.int .i64 tv) ∧ u.cell? ⟨g', o' + P, none⟩ = some (.int .i64 yv) ∧ Below wc.heap.size wc u) (first | with_reducible exact HT.out _ HB8.out | with_reducible exact HT.out _ HB8.out.drew | with_reducible exact HT.out _ (HB8.out.below (al1 _ _)) | with_reducible exact HT.out _ (HB8.out.below (al1 _ _)).drew | with_reducible exact HT.out _ (HB8.out.drew.below (al1 _ _)) | with_reducible exact HT.out _ (below6 HB8.out (by omega) _ _ _ _ _ _))
        (fail)
       all_goals go_wp2_with fail
       all_goals go_meet
       all_goals exact ⟨wc.heap.size, rfl, Nat.le_refl _, (ot6_new wc 117 move (tv - yv) (true && decide (m.last = -1)) (.slice none 0 0) (.slice none 0 0) (.int .i64 0)).drew, (HB8.out.below (al1 wc _)).drew⟩
     case rest =>
      obtain ⟨O, rfl, hO, hOt, hbc⟩ := hcut
      have HOt := Lib.hid hOt
      have HKp2 := Lib.hid (HKp.out.below hbc)
      have hl1' := Nat.lt_of_lt_of_le hl1 hbc.size
      have hl2' := Nat.lt_of_lt_of_le hl2 hbc.size
      have hO1 : k1 < O := Nat.lt_of_lt_of_le hl1 hO
      have hO2 : k2 < O := Nat.lt_of_lt_of_le hl2 hO
      have hO3 : w.heap.size < O := by omega
      have HBw := Lib.hid (show OnW w wc from HKp2.out.1.be)
      have hpO : pb ≠ O := by omega
      have HN : Hid (nxV ag pp m = if (ag && decide (m.last = -1)) = true then pp else 1 - pp) := Lib.hid rfl
      have HA : Hid (agV ag m = (ag && decide (m.last = -1))) := Lib.hid rfl
      generalize (ag && decide (m.last = -1)) = bA at *
      generalize tv - yv = gn at *
      clear hOt hbc HT HB8 hO hwg z0 z1 HTV HKp
      have HO := Lib.hid (HOt.out.drew)
      obtain ⟨ol, o0, o1, o2, o3, o4, o5, ofr⟩ := HOt.out
      have f3 := ofr 3
      have f4 := ofr 4
      have f5 := ofr 5
      obtain ⟨_, t0, t1, t2⟩ := HKp2.out.1.2.1
      obtain ⟨_, q0, q1, q2, q3⟩ := HKp2.out.1.2.2.1
      clear ofr o0 o1 o2
      go_wp2_with fail
      go_still_tail 11, (by kernel_rfl)
      change wpList _ _ _ _ _ (World.drew wc)
      go_upto_region 11 with fail
      clear o3 o4 o5 f3 f4 f5 t0 t1 t2 q0 q1 q2 q3
      have hbt := but3o O wc (.slice (some ⟨k1, 0, none⟩) pn1 kc1) (.slice (some ⟨k2, 0, none⟩) 2 kc2) (.int .i64 (1 - pp))
      have HO9 := Lib.hid (show Ot6 ((((wc.setCell ⟨O, 3, none⟩ (.slice (some ⟨k1, 0, none⟩) pn1 kc1)).setCell ⟨O, 4, none⟩ (.slice (some ⟨k2, 0, none⟩) 2 kc2)).setCell ⟨O, 5, none⟩ (.int .i64 (1 - pp))).drew) O move gn bA (.slice (some ⟨k1, 0, none⟩) pn1 kc1) (.slice (some ⟨k2, 0, none⟩) 2 kc2) (.int .i64 (1 - pp)) from (ot6_next HOt.out _ _ _).drew)
      have HZ9 := Lib.hid (show Z6 ((((wc.setCell ⟨O, 3, none⟩ (.slice (some ⟨k1, 0, none⟩) pn1 kc1)).setCell ⟨O, 4, none⟩ (.slice (some ⟨k2, 0, none⟩) 2 kc2)).setCell ⟨O, 5, none⟩ (.int .i64 (1 - pp))).drew) w.heap.size from (HKp2.out.2.1.but hbt (by omega)).below (Below.refl _ _).drew)
      have HP9 := Lib.hid (show PoAt ((((wc.setCell ⟨O, 3, none⟩ (.slice (some ⟨k1, 0, none⟩) pn1 kc1)).setCell ⟨O, 4, none⟩ (.slice (some ⟨k2, 0, none⟩) 2 kc2)).setCell ⟨O, 5, none⟩ (.int .i64 (1 - pp))).drew) pb _ _ _ _ _ _ pp from (HKp2.out.1.2.1.but hbt hpO).below (Below.refl _ _).drew)
      have HK9 := Lib.hid (show PosO ((((wc.setCell ⟨O, 3, none⟩ (.slice (some ⟨k1, 0, none⟩) pn1 kc1)).setCell ⟨O, 4, none⟩ (.slice (some ⟨k2, 0, none⟩) 2 kc2)).setCell ⟨O, 5, none⟩ (.int .i64 (1 - pp))).drew) (w.heap.size + 1) (some ⟨k1, 0, none⟩) (some ⟨k2, 0, none⟩) k1 k2 pn1 2 _ _ from (PosO.but HKp2.out.2.2.2.1 hbt (by omega) (by omega)).below (Below.refl _ _).drew)
      have HB9 := Lib.hid (show OnW w ((((wc.setCell ⟨O, 3, none⟩ (.slice (some ⟨k1, 0, none⟩) pn1 kc1)).setCell ⟨O, 4, none⟩ (.slice (some ⟨k2, 0, none⟩) 2 kc2)).setCell ⟨O, 5, none⟩ (.int .i64 (1 - pp))).drew) from OnW.drew (But.lift HBw.out hbt (by omega)))
      have hl1' : k1 < ((((wc.setCell ⟨O, 3, none⟩ (.slice (some ⟨k1, 0, none⟩) pn1 kc1)).setCell ⟨O, 4, none⟩ (.slice (some ⟨k2, 0, none⟩) 2 kc2)).setCell ⟨O, 5, none⟩ (.int .i64 (1 - pp))).drew).heap.size := by simpa using hl1'
      have hl2' : k2 < ((((wc.setCell ⟨O, 3, none⟩ (.slice (some ⟨k1, 0, none⟩) pn1 kc1)).setCell ⟨O, 4, none⟩ (.slice (some ⟨k2, 0, none⟩) 2 kc2)).setCell ⟨O, 5, none⟩ (.int .i64 (1 - pp))).drew).heap.size := by simpa using hl2'
      generalize ((((wc.setCell ⟨O, 3, none⟩ (.slice (some ⟨k1, 0, none⟩) pn1 kc1)).setCell ⟨O, 4, none⟩ (.slice (some ⟨k2, 0, none⟩) 2 kc2)).setCell ⟨O, 5, none⟩ (.int .i64 (1 - pp))).drew) = w9 at *
      clear hbt HOt HKp2 HBw HO
      have hne : O ≠ w.heap.size := by omega
      have hne' : w.heap.size ≠ O := by omega
      have hpO' : O ≠ pb := Ne.symm hpO
      obtain ⟨ol, o0, o1, o2, o3, o4, o5, ofr⟩ := HO9.out
      have f5 := ofr 5
      obtain ⟨_, -, -, t2⟩ := HP9.out
      obtain ⟨zl, z0, z1, z2, z3, z4, z5, zf⟩ := HZ9.out
      have y0 := zf 0
      have y1 := zf 1
      have y2 := zf 2
      have y3 := zf 3
      have y4 := zf 4
      have y5 := zf 5
      clear zf ofr
      cases bA
      ·go_wp2_with fail
       refine bodyPost_ret (v := .tuple #[.agg #[.int .i64 move, .int .i64 gn, .bool false, .slice (some ⟨k1, 0, none⟩) pn1 kc1, .slice (some ⟨k2, 0, none⟩) 2 kc2, .int .i64 (1 - pp)], .int .i64 0]) (by simp [results, Tryz.results108, go_sem, z0, z1, z2, z3, z4, z5]) rfl ?_
       rw [HIl.out]
       have hkn1 := HK9.out.o1.new
       have hkn2 := HK9.out.o2.new
       have hbz := but6 w.heap.size w9 (.int .i64 move) (.int .i64 gn) (.bool false) (.slice (some ⟨k1, 0, none⟩) pn1 kc1) (.slice (some ⟨k2, 0, none⟩) 2 kc2) (.int .i64 (1 - pp))
       exact mrL_leg HGn.out HA.out (by have := HN.out; simpa using this) ((PosO.but HK9.out hbz (by omega) (by omega)).lower (Nat.le_succ _)) (by simpa using hl1') (by simpa using hl2') htc1 htc2 (show OnW w _ from below6 HB9.out (Nat.le_refl _) _ _ _ _ _ _)
      ·go_wp2_with fail
       refine bodyPost_ret (v := .tuple #[.agg #[.int .i64 move, .int .i64 gn, .bool true, .slice (some ⟨k1, 0, none⟩) pn1 kc1, .slice (some ⟨k2, 0, none⟩) 2 kc2, .int .i64 pp], .int .i64 0]) (by simp [results, Tryz.results108, go_sem, z0, z1, z2, z3, z4, z5]) rfl ?_
       rw [HIl.out]
       have hkn1 := HK9.out.o1.new
       have hkn2 := HK9.out.o2.new
       have hbo : But O w9 (w9.setCell ⟨O, 5, none⟩ (.int .i64 pp)) := (But.refl O w9).setCell rfl _
       have hbz := but6 w.heap.size (w9.setCell ⟨O, 5, none⟩ (.int .i64 pp)) (.int .i64 move) (.int .i64 gn) (.bool true) (.slice (some ⟨k1, 0, none⟩) pn1 kc1) (.slice (some ⟨k2, 0, none⟩) 2 kc2) (.int .i64 pp)
       exact mrL_leg HGn.out HA.out (by have := HN.out; simpa using this) ((PosO.but (PosO.but HK9.out hbo (by omega) (by omega)) hbz (by omega) (by omega)).lower (Nat.le_succ _)) (by simpa using hl1') (by simpa using hl2') htc1 htc2 (show OnW w _ from below6 (But.lift HB9.out hbo (by omega)) (Nat.le_refl _) _ _ _ _ _ _)
    ·rw [hfF] at HIl
     clear hfF
     obtain ⟨zl, z0, z1, z2, z3, z4, z5, zf⟩ := HKp.out.2.1
     have f0 := zf 0
     have f1 := zf 1
     have f2 := zf 2
     have f3 := zf 3
     have f4 := zf 4
     have f5 := zf 5
     clear zf
     go_wp2_with fail
     refine bodyPost_ret (v := .tuple #[.agg #[.int .i64 0, .int .i64 0, .bool false, .slice none 0 0, .slice none 0 0, .int .i64 0], .int .i64 9]) (by simp [results, Tryz.results108, go_sem, z0, z1, z2, z3, z4, z5]) rfl ?_
     rw [HIl.out]
     exact mrL_ill (show OnW w _ from below6 HKp.out.1.be (Nat.le_refl _) _ _ _ _ _ _)
  ·have HIl : Hid (illB c l p pp fe xs m = true) := Lib.hid (by unfold illB; rw [hfb, Bool.true_or])
   clear hfb
   obtain ⟨zl, z0, z1, z2, z3, z4, z5, zf⟩ := HZ2.out
   have f0 := zf 0
   have f1 := zf 1
   have f2 := zf 2
   have f3 := zf 3
   have f4 := zf 4
   have f5 := zf 5
   clear zf
   go_wp2_with fail
   refine bodyPost_ret (v := .tuple #[.agg #[.int .i64 0, .int .i64 0, .bool false, .slice none 0 0, .slice none 0 0, .int .i64 0], .int .i64 9]) (by simp [results, Tryz.results108, go_sem, z0, z1, z2, z3, z4, z5]) rfl ?_
   rw [HIl.out]
   exact mrL_ill (show OnW w _ from below6 HL.out.be (Nat.le_refl _) _ _ _ _ _ _)
/- Mk7 -/
def MmAt (w : World) (p s c l : Int) (st sk re fe ag : Bool) (player : Int) (s1 s2 : Option Addr) (sn1 sc1 sn2 sc2 : Nat) (sp sq : Int) (p1 p2 : Option Addr) (pn1 pc1 pn2 pc2 : Nat) (pp : Int) (t1 t2 : Option Addr) (tn1 tc1 tn2 tc2 : Nat) (tp tq : Int) (u : World) : Prop := (w.heap.size < u.heap.size ∧ u.cell? ⟨w.heap.size, 0, none⟩ = some (.int .i64 p) ∧ u.cell? ⟨w.heap.size, 1, none⟩ = some (.int .i64 s) ∧ u.cell? ⟨w.heap.size, 2, none⟩ = some (.bool st) ∧ u.cell? ⟨w.heap.size, 3, none⟩ = some (.bool sk) ∧ u.cell? ⟨w.heap.size, 4, none⟩ = some (.bool re) ∧ u.cell? ⟨w.heap.size, 5, none⟩ = some (.bool fe) ∧ u.cell? ⟨w.heap.size, 6, none⟩ = some (.bool ag) ∧ u.cell? ⟨w.heap.size, 7, none⟩ = some (.int .i64 c) ∧ u.cell? ⟨w.heap.size, 8, none⟩ = some (.int .i64 l) ∧ u.cell? ⟨w.heap.size, 9, none⟩ = some (.int .i64 player) ∧ u.cell? ⟨w.heap.size, 10, none⟩ = some (.slice s1 sn1 sc1) ∧ u.cell? ⟨w.heap.size, 11, none⟩ = some (.slice s2 sn2 sc2) ∧ u.cell? ⟨w.heap.size, 12, none⟩ = some (.int .i64 sp) ∧ u.cell? ⟨w.heap.size, 13, none⟩ = some (.int .i64 sq) ∧ u.cell? ⟨w.heap.size, 14, none⟩ = some (.slice p1 pn1 pc1) ∧ u.cell? ⟨w.heap.size, 15, none⟩ = some (.slice p2 pn2 pc2) ∧ u.cell? ⟨w.heap.size, 16, none⟩ = some (.int .i64 pp) ∧ u.cell? ⟨w.heap.size, 17, none⟩ = some (.slice t1 tn1 tc1) ∧ u.cell? ⟨w.heap.size, 18, none⟩ = some (.slice t2 tn2 tc2) ∧ u.cell? ⟨w.heap.size, 19, none⟩ = some (.int .i64 tp) ∧ u.cell? ⟨w.heap.size, 20, none⟩ = some (.int .i64 tq)) ∧ Below w.heap.size w u
section
variable {w u v : World} {p s c l player : Int} {st sk re fe ag : Bool} {s1 s2 : Option Addr} {sn1 sc1 sn2 sc2 : Nat} {sp sq : Int} {p1 p2 : Option Addr} {pn1 pc1 pn2 pc2 : Nat} {pp : Int} {t1 t2 : Option Addr} {tn1 tc1 tn2 tc2 : Nat} {tp tq : Int}
theorem MmAt.below (h : MmAt w p s c l st sk re fe ag player s1 s2 sn1 sc1 sn2 sc2 sp sq p1 p2 pn1 pc1 pn2 pc2 pp t1 t2 tn1 tc1 tn2 tc2 tp tq u) (k : Below u.heap.size u v) : MmAt w p s c l st sk re fe ag player s1 s2 sn1 sc1 sn2 sc2 sp sq p1 p2 pn1 pc1 pn2 pc2 pp t1 t2 tn1 tc1 tn2 tc2 tp tq v := by
 obtain ⟨⟨hb, h⟩, hw⟩ := h
 have e := fun o => k.cell (p := ⟨w.heap.size, o, none⟩) hb
 exact ⟨⟨Nat.lt_of_lt_of_le hb k.size, by rw [e, e, e, e, e, e, e, e, e, e, e, e, e, e, e, e, e, e, e, e, e]; exact h⟩, hw.trans (k.mono hw.size)⟩
theorem MmAt.drew (h : MmAt w p s c l st sk re fe ag player s1 s2 sn1 sc1 sn2 sc2 sp sq p1 p2 pn1 pc1 pn2 pc2 pp t1 t2 tn1 tc1 tn2 tc2 tp tq u) : MmAt w p s c l st sk re fe ag player s1 s2 sn1 sc1 sn2 sc2 sp sq p1 p2 pn1 pc1 pn2 pc2 pp t1 t2 tn1 tc1 tn2 tc2 tp tq u.drew := ⟨h.1, h.2.drew⟩
theorem MmAt.range (h : MmAt w p s c l st sk re fe ag player s1 s2 sn1 sc1 sn2 sc2 sp sq p1 p2 pn1 pc1 pn2 pc2 pp t1 t2 tn1 tc1 tn2 tc2 tp tq u) : u.rangeAt w.heap.size 0 [.int .i64 p, .int .i64 s, .bool st, .bool sk, .bool re, .bool fe, .bool ag, .int .i64 c, .int .i64 l, .int .i64 player, .slice s1 sn1 sc1, .slice s2 sn2 sc2, .int .i64 sp, .int .i64 sq, .slice p1 pn1 pc1, .slice p2 pn2 pc2, .int .i64 pp, .slice t1 tn1 tc1, .slice t2 tn2 tc2, .int .i64 tp, .int .i64 tq] := by
 obtain ⟨⟨_, m0, m1, m2, m3, m4, m5, m6, m7, m8, m9, m10, m11, m12, m13, m14, m15, m16, m17, m18, m19, m20⟩, -⟩ := h
 intro j v hj
 match j, hj with
 | 0, hj => cases hj; exact m0
 | 1, hj => cases hj; exact m1
 | 2, hj => cases hj; exact m2
 | 3, hj => cases hj; exact m3
 | 4, hj => cases hj; exact m4
 | 5, hj => cases hj; exact m5
 | 6, hj => cases hj; exact m6
 | 7, hj => cases hj; exact m7
 | 8, hj => cases hj; exact m8
 | 9, hj => cases hj; exact m9
 | 10, hj => cases hj; exact m10
 | 11, hj => cases hj; exact m11
 | 12, hj => cases hj; exact m12
 | 13, hj => cases hj; exact m13
 | 14, hj => cases hj; exact m14
 | 15, hj => cases hj; exact m15
 | 16, hj => cases hj; exact m16
 | 17, hj => cases hj; exact m17
 | 18, hj => cases hj; exact m18
 | 19, hj => cases hj; exact m19
 | 20, hj => cases hj; exact m20
 | n + 21, hj => simp at hj
theorem MmAt.be (h : MmAt w p s c l st sk re fe ag player s1 s2 sn1 sc1 sn2 sc2 sp sq p1 p2 pn1 pc1 pn2 pc2 pp t1 t2 tn1 tc1 tn2 tc2 tp tq u) : Below w.heap.size w u := h.2
end
theorem mm_new (p s c l : Int) (st sk re fe ag : Bool) (player : Int) (s1 s2 : Option Addr) (sn1 sc1 sn2 sc2 : Nat) (sp sq : Int) (p1 p2 : Option Addr) (pn1 pc1 pn2 pc2 : Nat) (pp : Int) (t1 t2 : Option Addr) (tn1 tc1 tn2 tc2 : Nat) (tp tq : Int) (w : World) (T : TypeId) : MmAt w p s c l st sk re fe ag player s1 s2 sn1 sc1 sn2 sc2 sp sq p1 p2 pn1 pc1 pn2 pc2 pp t1 t2 tn1 tc1 tn2 tc2 tp tq (w.alloc (.cells #[.int .i64 p, .int .i64 s, .bool st, .bool sk, .bool re, .bool fe, .bool ag, .int .i64 c, .int .i64 l, .int .i64 player, .slice s1 sn1 sc1, .slice s2 sn2 sc2, .int .i64 sp, .int .i64 sq, .slice p1 pn1 pc1, .slice p2 pn2 pc2, .int .i64 pp, .slice t1 tn1 tc1, .slice t2 tn2 tc2, .int .i64 tp, .int .i64 tq] T)) :=
 ⟨⟨by simp, by go_simp, by go_simp, by go_simp, by go_simp, by go_simp, by go_simp, by go_simp, by go_simp, by go_simp, by go_simp, by go_simp, by go_simp, by go_simp, by go_simp, by go_simp, by go_simp, by go_simp, by go_simp, by go_simp, by go_simp, by go_simp⟩, (Below.refl _ _).alloc (Nat.le_refl _) _⟩
theorem again_any (p s c l : Int) (st sk re fe ag : Bool) (player : Int) (s1 s2 : Option Addr) (sn1 sc1 sn2 sc2 : Nat) (sp sq : Int) (p1 p2 : Option Addr) (pn1 pc1 pn2 pc2 : Nat) (pp : Int) (t1 t2 : Option Addr) (tn1 tc1 tn2 tc2 : Nat) (tp tq : Int) (w : World) :
  Calls Tryz.prog 144 #[.agg #[.int .i64 p, .int .i64 s, .bool st, .bool sk, .bool re, .bool fe, .bool ag, .int .i64 c, .int .i64 l, .int .i64 player, .slice s1 sn1 sc1, .slice s2 sn2 sc2, .int .i64 sp, .int .i64 sq, .slice p1 pn1 pc1, .slice p2 pn2 pc2, .int .i64 pp, .slice t1 tn1 tc1, .slice t2 tn2 tc2, .int .i64 tp, .int .i64 tq]] w fun e w' => e = .returned (.bool (ag && decide (sp = -1))) ∧ Below w.heap.size w w' := by
 have HX := Lib.hid (mm_new p s c l st sk re fe ag player s1 s2 sn1 sc1 sn2 sc2 sp sq p1 p2 pn1 pc1 pn2 pc2 pp t1 t2 tn1 tc1 tn2 tc2 tp tq w 125)
 by_cases h : sp = -1
 ·have d : (sp == -1) = true := by simpa using h
  rw [decide_eq_true h]
  clear h
  cases ag
  all_goals
   go_enter Tryz.func144, Tryz.ntmps144
   go_wp2_with fail
   go_ret
   exact ⟨rfl, HX.out.be⟩
 ·have d : (sp == -1) = false := by simpa using h
  rw [decide_eq_false h]
  clear h
  cases ag
  all_goals
   go_enter Tryz.func144, Tryz.ntmps144
   go_wp2_with fail
   go_ret
   exact ⟨rfl, HX.out.be⟩
theorem nextM_any (p s c l : Int) (st sk re fe ag : Bool) (player : Int) (s1 s2 : Option Addr) (sn1 sc1 sn2 sc2 : Nat) (sp sq : Int) (p1 p2 : Option Addr) (pn1 pc1 pn2 pc2 : Nat) (pp : Int) (t1 t2 : Option Addr) (tn1 tc1 tn2 tc2 : Nat) (tp tq : Int) (w : World) (hpl : player = 0 ∨ player = 1) :
  Calls Tryz.prog 111 #[.agg #[.int .i64 p, .int .i64 s, .bool st, .bool sk, .bool re, .bool fe, .bool ag, .int .i64 c, .int .i64 l, .int .i64 player, .slice s1 sn1 sc1, .slice s2 sn2 sc2, .int .i64 sp, .int .i64 sq, .slice p1 pn1 pc1, .slice p2 pn2 pc2, .int .i64 pp, .slice t1 tn1 tc1, .slice t2 tn2 tc2, .int .i64 tp, .int .i64 tq]] w fun e w' => e = .returned (.agg #[.slice t1 tn1 tc1, .slice t2 tn2 tc2, .int .i64 (if ag && decide (sp = -1) then player else 1 - player)]) ∧ Below w.heap.size w w' := by
 have HX := Lib.hid ((mm_new p s c l st sk re fe ag player s1 s2 sn1 sc1 sn2 sc2 sp sq p1 p2 pn1 pc1 pn2 pc2 pp t1 t2 tn1 tc1 tn2 tc2 tp tq w 125).below (al1 _ (.cells #[.slice none 0 0, .slice none 0 0, .int .i64 0] 33)))
 have HZ := Lib.hid (show ZeroP _ (w.heap.size + 1) from by have := zero_new (w.alloc (.cells #[.int .i64 p, .int .i64 s, .bool st, .bool sk, .bool re, .bool fe, .bool ag, .int .i64 c, .int .i64 l, .int .i64 player, .slice s1 sn1 sc1, .slice s2 sn2 sc2, .int .i64 sp, .int .i64 sq, .slice p1 pn1 pc1, .slice p2 pn2 pc2, .int .i64 pp, .slice t1 tn1 tc1, .slice t2 tn2 tc2, .int .i64 tp, .int .i64 tq] 125)) 33; simpa using this)
 have HAg : Hid (∀ u, Calls Tryz.prog 144 #[.agg #[.int .i64 p, .int .i64 s, .bool st, .bool sk, .bool re, .bool fe, .bool ag, .int .i64 c, .int .i64 l, .int .i64 player, .slice s1 sn1 sc1, .slice s2 sn2 sc2, .int .i64 sp, .int .i64 sq, .slice p1 pn1 pc1, .slice p2 pn2 pc2, .int .i64 pp, .slice t1 tn1 tc1, .slice t2 tn2 tc2, .int .i64 tp, .int .i64 tq]] u fun e w' => e = .returned (.bool (ag && decide (sp = -1))) ∧ Below u.heap.size u w') := Lib.hid (fun u => again_any p s c l st sk re fe ag player s1 s2 sn1 sc1 sn2 sc2 sp sq p1 p2 pn1 pc1 pn2 pc2 pp t1 t2 tn1 tc1 tn2 tc2 tp tq u)
 have hw1 : IntKind.i64.wrap (1 - player) = 1 - player := IntWalk.i64_in _ ⟨by omega, by omega⟩
 generalize (ag && decide (sp = -1)) = b at *
 cases b
 all_goals
  go_enter Tryz.func111, Tryz.ntmps111
  go_upto_region 1 with fail
  generalize (w.alloc (.cells #[.int .i64 p, .int .i64 s, .bool st, .bool sk, .bool re, .bool fe, .bool ag, .int .i64 c, .int .i64 l, .int .i64 player, .slice s1 sn1 sc1, .slice s2 sn2 sc2, .int .i64 sp, .int .i64 sq, .slice p1 pn1 pc1, .slice p2 pn2 pc2, .int .i64 pp, .slice t1 tn1 tc1, .slice t2 tn2 tc2, .int .i64 tp, .int .i64 tq] 125)).alloc (.cells #[.slice none 0 0, .slice none 0 0, .int .i64 0] 33) = u0 at *
  go_wp2_with (refine wpList_load_mid rfl 125 _ rfl w.heap.size 0 rfl _ _ (MmAt.range HX.out) Tryz.underlying125 rfl (by kernel_rfl) ?_)
  refine (HAg.out _).mono ?_
  rintro e u ⟨rfl, hb⟩
  have HX := Lib.hid (HX.out.below hb)
  have HZ := Lib.hid (HZ.out.below hb)
  clear hb
  obtain ⟨⟨_, -, -, -, -, -, -, -, -, -, m9, -, -, -, -, -, -, -, m17, m18, m19, m20⟩, -⟩ := HX.out
  go_wp2_with fail
  refine (position_any t1 t2 tn1 tc1 tn2 tc2 tp tq _ _).mono ?_
  rintro e u2 ⟨rfl, hb⟩
  have HX := Lib.hid (HX.out.below hb)
  have HZ := Lib.hid (HZ.out.below hb)
  obtain ⟨zl, z0, z1, z2, zf⟩ := HZ.out
  have f0 := zf 0
  have f1 := zf 1
  have f2 := zf 2
  clear hb zf m9 m17 m18 m19 m20
  go_wp2_with fail
  refine bodyPost_ret (v := .agg #[.slice t1 tn1 tc1, .slice t2 tn2 tc2, .int .i64 _]) (by simp [results, Tryz.results111, go_sem, z0, z1, z2]) rfl ⟨rfl, ?_⟩
  exact (((HX.out.be.setCell (p := ⟨w.heap.size + 1, 0, none⟩) (Nat.le_succ _) _).setCell (p := ⟨w.heap.size + 1, 1, none⟩) (Nat.le_succ _) _).setCell (p := ⟨w.heap.size + 1, 2, none⟩) (Nat.le_succ _) _)
theorem gain_any (p s c l : Int) (st sk re fe ag : Bool) (player : Int) (s1 s2 : Option Addr) (sn1 sc1 sn2 sc2 : Nat) (sp sq : Int) (p1 p2 : Option Addr) (pn1 pc1 pn2 pc2 : Nat) (pp : Int) (t1 t2 : Option Addr) (tn1 tc1 tn2 tc2 : Nat) (tp tq : Int) (vs ys : List Int) (w : World) (hpl : player = 0 ∨ player = 1) (ht : RowN w t2 vs) (hp : RowN w p2 ys) (lt : vs.length = tn2) (lp : ys.length = pn2) (ht2 : tn2 = 2) (hp2 : pn2 = 2)
  (hv : 0 ≤ vs.getD player.toNat 0 ∧ vs.getD player.toNat 0 ≤ 1000000) (hy : 0 ≤ ys.getD player.toNat 0 ∧ ys.getD player.toNat 0 ≤ 1000000) :
  Calls Tryz.prog 171 #[.agg #[.int .i64 p, .int .i64 s, .bool st, .bool sk, .bool re, .bool fe, .bool ag, .int .i64 c, .int .i64 l, .int .i64 player, .slice s1 sn1 sc1, .slice s2 sn2 sc2, .int .i64 sp, .int .i64 sq, .slice p1 pn1 pc1, .slice p2 pn2 pc2, .int .i64 pp, .slice t1 tn1 tc1, .slice t2 tn2 tc2, .int .i64 tp, .int .i64 tq]] w fun e w' => e = .returned (.int .i64 (vs.getD player.toNat 0 - ys.getD player.toNat 0)) ∧ Below w.heap.size w w' := by
 obtain ⟨P, rfl⟩ : ∃ P : Nat, player = (P : Int) := ⟨player.toNat, by omega⟩
 rw [Int.toNat_natCast] at *
 subst ht2
 subst hp2
 have HX := Lib.hid (mm_new p s c l st sk re fe ag (P : Int) s1 s2 sn1 sc1 sn2 sc2 sp sq p1 p2 pn1 pc1 2 pc2 pp t1 t2 tn1 tc1 2 tc2 tp tq w 125)
 have hx : vs[P]? = some (vs.getD P 0) := getD_at (by omega)
 have hz : ys[P]? = some (ys.getD P 0) := getD_at (by omega)
 obtain ⟨g, o, rfl, hgl, hcs⟩ := ht.2.resolve_left (by intro e; subst e; cases hx)
 obtain ⟨g', o', rfl, hgl', hcs'⟩ := hp.2.resolve_left (by intro e; subst e; cases hz)
 have hc0 := hcs _ _ hx
 have hc1 := hcs' _ _ hz
 clear hcs hcs'
 have z0 : (0 : Int) ≤ (P : Int) := by omega
 have z1 : (P : Int) < 2 := by omega
 generalize vs.getD P 0 = v at *
 generalize ys.getD P 0 = y at *
 obtain ⟨hv0, hv1⟩ := hv
 obtain ⟨hy0, hy1⟩ := hy
 have hw1 : IntKind.i64.wrap (v - y) = v - y := IntWalk.i64_in _ ⟨by omega, by omega⟩
 clear hx hz ht hp hpl
 have Hc0 : Hid (∀ u, Below w.heap.size w u → u.cell? ⟨g, o + P, none⟩ = some (.int .i64 v)) := Lib.hid (fun u hu => (hu.cell (p := ⟨g, o + P, none⟩) hgl).trans hc0)
 have Hc1 : Hid (∀ u, Below w.heap.size w u → u.cell? ⟨g', o' + P, none⟩ = some (.int .i64 y)) := Lib.hid (fun u hu => (hu.cell (p := ⟨g', o' + P, none⟩) hgl').trans hc1)
 clear hc0 hc1
 go_enter Tryz.func171, Tryz.ntmps171
 go_upto_region 1 with fail
 generalize w.alloc (.cells #[.int .i64 p, .int .i64 s, .bool st, .bool sk, .bool re, .bool fe, .bool ag, .int .i64 c, .int .i64 l, .int .i64 P, .slice s1 sn1 sc1, .slice s2 sn2 sc2, .int .i64 sp, .int .i64 sq, .slice p1 pn1 pc1, .slice (some ⟨g', o', none⟩) 2 pc2, .int .i64 pp, .slice t1 tn1 tc1, .slice (some ⟨g, o, none⟩) 2 tc2, .int .i64 tp, .int .i64 tq] 125) = u0 at *
 obtain ⟨⟨_, -, -, -, -, -, -, -, -, -, m9, -, -, -, -, -, m15, -, -, m18, -, -⟩, -⟩ := HX.out
 have q0 := Hc0.out _ HX.out.be
 have q1 := Hc1.out _ HX.out.be
 go_wp2_with fail
 go_quiet (fail)
 go_wp2_with fail
 go_ret
 exact ⟨rfl, below_dn HX.out.be _⟩
theorem fbS_any (p s c l : Int) (st sk re fe ag : Bool) (player : Int) (s1 s2 : Option Addr) (sn1 sc1 sn2 sc2 : Nat) (sp sq : Int) (p1 p2 : Option Addr) (pn1 pc1 pn2 pc2 : Nat) (pp : Int) (t1 t2 : Option Addr) (tn1 tc1 tn2 tc2 : Nat) (tp tq : Int) (xs ys : List Int) (w : World) (h : PosR w s1 s2 sn1 sn2 xs ys) (g : Good p s c l st sk re fe ag player sn1 sn2 sp xs ys) (hcap : sn1 ≤ sc1) :
  Calls Tryz.prog 142 #[.agg #[.int .i64 p, .int .i64 s, .bool st, .bool sk, .bool re, .bool fe, .bool ag, .int .i64 c, .int .i64 l, .int .i64 player, .slice s1 sn1 sc1, .slice s2 sn2 sc2, .int .i64 sp, .int .i64 sq, .slice p1 pn1 pc1, .slice p2 pn2 pc2, .int .i64 pp, .slice t1 tn1 tc1, .slice t2 tn2 tc2, .int .i64 tp, .int .i64 tq]] w fun e w' => e = .returned (.bool (decide (l = 1) && slamF c p player sp xs)) ∧ Below w.heap.size w w' := by
 have HX := Lib.hid (mm_new p s c l st sk re fe ag player s1 s2 sn1 sc1 sn2 sc2 sp sq p1 p2 pn1 pc1 pn2 pc2 pp t1 t2 tn1 tc1 tn2 tc2 tp tq w 125)
 have H0 := Lib.hid h
 have G := Lib.hid g
 have Hcap := Lib.hid hcap
 have HRaw : Hid (∀ u, Below w.heap.size w u → Calls Tryz.prog 165 #[.agg #[.int .i64 p, .int .i64 s, .bool st, .bool sk, .bool re, .bool fe, .bool ag, .int .i64 c, .int .i64 l, .int .i64 player, .slice s1 sn1 sc1, .slice s2 sn2 sc2, .int .i64 sp, .int .i64 sq]] u (OwnP (rawF c p player sp xs) (rawF c p player sp xs).length u)) := Lib.hid (fun u hu => rawI_any p s c l st sk re fe ag player _ _ _ _ _ _ _ _ xs ys u (h.below hu) g)
 have HLn : Hid ((rawF c p player sp xs).length ≤ 1000) := Lib.hid (by have := raw_len (cp := c) (pl := player) (xs := xs) g.p2.2 g.p2.1 g.l2; omega)
 have HRin := Lib.hid (g.raw c)
 have hsf : slamF c p player sp xs = slamB p player xs (rawF c p player sp xs) := rfl
 rw [hsf]
 generalize rawF c p player sp xs = L at *
 clear h g hcap hsf
 by_cases hl : l = 1
 ·subst hl
  rw [decide_eq_true rfl]
  go_enter Tryz.func142, Tryz.ntmps142
  go_upto_region 1 with fail
  generalize w.alloc (.cells #[.int .i64 p, .int .i64 s, .bool st, .bool sk, .bool re, .bool fe, .bool ag, .int .i64 c, .int .i64 1, .int .i64 player, .slice s1 sn1 sc1, .slice s2 sn2 sc2, .int .i64 sp, .int .i64 sq, .slice p1 pn1 pc1, .slice p2 pn2 pc2, .int .i64 pp, .slice t1 tn1 tc1, .slice t2 tn2 tc2, .int .i64 tp, .int .i64 tq] 125) = u0 at *
  have HT : Hid (∀ u : World, MmAt w p s c 1 st sk re fe ag player s1 s2 sn1 sc1 sn2 sc2 sp sq p1 p2 pn1 pc1 pn2 pc2 pp t1 t2 tn1 tc1 tn2 tc2 tp tq u → (w.heap.size < u.heap.size ∧ u.cell? ⟨w.heap.size, 0, none⟩ = some (.int .i64 p) ∧ u.cell? ⟨w.heap.size, 1, none⟩ = some (.int .i64 s) ∧ u.cell? ⟨w.heap.size, 2, none⟩ = some (.bool st) ∧ u.cell? ⟨w.heap.size, 3, none⟩ = some (.bool sk) ∧ u.cell? ⟨w.heap.size, 4, none⟩ = some (.bool re) ∧ u.cell? ⟨w.heap.size, 5, none⟩ = some (.bool fe) ∧ u.cell? ⟨w.heap.size, 6, none⟩ = some (.bool ag) ∧ u.cell? ⟨w.heap.size, 7, none⟩ = some (.int .i64 c) ∧ u.cell? ⟨w.heap.size, 8, none⟩ = some (.int .i64 1) ∧ u.cell? ⟨w.heap.size, 9, none⟩ = some (.int .i64 player) ∧ u.cell? ⟨w.heap.size, 10, none⟩ = some (.slice s1 sn1 sc1) ∧ u.cell? ⟨w.heap.size, 11, none⟩ = some (.slice s2 sn2 sc2) ∧ u.cell? ⟨w.heap.size, 12, none⟩ = some (.int .i64 sp) ∧ u.cell? ⟨w.heap.size, 13, none⟩ = some (.int .i64 sq)) ∧ Below w.heap.size w u) := Lib.hid (fun u h => ⟨⟨h.1.1, h.1.2.1, h.1.2.2.1, h.1.2.2.2.1, h.1.2.2.2.2.1, h.1.2.2.2.2.2.1, h.1.2.2.2.2.2.2.1, h.1.2.2.2.2.2.2.2.1, h.1.2.2.2.2.2.2.2.2.1, h.1.2.2.2.2.2.2.2.2.2.1, h.1.2.2.2.2.2.2.2.2.2.2.1, h.1.2.2.2.2.2.2.2.2.2.2.2.1, h.1.2.2.2.2.2.2.2.2.2.2.2.2.1, h.1.2.2.2.2.2.2.2.2.2.2.2.2.2.1, h.1.2.2.2.2.2.2.2.2.2.2.2.2.2.2.1⟩, h.2⟩)
  go_wp2_with fail
  go_region_held3 (fun u => (w.heap.size < u.heap.size ∧ u.cell? ⟨w.heap.size, 0, none⟩ = some (.int .i64 p) ∧ u.cell? ⟨w.heap.size, 1, none⟩ = some (.int .i64 s) ∧ u.cell? ⟨w.heap.size, 2, none⟩ = some (.bool st) ∧ u.cell? ⟨w.heap.size, 3, none⟩ = some (.bool sk) ∧ u.cell? ⟨w.heap.size, 4, none⟩ = some (.bool re) ∧ u.cell? ⟨w.heap.size, 5, none⟩ = some (.bool fe) ∧ u.cell? ⟨w.heap.size, 6, none⟩ = some (.bool ag) ∧ u.cell? ⟨w.heap.size, 7, none⟩ = some (.int .i64 c) ∧ u.cell? ⟨w.heap.size, 8, none⟩ = some (.int .i64 1) ∧ u.cell? ⟨w.heap.size, 9, none⟩ = some (.int .i64 player) ∧ u.cell? ⟨w.heap.size, 10, none⟩ = some (.slice s1 sn1 sc1) ∧ u.cell? ⟨w.heap.size, 11, none⟩ = some (.slice s2 sn2 sc2) ∧ u.cell? ⟨w.heap.size, 12, none⟩ = some (.int .i64 sp) ∧ u.cell? ⟨w.heap.size, 13, none⟩ = some (.int .i64 sq)) ∧ Below w.heap.size w u) (first | with_reducible exact HT.out _ HX.out | with_reducible exact HT.out _ HX.out.drew)
   (first
   | (go_at_call 165; (with_reducible refine (HRaw.out _ ?_).mono ?_); (first | with_reducible exact HX.out.be | with_reducible exact HX.out.drew.be); rintro e w5 ⟨v5, rfl, hown, hb5⟩; obtain ⟨a5, cc5, rfl, hr5⟩ := own_slice hown rfl HLn.out; have HR5 := Lib.hid hr5; (first | with_reducible have HX := Lib.hid (HX.out.below hb5) | with_reducible have HX := Lib.hid (HX.out.drew.below hb5)); clear hown hr5 hb5)
   | (go_at_call 164; refine (isSlam_any p s c 1 st sk re fe ag player s1 s2 sn1 sc1 sn2 sc2 sp sq xs ys _ a5 cc5 _ _ (H0.out.below (by first | exact HX.out.be | exact HX.out.drew.be)) G.out.q1 G.out.t1 G.out.p2 G.out.n1 G.out.pl HRin.out rfl HLn.out (by first | exact HR5.out | exact HR5.out.drewN 1) Hcap.out).mono ?_; rintro e w6 ⟨rfl, hb6⟩; have HX := Lib.hid (by first | exact HX.out.below hb6 | exact HX.out.drew.below hb6 : MmAt w p s c 1 st sk re fe ag player s1 s2 sn1 sc1 sn2 sc2 sp sq p1 p2 pn1 pc1 pn2 pc2 pp t1 t2 tn1 tc1 tn2 tc2 tp tq w6); clear hb6))
  go_wp2_with fail
  go_ret
  exact ⟨rfl, HX.out.be⟩
 ·have d : (l == 1) = false := by simpa using hl
  rw [decide_eq_false hl]
  clear hl
  go_enter Tryz.func142, Tryz.ntmps142
  go_upto_region 1 with fail
  generalize w.alloc (.cells #[.int .i64 p, .int .i64 s, .bool st, .bool sk, .bool re, .bool fe, .bool ag, .int .i64 c, .int .i64 l, .int .i64 player, .slice s1 sn1 sc1, .slice s2 sn2 sc2, .int .i64 sp, .int .i64 sq, .slice p1 pn1 pc1, .slice p2 pn2 pc2, .int .i64 pp, .slice t1 tn1 tc1, .slice t2 tn2 tc2, .int .i64 tp, .int .i64 tq] 125) = u0 at *
  obtain ⟨⟨_, -, -, -, -, -, -, -, -, m8, -, -, -, -, -, -, -, -, -, -, -, -⟩, -⟩ := HX.out
  go_wp2_with fail
  go_quiet (fail)
  go_wp2_with fail
  go_ret
  exact ⟨rfl, below_dn HX.out.be _⟩
/- Mk8 -/
theorem fbF_any (p s c l : Int) (st sk re fe ag : Bool) (player : Int) (s1 s2 : Option Addr) (sn1 sc1 sn2 sc2 : Nat) (sp sq : Int) (p1 p2 : Option Addr) (pn1 pc1 pn2 pc2 : Nat) (pp : Int) (t1 t2 : Option Addr) (tn1 tc1 tn2 tc2 : Nat) (tp tq : Int) (xs ys txs : List Int) (w : World) (h : PosR w p1 p2 pn1 pn2 xs ys) (hk : okP (okR p s c l st ag) p pn1 pn2 pp xs ys = true) (hcap : pn1 ≤ pc1) (ht : RowN w t1 txs) (hl : txs.length = tn1) (hn : (tn1 : Int) = 2 * p) (hq : posB txs = true) (hs : tot txs ≤ 96) (hc2 : tn1 ≤ tc1) (hpl : player = pp) :
    Calls Tryz.prog 143 #[.agg #[.int .i64 p, .int .i64 s, .bool st, .bool sk, .bool re, .bool fe, .bool ag, .int .i64 c, .int .i64 l, .int .i64 player, .slice s1 sn1 sc1, .slice s2 sn2 sc2, .int .i64 sp, .int .i64 sq, .slice p1 pn1 pc1, .slice p2 pn2 pc2, .int .i64 pp, .slice t1 tn1 tc1, .slice t2 tn2 tc2, .int .i64 tp, .int .i64 tq]] w fun e w' => e = .returned (.bool ((fe && noneO p pp xs) && noneO p player txs)) ∧ Below w.heap.size w w' := by
  have HX := Lib.hid (mm_new p s c l st sk re fe ag player s1 s2 sn1 sc1 sn2 sc2 sp sq p1 p2 pn1 pc1 pn2 pc2 pp t1 t2 tn1 tc1 tn2 tc2 tp tq w 125)
  have HF : Hid (∀ u, Below w.heap.size w u → Calls Tryz.prog 166 #[.agg #[.int .i64 p, .int .i64 s, .bool st, .bool sk, .bool re, .bool fe, .bool ag, .int .i64 c, .int .i64 l], .agg #[.slice p1 pn1 pc1, .slice p2 pn2 pc2, .int .i64 pp]] u fun e w' => e = .returned (.bool (fe && noneO p pp xs)) ∧ Below u.heap.size u w') := Lib.hid (fun u hu => implFeed_any p s c l st sk re fe ag p1 p2 pn1 pc1 pn2 pc2 pp xs ys u (h.below hu) hcap true hk)
  obtain ⟨f1, -, f3, -, -⟩ := feed_parts p s c l st sk re fe ag hk
  have HO : Hid (∀ u, Below w.heap.size w u → Calls Tryz.prog 167 #[.agg #[.slice t1 tn1 tc1, .slice t2 tn2 tc2, .int .i64 player], .agg #[.int .i64 p, .int .i64 s, .bool st, .bool sk, .bool re, .bool fe, .bool ag, .int .i64 c, .int .i64 l]] u fun e w' => e = .returned (.bool (noneO p player txs)) ∧ Below u.heap.size u w') := Lib.hid (fun u hu => other_any p s c l st sk re fe ag t1 t2 tn1 tc1 tn2 tc2 player txs u hl (ht.below hu) f1 hn (by rw [hpl]; exact f3) hq hs hc2)
  generalize hb1 : (fe && noneO p pp xs) = b1 at *
  generalize hb2 : noneO p player txs = b2 at *
  clear h hk hcap ht hl hn hq hs hc2 hpl f1 f3 hb1 hb2
  cases b1
  all_goals
    go_enter Tryz.func143, Tryz.ntmps143
    go_upto_region 1 with fail
    generalize w.alloc (.cells #[.int .i64 p, .int .i64 s, .bool st, .bool sk, .bool re, .bool fe, .bool ag, .int .i64 c, .int .i64 l, .int .i64 player, .slice s1 sn1 sc1, .slice s2 sn2 sc2, .int .i64 sp, .int .i64 sq, .slice p1 pn1 pc1, .slice p2 pn2 pc2, .int .i64 pp, .slice t1 tn1 tc1, .slice t2 tn2 tc2, .int .i64 tp, .int .i64 tq] 125) = u0 at *
    go_wp2_with fail
    apply region_class (MmAt w p s c l st sk re fe ag player s1 s2 sn1 sc1 sn2 sc2 sp sq p1 p2 pn1 pc1 pn2 pc2 pp t1 t2 tn1 tc1 tn2 tc2 tp tq) (by kernel_rfl) (by kernel_rfl) (HX.out.drew)
    repeat (first
      | (apply step_skip (by rfl)
         simp only [Act.put, List.setIfInBounds_toArray, List.set_cons_zero, List.set_cons_succ])
      | (apply step_val (by rfl)
         · intro u hu
           obtain ⟨⟨_, m0, m1, m2, m3, m4, m5, m6, m7, m8, m9, m10, m11, m12, m13, m14, m15, m16, m17, m18, m19, m20⟩, _⟩ := hu
           go_simp
           try with_reducible rfl
         simp only [Act.put, List.setIfInBounds_toArray, List.set_cons_zero, List.set_cons_succ])
      | (apply step_call (by rfl)
         · intro u
           go_simp
           exact ⟨rfl, rfl⟩
         · intro u hu
           (with_reducible refine (HF.out _ hu.be).mono ?_); (rintro e u' ⟨rfl, hb5⟩; exact ⟨rfl, hu.below hb5⟩)
         simp only [Act.put, List.setIfInBounds_toArray, List.set_cons_zero, List.set_cons_succ])
      | (apply step_call (by rfl)
         · intro u
           go_simp
           exact ⟨rfl, rfl⟩
         · intro u hu
           (with_reducible refine (position_any t1 t2 tn1 tc1 tn2 tc2 tp tq player _).mono ?_); (rintro e u' ⟨rfl, hb5⟩; exact ⟨rfl, hu.below hb5⟩)
         simp only [Act.put, List.setIfInBounds_toArray, List.set_cons_zero, List.set_cons_succ])
      | (apply step_call (by rfl)
         · intro u
           go_simp
           exact ⟨rfl, rfl⟩
         · intro u hu
           (with_reducible refine (HO.out _ hu.be).mono ?_); (rintro e u' ⟨rfl, hb5⟩; exact ⟨rfl, hu.below hb5⟩)
         simp only [Act.put, List.setIfInBounds_toArray, List.set_cons_zero, List.set_cons_succ]))
    apply step_nil
    intro w5 hs5
    have HS5 := Lib.hid hs5
    clear hs5
    go_wp2_with fail
    go_ret
    exact ⟨rfl, HS5.out.be⟩
/- Mk9 -/
structure ThN (n : Nat) (u : World) (b : Nat) : Prop where
 lt : b < u.heap.size
 th : u.there b 0 n
theorem ThN.below {n : Nat} {u v : World} {b : Nat} (h : ThN n u b) (k : Below u.heap.size u v) : ThN n v b := by
 refine ⟨Nat.lt_of_lt_of_le h.lt k.size, fun j hj => ?_⟩
 have := h.th j hj
 rw [k.cell (p := ⟨b, 0 + j, none⟩) h.lt, k.frozen (p := ⟨b, 0 + j, none⟩) h.lt]
 exact this
theorem below_sc {B : Nat} {a : World} (b : Nat) (hb : B ≤ b) : ∀ (vs : List Value) (o : Nat) {w : World}, Below B a w → Below B a (w.setCells b o vs)
 | [], _, _, h => h
 | v :: r, o, _, h => below_sc b hb r (o + 1) (h.setCell (p := ⟨b, o, none⟩) hb v)
def zero21 : List Value := [.int .i64 0, .int .i64 0, .bool false, .bool false, .bool false, .bool false, .bool false, .int .i64 0, .int .i64 0, .int .i64 0, .slice none 0 0, .slice none 0 0, .int .i64 0, .int .i64 0, .slice none 0 0, .slice none 0 0, .int .i64 0, .slice none 0 0, .slice none 0 0, .int .i64 0, .int .i64 0]
theorem zero21_one : zero21.toArray.all (·.oneCell') = true := all_oneCell_toArray (by unfold zero21; decide)
theorem thN_new (w : World) (T : TypeId) : ThN 21 (w.alloc (.cells zero21.toArray T)) w.heap.size := by
 refine ⟨by simp, fun j hj => ?_⟩
 match j, hj with
 | 0, _ => exact ⟨by unfold zero21; go_simp, by go_simp⟩
 | 1, _ => exact ⟨by unfold zero21; go_simp, by go_simp⟩
 | 2, _ => exact ⟨by unfold zero21; go_simp, by go_simp⟩
 | 3, _ => exact ⟨by unfold zero21; go_simp, by go_simp⟩
 | 4, _ => exact ⟨by unfold zero21; go_simp, by go_simp⟩
 | 5, _ => exact ⟨by unfold zero21; go_simp, by go_simp⟩
 | 6, _ => exact ⟨by unfold zero21; go_simp, by go_simp⟩
 | 7, _ => exact ⟨by unfold zero21; go_simp, by go_simp⟩
 | 8, _ => exact ⟨by unfold zero21; go_simp, by go_simp⟩
 | 9, _ => exact ⟨by unfold zero21; go_simp, by go_simp⟩
 | 10, _ => exact ⟨by unfold zero21; go_simp, by go_simp⟩
 | 11, _ => exact ⟨by unfold zero21; go_simp, by go_simp⟩
 | 12, _ => exact ⟨by unfold zero21; go_simp, by go_simp⟩
 | 13, _ => exact ⟨by unfold zero21; go_simp, by go_simp⟩
 | 14, _ => exact ⟨by unfold zero21; go_simp, by go_simp⟩
 | 15, _ => exact ⟨by unfold zero21; go_simp, by go_simp⟩
 | 16, _ => exact ⟨by unfold zero21; go_simp, by go_simp⟩
 | 17, _ => exact ⟨by unfold zero21; go_simp, by go_simp⟩
 | 18, _ => exact ⟨by unfold zero21; go_simp, by go_simp⟩
 | 19, _ => exact ⟨by unfold zero21; go_simp, by go_simp⟩
 | 20, _ => exact ⟨by unfold zero21; go_simp, by go_simp⟩
 | n + 21, h => exact absurd h (by omega)
theorem makeL_err (p s c l : Int) (st sk re fe ag : Bool) (p1 p2 : Option Addr) (pn1 pc1 pn2 pc2 : Nat) (pp : Int) (move cd : Int) (hcd : (cd == 0) = false) (w : World)
  (hC : ∀ u, Below w.heap.size w u → Calls Tryz.prog 140 #[.agg #[.int .i64 p, .int .i64 s, .bool st, .bool sk, .bool re, .bool fe, .bool ag, .int .i64 c, .int .i64 l], .agg #[.slice p1 pn1 pc1, .slice p2 pn2 pc2, .int .i64 pp], .int .i64 move] u (SoZ 0 0 0 0 cd [] [] u)) :
  Calls Tryz.prog 110 #[.agg #[.int .i64 p, .int .i64 s, .bool st, .bool sk, .bool re, .bool fe, .bool ag, .int .i64 c, .int .i64 l], .agg #[.slice p1 pn1 pc1, .slice p2 pn2 pc2, .int .i64 pp], .int .i64 move] w fun e w' => e = .returned (.tuple #[.agg zero21.toArray, .int .i64 cd]) ∧ Below w.heap.size w w' := by
 have HC := Lib.hid hC
 have HS := Lib.hid ((rp_new p s c l st sk re fe ag p1 p2 pn1 pc1 pn2 pc2 pp w 32 33).below (al1 _ (.cells zero21.toArray 125)))
 have HZ := Lib.hid (show ThN 21 _ (w.heap.size + 1 + 1) from by have := thN_new ((w.alloc (.cells #[.int .i64 p, .int .i64 s, .bool st, .bool sk, .bool re, .bool fe, .bool ag, .int .i64 c, .int .i64 l] 32)).alloc (.cells #[.slice p1 pn1 pc1, .slice p2 pn2 pc2, .int .i64 pp] 33)) 125; simpa using this)
 have hcd2 : (cd != 0) = true := by simpa [bne] using hcd
 clear hC
 go_enter Tryz.func110, Tryz.ntmps110
 go_wp2_with fail
 change Calls _ _ _ (((w.alloc (.cells #[.int .i64 p, .int .i64 s, .bool st, .bool sk, .bool re, .bool fe, .bool ag, .int .i64 c, .int .i64 l] 32)).alloc (.cells #[.slice p1 pn1 pc1, .slice p2 pn2 pc2, .int .i64 pp] 33)).alloc (.cells zero21.toArray 125)) _
 refine (HC.out _ HS.out.2.2).mono ?_
 generalize ((w.alloc (.cells #[.int .i64 p, .int .i64 s, .bool st, .bool sk, .bool re, .bool fe, .bool ag, .int .i64 c, .int .i64 l] 32)).alloc (.cells #[.slice p1 pn1 pc1, .slice p2 pn2 pc2, .int .i64 pp] 33)).alloc (.cells zero21.toArray 125) = u at *
 rintro e u2 ⟨a1, c1, b1, a2, c2, b2, rfl, -, -, -, -, -, hb⟩
 have HS := Lib.hid (HS.out.below hb)
 have HZ := Lib.hid (HZ.out.below hb)
 clear hb
 have HZA := Lib.hid ((HZ.out.below (al1 _ (.cells #[.slice a1 0 c1, .slice a2 0 c2, .int .i64 0, .int .i64 0] 121))).th)
 go_wp2_with (refine wpList_store_mid rfl 125 _ _ rfl (w.heap.size + 1 + 1) 0 zero21.toArray rfl rfl HZA.out (by kernel_rfl) zero21_one ?_)
 have hrun := run_loadVar_mid (P := Tryz.prog) _ (w.heap.size + 1 + 1) 0 125 zero21 _ (World.rangeAt_setCells_same _ (w.heap.size + 1 + 1) 0 zero21 HZA.out) Tryz.underlying125 rfl (by kernel_rfl)
 refine bodyPost_ret (v := .tuple #[.agg zero21.toArray, .int .i64 cd]) ?_ rfl ⟨rfl, ?_⟩
 ·simp [results, Tryz.results110, Result.andThen_ok, asAddr, hrun]
 ·exact below_sc (w.heap.size + 1 + 1) (by omega) zero21 0 (HS.out.below (al1 _ _)).2.2
end Go.Proofs.YtgbaneildbdgdaaGreat
