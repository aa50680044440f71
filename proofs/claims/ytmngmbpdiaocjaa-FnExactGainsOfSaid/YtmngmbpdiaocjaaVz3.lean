/- Steps5, Mov5, Mov6, End5, LawB4, Game1, Game2, Game3, one after the other (what the laws reach of them). No conditions. -/
import Derived.Test.YtmngmbpdiaocjaaVz2
import Derived.Sort.QuietIn
import Derived.Test.YtmngmbpdiaocjaaCode5
import Derived.Deep.MidRow
namespace Go.Proofs.Ytmngmbpdiaocjaa
open Go.Joins Go.ChangeShapes Go.WideShapes Go.ChangeAt Go.RowKit Go.Deep
set_option linter.unusedVariables false
set_option maxHeartbeats 8000000
set_option maxRecDepth 100000
/- Steps5 -/
open Go.RowKit Go.Shelf
attribute [local go_sem] Oper.semAt_some
def StepE (K : Cfg) (t : Int) (JJ : Stg → Nat → World → Prop) (Jx : World → Prop) (Z : World) : Prop :=
 (∃ s : Stg, s.Ok K.R t ∧ s.j < 100 ∧ agn K.R s.xs s.f = false ∧ JJ s s.n Z ∧ StW Z K s s.n (lst K.R s.xs s.f)) ∨ Jx Z
theorem steps_gives0 (n : Nat) (K : Cfg) (hpl : K.pl = 0) (hp : 2 ≤ K.p) (hp8 : K.p ≤ 8) (hn1 : (K.n1 : Int) = 2 * K.p) (t : Int) (l : Nat) (JJ : Stg → Nat → World → Prop) (Jx : World → Prop) (W : World) (s0 : Stg) (ha la : Int)
  (hS : SwS W K ha la 0 s0.xs s0.ys) (hfi : K.fi = s0.f) (hs0 : s0.Ok K.R t) (hj0 : s0.j = 0)
  (hJ : ∀ s i A Z, JJ s i A → Out W.heap.size K A Z → JJ s i Z)
  (hJx : ∀ A Z, Jx A → Below W.heap.size A Z → Jx Z)
  (hY : ∀ s i A, s.Ok K.R t → i < s.n → JJ s i A → StW A K s (i + 1) (K.R.at s.f i) → YieldAt Fence.wide (n - 1 - 1 - 1) Try.prog l #[.int .i64 (K.R.at s.f i)] A fun e Z =>
   (e = .returned (.bool true) ∧ s.j < 100 ∧ JJ s (i + 1) Z ∧ StW Z K s (i + 1) (K.R.at s.f i) ∧ Above W.heap.size A Z) ∨ (e = .returned (.bool false) ∧ Jx Z ∧ Above W.heap.size A Z))
  (hN : ∀ s A, s.Ok K.R t → s.j < 100 → agn K.R s.xs s.f = true → JJ s s.n A → JJ (s.next K.R) 0 A)
  (h0 : JJ s0 0 W) :
  CallsIn Fence.wide n Try.prog 89 #[.pointer (some ⟨K.b, 0, none⟩), .func (.yield l) #[] #[]] W fun e Z => (∃ v, e = .returned v) ∧ StepE K t JJ Jx Z := by
 have hlow : K.b < W.heap.size ∧ K.g1 < W.heap.size ∧ K.g2 < W.heap.size := ⟨hS.lt, hS.h1, hS.h2⟩
 have hb := hlow.1
 have q10 := hS.q10
 have HS := Lib.hid hS
 have HJ := Lib.hid hJ
 have HJx := Lib.hid hJx
 have HY := Lib.hid hY
 have HN := Lib.hid hN
 have H0 := Lib.hid h0
 have Hs0 := Lib.hid hs0
 have Hfi := Lib.hid hfi
 have Hj0 := Lib.hid hj0
 have Hpl := Lib.hid hpl
 have Hn1 := Lib.hid hn1
 have Hlow := Lib.hid hlow
 clear hS hJ hJx hY hN h0 hs0 hfi hj0 hpl hn1 hlow
 refine callsIn_of_wp_marks Try.func89 rfl trivial ?_ rfl
 simp only [Try.ntmps89, List.size_toArray, List.length_cons, List.length_nil, Nat.reduceAdd, Nat.reduceSub, Array.replicate_succ, Array.replicate_zero, List.push_toArray, List.append_toArray, List.nil_append, List.cons_append]
 gi_wp2_with fail
 refine wpIn_scope ?_
 gi_wp2_with fail
 refine wpIn_label ?_
 gi_wp2_with fail
 have hB0 : Below W.heap.size W (((W.alloc (.cells #[.pointer (some ⟨K.b, 0, none⟩)] 132)).alloc (.cells #[.func (.yield l) #[] #[]] 84)).alloc (.cells #[.int .i64 K.fi] 2)) := (((Below.refl _ _).alloc (Nat.le_refl _) _).alloc (by simp) _).alloc (by simp; omega) _
 have HX0 : Hid (BxS W.heap.size K.b l K.fi [] (((W.alloc (.cells #[.pointer (some ⟨K.b, 0, none⟩)] 132)).alloc (.cells #[.func (.yield l) #[] #[]] 84)).alloc (.cells #[.int .i64 K.fi] 2))) :=
  Lib.hid ⟨by simp, by go_simp, by go_simp, by go_simp, by go_simp, (fun D hD => by cases hD), List.nodup_nil⟩
 generalize ((W.alloc (.cells #[.pointer (some ⟨K.b, 0, none⟩)] 132)).alloc (.cells #[.func (.yield l) #[] #[]] 84)).alloc (.cells #[.int .i64 K.fi] 2) = W1 at *
 have HB0 := Lib.hid hB0
 clear hB0 q10
 refine wpIn_loop_ghost_k (fun g a A => ∃ (s : Stg) (ds : List Nat) (ha2 la2 : Int) (v5 v6 v11 v12 v13 v14 v15 v16 v17 v18 v19 v20 v21 v22 v23 v24 v25 v26 v27 v28 v29 v30 v31 v32 v33 v34 v35 v36 v37 v38 v39 v40 : Value), a = { tmps := #[.pointer (some ⟨K.b, 0, none⟩), .func (.yield l) #[] #[], .pointer (some ⟨W.heap.size, 0, none⟩), .pointer (some ⟨W.heap.size + 1, 0, none⟩), .pointer (some ⟨W.heap.size + 1 + 1, 0, none⟩), v5, v6, .pointer (some ⟨K.b, 0, none⟩), .pointer (some ⟨K.b, 0, none⟩), .pointer (some ⟨K.b, 10, none⟩), .int .i64 K.fi, v11, v12, v13, v14, v15, v16, v17, v18, v19, v20, v21, v22, v23, v24, v25, v26, v27, v28, v29, v30, v31, v32, v33, v34, v35, v36, v37, v38, v39, v40], defers := ds.map mk } ∧ g = 101 - s.j ∧ s.Ok K.R t ∧ JJ s 0 A ∧ SwS A K ha2 la2 s.j s.xs s.ys ∧ BxS W.heap.size K.b l s.f ds A)
  101 ⟨s0, [], ha, la, _, _, _, _, _, _, _, _, _, _, _, _, _, _, _, _, _, _, _, _, _, _, _, _, _, _, _, _, _, _, _, _, rfl, by rw [Hj0.out], Hs0.out, HJ.out _ _ _ _ H0.out (Out.of_low HB0.out), by rw [Hj0.out]; exact HS.out.low HB0.out Hlow.out, by rw [← Hfi.out]; exact HX0.out⟩ ?_
 rintro g a A ⟨s, ds, ha2, la2, v5, v6, v11, v12, v13, v14, v15, v16, v17, v18, v19, v20, v21, v22, v23, v24, v25, v26, v27, v28, v29, v30, v31, v32, v33, v34, v35, v36, v37, v38, v39, v40, rfl, rfl, hok, hjj, hsw, hbx⟩ J' K' hJ' hK'
 have HJ' := Lib.hid hJ'
 clear hJ' HX0 HS HB0 H0 Hs0
 obtain ⟨F, hF⟩ : ∃ F : Nat, s.f = F := ⟨s.f.toNat, by have := hok.lap.f0; omega⟩
 have hRp : K.R.p = K.p := rfl
 have hF1 : (F : Int) < 2 * K.p := by have := hok.lap.f1; rw [hRp, hF] at this; exact this
 have hFn : F < K.n1 := by have := Hn1.out; omega
 have hn1000 : K.n1 ≤ 1000 := by have := Hn1.out; omega
 have hR : K.R.Fit := ⟨hp, hp8, by show K.pl = 0 ∨ K.pl = 1; rw [Hpl.out]; simp⟩
 have hAt : ∀ k, plc K.p 0 K.st K.sk F k = K.R.at s.f k := fun k => by rw [← hF]; show _ = plc K.p K.pl K.st K.sk s.f k; rw [Hpl.out]
 have hnum := hok.lap.num
 have hnpos := hok.lap.num_pos
 have hnle := hok.lap.num_le
 have hmid := fun k => (hok.lap.mid hR k)
 rw [hF] at hbx
 have hx0 : cx K.R s.xs s.f 0 = s.xs.set F 0 := by show x0 s.xs s.f = _; unfold x0; rw [hF, Int.toNat_natCast]
 have hj100 : (0 : Int) ≤ s.j ∧ (s.j : Int) ≤ 1000 := ⟨by omega, by have := hok.hi; omega⟩
 have HF := Lib.hid hF
 have HR := Lib.hid hR
 have HAt := Lib.hid hAt
 have Hok := Lib.hid hok
 have Hmid := Lib.hid hmid
 have Hx0 := Lib.hid hx0
 have Hnum := Lib.hid hnum
 have Hsw := Lib.hid hsw
 have Hjj := Lib.hid hjj
 have Hbx := Lib.hid hbx
 have hBA : W.heap.size + 3 ≤ A.heap.size := hbx.lt
 have hHn : s.n = cnt s.xs s.f := rfl
 obtain ⟨-, cw, cv, cp, fp, -, -⟩ := hbx
 clear hF hRp hR hAt hmid hx0 hok hsw hjj hnum
 gi_wp2_with fail
 refine ⟨trivial, wide_room, ?_⟩
 refine CallsIn.mono (callsIn_wide.2 (take_any K F ha2 la2 s.j s.xs s.ys A Hsw.out hFn hj100.1 hj100.2 hn1000)) ?_
 rintro e A1 ⟨⟨v13', rfl⟩, hsw1, hch1⟩
 have hab1 := Above.of_ch (B := W.heap.size) hch1 Hlow.out
 have HB1 := Lib.hid (Hbx.out.above hab1)
 have HJ1 := Lib.hid (HJ.out _ _ _ _ Hjj.out (Out.of_ch hch1 (by omega)))
 have HS1 : Hid (StW A1 K s 0 la2) := by
  have h1 : s.xs.getD F 0 = (s.n : Int) - ((0 : Nat) : Int) := by
   have := Hnum.out
   rw [HF.out, Int.toNat_natCast] at this
   rw [hHn, HF.out, this]
   simp
  rw [h1] at hsw1
  show Hid (SwS _ _ _ _ _ (cx K.R s.xs s.f 0) _)
  rw [Hx0.out]
  exact Lib.hid hsw1
 obtain ⟨-, cw, cv, cp, fp, -, -⟩ := HB1.out
 obtain ⟨-, q0, q1, q2, q3, q4, q5, q6, q7, q8, q9, -⟩ := hsw1
 rw [Hpl.out] at q9
 have hBA1 : W.heap.size + 3 ≤ A1.heap.size := HB1.out.lt
 clear hch1 hab1 Hsw Hjj Hbx hBA
 gi_wp2_with fail
 gi_quiet ((fail))
 gi_wp2_with fail
 have hd2 := below_dn (Below.refl W.heap.size A1) nq
 have HB2 := Lib.hid (HB1.out.above (Above.of_below (below_dn (Below.refl _ A1) nq)))
 have HJ2 := Lib.hid (HJ.out _ _ _ _ HJ1.out (Out.of_low hd2))
 have HS2 : Hid (StW (A1.drewN nq) K s 0 la2) := Lib.hid (SwS.low HS1.out hd2 Hlow.out)
 clear HB1 HJ1 HS1 cw cv cp fp q0 q1 q2 q3 q4 q5 q6 q7 q8 q9 hBA1 hd2
 generalize A1.drewN nq = A2 at *
 have hBA2 : W.heap.size + 3 ≤ A2.heap.size := HB2.out.lt
 refine range_stmt (gf := 101) (fb := #[.agg #[.int .i64 K.p, .int .i64 K.s, .bool K.st, .bool K.sk, .bool K.re, .bool K.fe, .bool K.ag, .int .i64 K.c, .int .i64 K.l, .int .i64 0, .int .i64 F]]) (cb := #[]) rfl (enters_of Try.func101 (by kernel_rfl) rfl) ?_
 intro fn R hRR
 have hb23 : Below A2.heap.size A2 ((A2.alloc (.deferred (some []))).alloc (.loop (R .ready none))) := ((Below.refl _ A2).alloc (Nat.le_refl _) _).alloc (by simp) _
 have hrc : RecAt ((A2.alloc (.deferred (some []))).alloc (.loop (R .ready none))) (A2.heap.size + 1) A2.heap.size (R .ready none) := laid_loop A2 _
 have hsz3 : ((A2.alloc (.deferred (some []))).alloc (.loop (R .ready none))).heap.size = A2.heap.size + 1 + 1 := by simp
 have HB3 := Lib.hid (HB2.out.above (Above.of_below hb23))
 have HJ3 := Lib.hid (HJ.out _ _ _ _ HJ2.out (Out.of_low (low_below hb23 (by omega))))
 have HS3 : Hid (StW ((A2.alloc (.deferred (some []))).alloc (.loop (R .ready none))) K s 0 la2) := Lib.hid (SwS.low HS2.out (low_below hb23 (by omega)) Hlow.out)
 generalize (A2.alloc (.deferred (some []))).alloc (.loop (R .ready none)) = A3 at *
 have HRR := Lib.hid hRR
 have Hrc := Lib.hid hrc
 have Hsz3 := Lib.hid hsz3
 have hDs : A2.heap.size ∉ ds := fun hm => by
  have := (HB2.out.ms _ hm).2
  have := (Array.getElem?_eq_some_iff.1 this).1
  omega
 have HDs := Lib.hid hDs
 clear hb23 hrc hsz3 hRR HB2 HJ2 HS2 hDs
 refine (places_gives0 (n - 1) K.p K.s K.c K.l K.st K.sk K.re K.fe K.ag F hp hp8 (by omega) hF1 A3.heap.size (A2.heap.size + 1) s.n
  (LapJ W.heap.size K l F ds s JJ (A2.heap.size + 1) A2.heap.size R) (LapX W.heap.size K l F ds s JJ Jx (A2.heap.size + 1) A2.heap.size R)
  A3 (Nat.le_refl _) ?_ ?_ ⟨HJ3.out, ⟨la2, HS3.out⟩, HB3.out, Hrc.out, fun h => absurd h (by omega)⟩ (by omega)).mono ?_
 ·rintro k A Z ⟨h1, ⟨lx, h2⟩, h3, h4, h5⟩ hb
  have hlow := low_below (B := W.heap.size) hb (by have := h3.lt; omega)
  exact ⟨HJ.out _ _ _ _ h1 (Out.of_low hlow), ⟨lx, SwS.low h2 hlow Hlow.out⟩, h3.above (Above.of_below hb), h4.below hb, h5⟩
 ·rintro k A hk ⟨h1, ⟨lx, h2⟩, h3, h4, h5⟩
  rw [HAt.out k]
  refine round_yield HRR.out h4.1 rfl ?_
  intro K0 hK0
  gi_wp2
  refine ⟨h4.1, ?_⟩
  have hlow4 := low_put (B := W.heap.size) A (.loop (R .busy none)) (show W.heap.size ≤ A2.heap.size + 1 by omega)
  have hrec4 := h4.put (r' := R .busy none) (by omega)
  have hbx4 := h3.loop (r' := R .busy none) h4.1
  have hab4 := Above.putObj (B := A3.heap.size) (A := A) (r := A2.heap.size + 1) (.loop (R .busy none)) (by rw [Hsz3.out]; omega)
  have hjj4 := HJ.out _ _ _ _ h1 (Out.of_low hlow4)
  have hsw4 := SwS.low h2 hlow4 Hlow.out
  generalize A.putObj (A2.heap.size + 1) (.loop (R .busy none)) = A4 at *
  have Hrec4 := Lib.hid hrec4
  have Hbx4 := Lib.hid hbx4
  have Hab4 := Lib.hid hab4
  have Hjj4 := Lib.hid hjj4
  have Hsw4 := Lib.hid hsw4
  have hB4 : W.heap.size + 3 ≤ A4.heap.size := hbx4.lt
  obtain ⟨-, cw, cv, cp, fp, -, -⟩ := hbx4
  clear h1 h2 h3 h4 h5 hlow4 hrec4 hab4 hjj4 hsw4
  gi_wp2_with fail
  refine ⟨trivial, wide_room, ?_⟩
  refine CallsIn.mono (CallsIn.inRound _ (callsIn_wide.2 (put_any K (K.R.at s.f k) _ _ _ _ _ A4 (by rw [Hpl.out]; simp) Hsw4.out ?_ ?_ ?_ ?_ hn1000 ?_))) ?_
  ·have : s.n = cnt s.xs s.f := rfl
   omega
  ·have : s.n = cnt s.xs s.f := rfl
   omega
  ·exact (Hok.out.lap.at_bd HR.out k).1
  ·have := (Hok.out.lap.at_bd HR.out k).2
   have h2 := Hn1.out
   have h3 : K.R.p = K.p := rfl
   omega
  ·intro i
   have h1 := (Hmid.out k).bd i
   have h2 := Hok.out.lap.hi
   have h3 : s.n = cnt s.xs s.f := rfl
   omega
  rintro e A5 ⟨rfl, hsw5, hch5⟩
  generalize hrl : rlb K.re (cx K.R s.xs s.f k) (K.R.at s.f k) = rl
  have Hrl := Lib.hid hrl
  have hab5 := Above.of_ch (B := W.heap.size) hch5 Hlow.out
  have Hbx5 := Lib.hid (Hbx4.out.above hab5)
  have Hjj5 := Lib.hid (HJ.out _ _ _ _ Hjj4.out (Out.of_ch hch5 (by omega)))
  have Hrec5 := Lib.hid (Hrec4.out.above hab5 (by omega) (by omega))
  have Hab5 := Lib.hid (Hab4.out.trans (hab5.mono (by have := Hsz3.out; omega)))
  have HS5 : Hid (StW A5 K s (k + 1) (K.R.at s.f k)) := Lib.hid (by
   have e1 : (s.n : Int) - k - 1 = (s.n : Int) - ((k + 1 : Nat) : Int) := by omega
   rw [e1] at hsw5
   exact hsw5)
  have hq := HY.out s k A5 Hok.out hk Hjj5.out HS5.out
  obtain ⟨fn2, tmps2, assign2, body2, hy2, hR2⟩ := hq
  obtain ⟨-, cw, cv, cp, fp, -, -⟩ := Hbx5.out
  clear hrl hsw5 hch5 hab5
  gi_wp2_with fail
  refine ⟨wide_room, RoundIn.mono (show RoundIn (Fence.wide.inRound (A2.heap.size + 1)) (n - 1 - 1 - 1) Try.prog l fn2 tmps2 assign2 body2 A5 _ from hR2) ?_⟩
  rintro e Z (⟨rfl, hj6, hjj6, hsw6, hab6⟩ | ⟨rfl, hjx6, hab6⟩)
  ·have Hbx6 := Lib.hid (Hbx5.out.above hab6)
   have Hrec6 := Lib.hid (Hrec5.out.above hab6 (by omega) (by omega))
   have Hab6 := Lib.hid (Hab5.out.trans (hab6.mono (by have := Hsz3.out; omega)))
   have Hjj6 := Lib.hid hjj6
   have Hsw6 := Lib.hid hsw6
   have hB6 : W.heap.size + 3 ≤ Z.heap.size := Hbx6.out.lt
   obtain ⟨-, cw, cv, cp, fp, -, -⟩ := Hbx6.out
   have q11 := hsw6.q11
   clear hjj6 hsw6 hab6 hR2 hy2 Hbx4 Hbx5 Hjj4 Hjj5 Hsw4 HS5 Hrec4 Hrec5
   by_cases hlast : k + 1 < s.n
   ·have hpos : decide (0 < (s.n : Int) - ((k + 1 : Nat) : Int)) = true := by simp; omega
    have p1 : 0 < (s.n : Int) - ((k + 1 : Nat) : Int) := by omega
    generalize (s.n : Int) - ((k + 1 : Nat) : Int) = hd at *
    gi_wp2_with fail
    have hlowr := low_put (B := W.heap.size) Z (.loop (R .ready none)) (show W.heap.size ≤ A2.heap.size + 1 by omega)
    exact ⟨Hrec6.out.1, .inl ⟨rfl, hlast, ⟨HJ.out _ _ _ _ Hjj6.out (Out.of_low hlowr), ⟨_, SwS.low Hsw6.out hlowr Hlow.out⟩, Hbx6.out.loop Hrec6.out.1, Hrec6.out.put (by omega), fun _ => hj6⟩, Hab6.out.trans (Above.putObj _ (by have := Hsz3.out; omega))⟩⟩
   ·have hend : k + 1 = s.n := by omega
    have hneg : decide (0 < (s.n : Int) - ((k + 1 : Nat) : Int)) = false := by simp; omega
    have p1 : ¬ 0 < (s.n : Int) - ((k + 1 : Nat) : Int) := by omega
    have hag : agn K.R s.xs s.f = rl := by rw [← Hrl.out]; exact (rlb_agn hend).symm
    have hls : K.R.at s.f k = lst K.R s.xs s.f := by
     have h3 : s.n = cnt s.xs s.f := rfl
     unfold lst
     rw [show cnt s.xs s.f - 1 = k by omega]
    have HSe : Hid (StW Z K s s.n (lst K.R s.xs s.f)) := Lib.hid (by rw [← hend, ← hls]; exact Hsw6.out)
    have HJe : Hid (JJ s s.n Z) := Lib.hid (by rw [← hend]; exact Hjj6.out)
    have Hag := Lib.hid hag
    have Hls := Lib.hid hls
    clear hag hls hend Hrl Hjj6 Hsw6
    generalize (s.n : Int) - ((k + 1 : Nat) : Int) = hd at *
    cases rl
    ·gi_wp2_with fail
     have hlowr := low_put (B := W.heap.size) Z (.loop (R .done (some .ret))) (show W.heap.size ≤ A2.heap.size + 1 by omega)
     exact ⟨Hrec6.out.1, .inr ⟨rfl, ⟨.inr (.inl ⟨Hag.out, hj6, HJ.out _ _ _ _ HJe.out (Out.of_low hlowr), SwS.low HSe.out hlowr Hlow.out, Hbx6.out.loop Hrec6.out.1, Hrec6.out.put (by omega)⟩)⟩⟩⟩
    ·gi_wp2_with fail
     have hls1 := low_set (B := W.heap.size) Z (q := ⟨W.heap.size + 1 + 1, 0, none⟩) (by simp; omega) (.int .i64 (K.R.at s.f k))
     have hrecs := Hrec6.out.setCell cp (.int .i64 (K.R.at s.f k))
     have hlowr := hls1.trans (low_put (B := W.heap.size) _ (.loop (R .done (some (.exit 1)))) (show W.heap.size ≤ A2.heap.size + 1 by omega))
     refine ⟨hrecs.1, .inr ⟨rfl, ⟨.inr (.inr ⟨Hag.out, hj6, HJ.out _ _ _ _ HJe.out (Out.of_low hlowr), SwS.low HSe.out hlowr Hlow.out, ?_, hrecs.put (by omega)⟩)⟩⟩⟩
     rw [← Hls.out]
     exact (Hbx6.out.setP _).loop hrecs.1
  ·have Hbx6 := Lib.hid (Hbx5.out.above hab6)
   have Hrec6 := Lib.hid (Hrec5.out.above hab6 (by omega) (by omega))
   have Hjx6 := Lib.hid hjx6
   clear hjx6 hab6 hR2 hy2
   gi_wp2_with fail
   exact ⟨Hrec6.out.1, .inr ⟨rfl, ⟨.inl ⟨HJx.out _ _ Hjx6.out (low_put (B := W.heap.size) Z _ (by omega)), Hbx6.out.loop Hrec6.out.1, Hrec6.out.put (by omega)⟩⟩⟩⟩
 ·rintro e Z ⟨hv, hz⟩
  refine ⟨hv, .inr ?_⟩
  have HStep : Hid (∀ A D, StepE K t JJ Jx A → W.heap.size ≤ D → A.heap[D]? = some (.deferred (some [])) → StepE K t JJ Jx (A.putObj D (.deferred none))) := Lib.hid fun A D h hD _ => by
   have hl := low_put (B := W.heap.size) A (.deferred none) hD
   rcases h with ⟨s', a1, a2, a3, a4, a5⟩ | h
   ·exact .inl ⟨s', a1, a2, a3, HJ.out _ _ _ _ a4 (Out.of_low hl), SwS.low a5 hl Hlow.out⟩
   ·exact .inr (HJx.out _ _ h hl)
  clear hv
  rcases hz with ⟨⟨hjx, hbx, hr⟩ | ⟨hag, hj, hjj, hsw, hbx, hr⟩ | ⟨hag, hj, hjj, hsw, hbx, hr⟩⟩
  ·refine ⟨_, hr.1, ?_⟩
   have hlow := low_put (B := W.heap.size) Z (.loop (R .exhausted (some .ret))) (show W.heap.size ≤ A2.heap.size + 1 by omega)
   have Hbx := Lib.hid (hbx.loop (r' := R .exhausted (some .ret)) hr.1)
   have Hrec := Lib.hid (hr.put (r' := R .exhausted (some .ret)) (by omega))
   have HE : Hid (StepE K t JJ Jx (Z.putObj (A2.heap.size + 1) (.loop (R .exhausted (some .ret))))) := Lib.hid (.inr (HJx.out _ _ hjx hlow))
   generalize Z.putObj (A2.heap.size + 1) (.loop (R .exhausted (some .ret))) = Z2 at *
   clear hlow hbx hr hjx
   gi_wp2_with fail
   refine ⟨by simp, .inl ⟨_, _, rfl, run_takeDeferred Hrec.out.2, ?_⟩⟩
   exact leaves_marks (B0 := W.heap.size) (StepE K t JJ Jx) HStep.out (fun A h => ⟨_, results_none rfl _ _ _, ⟨_, rfl⟩, h⟩) ds _ Hbx.out.nd (fun D hD => ⟨(Hbx.out.ms D hD).1, (World.putObj_heap_other (fun e => HDs.out (by rw [← e]; exact hD))).trans (Hbx.out.ms D hD).2⟩) (HStep.out _ _ HE.out (by omega) Hrec.out.2)
  ·refine ⟨_, hr.1, ?_⟩
   have hlow := low_put (B := W.heap.size) Z (.loop (R .exhausted (some .ret))) (show W.heap.size ≤ A2.heap.size + 1 by omega)
   have Hbx := Lib.hid (hbx.loop (r' := R .exhausted (some .ret)) hr.1)
   have Hrec := Lib.hid (hr.put (r' := R .exhausted (some .ret)) (by omega))
   have HE : Hid (StepE K t JJ Jx (Z.putObj (A2.heap.size + 1) (.loop (R .exhausted (some .ret))))) := Lib.hid (.inl ⟨s, Hok.out, hj, hag, HJ.out _ _ _ _ hjj (Out.of_low hlow), SwS.low hsw hlow Hlow.out⟩)
   generalize Z.putObj (A2.heap.size + 1) (.loop (R .exhausted (some .ret))) = Z2 at *
   clear hlow hbx hr hag hjj hsw
   gi_wp2_with fail
   refine ⟨by simp, .inl ⟨_, _, rfl, run_takeDeferred Hrec.out.2, ?_⟩⟩
   exact leaves_marks (B0 := W.heap.size) (StepE K t JJ Jx) HStep.out (fun A h => ⟨_, results_none rfl _ _ _, ⟨_, rfl⟩, h⟩) ds _ Hbx.out.nd (fun D hD => ⟨(Hbx.out.ms D hD).1, (World.putObj_heap_other (fun e => HDs.out (by rw [← e]; exact hD))).trans (Hbx.out.ms D hD).2⟩) (HStep.out _ _ HE.out (by omega) Hrec.out.2)
  ·refine ⟨_, hr.1, ?_⟩
   have hlow := low_put (B := W.heap.size) Z (.loop (R .exhausted (some (.exit 1)))) (show W.heap.size ≤ A2.heap.size + 1 by omega)
   have hrec := hr.put (r' := R .exhausted (some (.exit 1))) (by omega)
   have Hbx := Lib.hid ((hbx.loop (r' := R .exhausted (some (.exit 1))) hr.1).mark hrec.2 (by omega) HDs.out)
   have HJn := Lib.hid (HN.out s _ Hok.out hj hag (HJ.out _ _ _ _ hjj (Out.of_low hlow)))
   have HSn : Hid (SwS (Z.putObj (A2.heap.size + 1) (.loop (R .exhausted (some (.exit 1))))) K ((s.n : Int) - s.n) (lst K.R s.xs s.f) ((s.next K.R).j : Int) (s.next K.R).xs (s.next K.R).ys) := Lib.hid (by
    have := SwS.low hsw hlow Hlow.out
    have e : (((s.next K.R).j : Nat) : Int) = (s.j : Int) + 1 := by show ((s.j + 1 : Nat) : Int) = _; omega
    rw [e]
    exact this)
   have HOk : Hid ((s.next K.R).Ok K.R t) := Lib.hid ⟨Hok.out.lap.next HR.out hag, by show s.j + 1 ≤ 100; omega⟩
   generalize Z.putObj (A2.heap.size + 1) (.loop (R .exhausted (some (.exit 1)))) = Z2 at *
   clear hlow hbx hr hag hjj hsw hrec
   gi_wp2_with fail
   exact Handed.intro (101 - (s.j + 1)) (by omega) (HJ'.out _ _ _ ⟨s.next K.R, A2.heap.size :: ds, _, _, _, _, _, _, _, _, _, _, _, _, _, _, _, _, _, _, _, _, _, _, _, _, _, _, _, _, _, _, _, _, _, _, rfl, rfl, HOk.out, HJn.out, HSn.out, Hbx.out⟩)
theorem steps_gives1 (n : Nat) (K : Cfg) (hpl : K.pl = 1) (hp : 2 ≤ K.p) (hp8 : K.p ≤ 8) (hn1 : (K.n1 : Int) = 2 * K.p) (t : Int) (l : Nat) (JJ : Stg → Nat → World → Prop) (Jx : World → Prop) (W : World) (s0 : Stg) (ha la : Int)
  (hS : SwS W K ha la 0 s0.xs s0.ys) (hfi : K.fi = s0.f) (hs0 : s0.Ok K.R t) (hj0 : s0.j = 0)
  (hJ : ∀ s i A Z, JJ s i A → Out W.heap.size K A Z → JJ s i Z)
  (hJx : ∀ A Z, Jx A → Below W.heap.size A Z → Jx Z)
  (hY : ∀ s i A, s.Ok K.R t → i < s.n → JJ s i A → StW A K s (i + 1) (K.R.at s.f i) → YieldAt Fence.wide (n - 1 - 1 - 1) Try.prog l #[.int .i64 (K.R.at s.f i)] A fun e Z =>
   (e = .returned (.bool true) ∧ s.j < 100 ∧ JJ s (i + 1) Z ∧ StW Z K s (i + 1) (K.R.at s.f i) ∧ Above W.heap.size A Z) ∨ (e = .returned (.bool false) ∧ Jx Z ∧ Above W.heap.size A Z))
  (hN : ∀ s A, s.Ok K.R t → s.j < 100 → agn K.R s.xs s.f = true → JJ s s.n A → JJ (s.next K.R) 0 A)
  (h0 : JJ s0 0 W) :
  CallsIn Fence.wide n Try.prog 89 #[.pointer (some ⟨K.b, 0, none⟩), .func (.yield l) #[] #[]] W fun e Z => (∃ v, e = .returned v) ∧ StepE K t JJ Jx Z := by
 have hlow : K.b < W.heap.size ∧ K.g1 < W.heap.size ∧ K.g2 < W.heap.size := ⟨hS.lt, hS.h1, hS.h2⟩
 have hb := hlow.1
 have q10 := hS.q10
 have HS := Lib.hid hS
 have HJ := Lib.hid hJ
 have HJx := Lib.hid hJx
 have HY := Lib.hid hY
 have HN := Lib.hid hN
 have H0 := Lib.hid h0
 have Hs0 := Lib.hid hs0
 have Hfi := Lib.hid hfi
 have Hj0 := Lib.hid hj0
 have Hpl := Lib.hid hpl
 have Hn1 := Lib.hid hn1
 have Hlow := Lib.hid hlow
 clear hS hJ hJx hY hN h0 hs0 hfi hj0 hpl hn1 hlow
 refine callsIn_of_wp_marks Try.func89 rfl trivial ?_ rfl
 simp only [Try.ntmps89, List.size_toArray, List.length_cons, List.length_nil, Nat.reduceAdd, Nat.reduceSub, Array.replicate_succ, Array.replicate_zero, List.push_toArray, List.append_toArray, List.nil_append, List.cons_append]
 gi_wp2_with fail
 refine wpIn_scope ?_
 gi_wp2_with fail
 refine wpIn_label ?_
 gi_wp2_with fail
 have hB0 : Below W.heap.size W (((W.alloc (.cells #[.pointer (some ⟨K.b, 0, none⟩)] 132)).alloc (.cells #[.func (.yield l) #[] #[]] 84)).alloc (.cells #[.int .i64 K.fi] 2)) := (((Below.refl _ _).alloc (Nat.le_refl _) _).alloc (by simp) _).alloc (by simp; omega) _
 have HX0 : Hid (BxS W.heap.size K.b l K.fi [] (((W.alloc (.cells #[.pointer (some ⟨K.b, 0, none⟩)] 132)).alloc (.cells #[.func (.yield l) #[] #[]] 84)).alloc (.cells #[.int .i64 K.fi] 2))) :=
  Lib.hid ⟨by simp, by go_simp, by go_simp, by go_simp, by go_simp, (fun D hD => by cases hD), List.nodup_nil⟩
 generalize ((W.alloc (.cells #[.pointer (some ⟨K.b, 0, none⟩)] 132)).alloc (.cells #[.func (.yield l) #[] #[]] 84)).alloc (.cells #[.int .i64 K.fi] 2) = W1 at *
 have HB0 := Lib.hid hB0
 clear hB0 q10
 refine wpIn_loop_ghost_k (fun g a A => ∃ (s : Stg) (ds : List Nat) (ha2 la2 : Int) (v5 v6 v11 v12 v13 v14 v15 v16 v17 v18 v19 v20 v21 v22 v23 v24 v25 v26 v27 v28 v29 v30 v31 v32 v33 v34 v35 v36 v37 v38 v39 v40 : Value), a = { tmps := #[.pointer (some ⟨K.b, 0, none⟩), .func (.yield l) #[] #[], .pointer (some ⟨W.heap.size, 0, none⟩), .pointer (some ⟨W.heap.size + 1, 0, none⟩), .pointer (some ⟨W.heap.size + 1 + 1, 0, none⟩), v5, v6, .pointer (some ⟨K.b, 0, none⟩), .pointer (some ⟨K.b, 0, none⟩), .pointer (some ⟨K.b, 10, none⟩), .int .i64 K.fi, v11, v12, v13, v14, v15, v16, v17, v18, v19, v20, v21, v22, v23, v24, v25, v26, v27, v28, v29, v30, v31, v32, v33, v34, v35, v36, v37, v38, v39, v40], defers := ds.map mk } ∧ g = 101 - s.j ∧ s.Ok K.R t ∧ JJ s 0 A ∧ SwS A K ha2 la2 s.j s.xs s.ys ∧ BxS W.heap.size K.b l s.f ds A)
  101 ⟨s0, [], ha, la, _, _, _, _, _, _, _, _, _, _, _, _, _, _, _, _, _, _, _, _, _, _, _, _, _, _, _, _, _, _, _, _, rfl, by rw [Hj0.out], Hs0.out, HJ.out _ _ _ _ H0.out (Out.of_low HB0.out), by rw [Hj0.out]; exact HS.out.low HB0.out Hlow.out, by rw [← Hfi.out]; exact HX0.out⟩ ?_
 rintro g a A ⟨s, ds, ha2, la2, v5, v6, v11, v12, v13, v14, v15, v16, v17, v18, v19, v20, v21, v22, v23, v24, v25, v26, v27, v28, v29, v30, v31, v32, v33, v34, v35, v36, v37, v38, v39, v40, rfl, rfl, hok, hjj, hsw, hbx⟩ J' K' hJ' hK'
 have HJ' := Lib.hid hJ'
 clear hJ' HX0 HS HB0 H0 Hs0
 obtain ⟨F, hF⟩ : ∃ F : Nat, s.f = F := ⟨s.f.toNat, by have := hok.lap.f0; omega⟩
 have hRp : K.R.p = K.p := rfl
 have hF1 : (F : Int) < 2 * K.p := by have := hok.lap.f1; rw [hRp, hF] at this; exact this
 have hFn : F < K.n1 := by have := Hn1.out; omega
 have hn1000 : K.n1 ≤ 1000 := by have := Hn1.out; omega
 have hR : K.R.Fit := ⟨hp, hp8, by show K.pl = 0 ∨ K.pl = 1; rw [Hpl.out]; simp⟩
 have hAt : ∀ k, plc K.p 1 K.st K.sk F k = K.R.at s.f k := fun k => by rw [← hF]; show _ = plc K.p K.pl K.st K.sk s.f k; rw [Hpl.out]
 have hnum := hok.lap.num
 have hnpos := hok.lap.num_pos
 have hnle := hok.lap.num_le
 have hmid := fun k => (hok.lap.mid hR k)
 rw [hF] at hbx
 have hx0 : cx K.R s.xs s.f 0 = s.xs.set F 0 := by show x0 s.xs s.f = _; unfold x0; rw [hF, Int.toNat_natCast]
 have hj100 : (0 : Int) ≤ s.j ∧ (s.j : Int) ≤ 1000 := ⟨by omega, by have := hok.hi; omega⟩
 have HF := Lib.hid hF
 have HR := Lib.hid hR
 have HAt := Lib.hid hAt
 have Hok := Lib.hid hok
 have Hmid := Lib.hid hmid
 have Hx0 := Lib.hid hx0
 have Hnum := Lib.hid hnum
 have Hsw := Lib.hid hsw
 have Hjj := Lib.hid hjj
 have Hbx := Lib.hid hbx
 have hBA : W.heap.size + 3 ≤ A.heap.size := hbx.lt
 have hHn : s.n = cnt s.xs s.f := rfl
 obtain ⟨-, cw, cv, cp, fp, -, -⟩ := hbx
 clear hF hRp hR hAt hmid hx0 hok hsw hjj hnum
 gi_wp2_with fail
 refine ⟨trivial, wide_room, ?_⟩
 refine CallsIn.mono (callsIn_wide.2 (take_any K F ha2 la2 s.j s.xs s.ys A Hsw.out hFn hj100.1 hj100.2 hn1000)) ?_
 rintro e A1 ⟨⟨v13', rfl⟩, hsw1, hch1⟩
 have hab1 := Above.of_ch (B := W.heap.size) hch1 Hlow.out
 have HB1 := Lib.hid (Hbx.out.above hab1)
 have HJ1 := Lib.hid (HJ.out _ _ _ _ Hjj.out (Out.of_ch hch1 (by omega)))
 have HS1 : Hid (StW A1 K s 0 la2) := by
  have h1 : s.xs.getD F 0 = (s.n : Int) - ((0 : Nat) : Int) := by
   have := Hnum.out
   rw [HF.out, Int.toNat_natCast] at this
   rw [hHn, HF.out, this]
   simp
  rw [h1] at hsw1
  show Hid (SwS _ _ _ _ _ (cx K.R s.xs s.f 0) _)
  rw [Hx0.out]
  exact Lib.hid hsw1
 obtain ⟨-, cw, cv, cp, fp, -, -⟩ := HB1.out
 obtain ⟨-, q0, q1, q2, q3, q4, q5, q6, q7, q8, q9, -⟩ := hsw1
 rw [Hpl.out] at q9
 have hBA1 : W.heap.size + 3 ≤ A1.heap.size := HB1.out.lt
 clear hch1 hab1 Hsw Hjj Hbx hBA
 gi_wp2_with fail
 gi_quiet ((fail))
 gi_wp2_with fail
 have hd2 := below_dn (Below.refl W.heap.size A1) nq
 have HB2 := Lib.hid (HB1.out.above (Above.of_below (below_dn (Below.refl _ A1) nq)))
 have HJ2 := Lib.hid (HJ.out _ _ _ _ HJ1.out (Out.of_low hd2))
 have HS2 : Hid (StW (A1.drewN nq) K s 0 la2) := Lib.hid (SwS.low HS1.out hd2 Hlow.out)
 clear HB1 HJ1 HS1 cw cv cp fp q0 q1 q2 q3 q4 q5 q6 q7 q8 q9 hBA1 hd2
 generalize A1.drewN nq = A2 at *
 have hBA2 : W.heap.size + 3 ≤ A2.heap.size := HB2.out.lt
 refine range_stmt (gf := 101) (fb := #[.agg #[.int .i64 K.p, .int .i64 K.s, .bool K.st, .bool K.sk, .bool K.re, .bool K.fe, .bool K.ag, .int .i64 K.c, .int .i64 K.l, .int .i64 1, .int .i64 F]]) (cb := #[]) rfl (enters_of Try.func101 (by kernel_rfl) rfl) ?_
 intro fn R hRR
 have hb23 : Below A2.heap.size A2 ((A2.alloc (.deferred (some []))).alloc (.loop (R .ready none))) := ((Below.refl _ A2).alloc (Nat.le_refl _) _).alloc (by simp) _
 have hrc : RecAt ((A2.alloc (.deferred (some []))).alloc (.loop (R .ready none))) (A2.heap.size + 1) A2.heap.size (R .ready none) := laid_loop A2 _
 have hsz3 : ((A2.alloc (.deferred (some []))).alloc (.loop (R .ready none))).heap.size = A2.heap.size + 1 + 1 := by simp
 have HB3 := Lib.hid (HB2.out.above (Above.of_below hb23))
 have HJ3 := Lib.hid (HJ.out _ _ _ _ HJ2.out (Out.of_low (low_below hb23 (by omega))))
 have HS3 : Hid (StW ((A2.alloc (.deferred (some []))).alloc (.loop (R .ready none))) K s 0 la2) := Lib.hid (SwS.low HS2.out (low_below hb23 (by omega)) Hlow.out)
 generalize (A2.alloc (.deferred (some []))).alloc (.loop (R .ready none)) = A3 at *
 have HRR := Lib.hid hRR
 have Hrc := Lib.hid hrc
 have Hsz3 := Lib.hid hsz3
 have hDs : A2.heap.size ∉ ds := fun hm => by
  have := (HB2.out.ms _ hm).2
  have := (Array.getElem?_eq_some_iff.1 this).1
  omega
 have HDs := Lib.hid hDs
 clear hb23 hrc hsz3 hRR HB2 HJ2 HS2 hDs
 refine (places_gives1 (n - 1) K.p K.s K.c K.l K.st K.sk K.re K.fe K.ag F hp hp8 (by omega) hF1 A3.heap.size (A2.heap.size + 1) s.n
  (LapJ W.heap.size K l F ds s JJ (A2.heap.size + 1) A2.heap.size R) (LapX W.heap.size K l F ds s JJ Jx (A2.heap.size + 1) A2.heap.size R)
  A3 (Nat.le_refl _) ?_ ?_ ⟨HJ3.out, ⟨la2, HS3.out⟩, HB3.out, Hrc.out, fun h => absurd h (by omega)⟩ (by omega)).mono ?_
 ·rintro k A Z ⟨h1, ⟨lx, h2⟩, h3, h4, h5⟩ hb
  have hlow := low_below (B := W.heap.size) hb (by have := h3.lt; omega)
  exact ⟨HJ.out _ _ _ _ h1 (Out.of_low hlow), ⟨lx, SwS.low h2 hlow Hlow.out⟩, h3.above (Above.of_below hb), h4.below hb, h5⟩
 ·rintro k A hk ⟨h1, ⟨lx, h2⟩, h3, h4, h5⟩
  rw [HAt.out k]
  refine round_yield HRR.out h4.1 rfl ?_
  intro K0 hK0
  gi_wp2
  refine ⟨h4.1, ?_⟩
  have hlow4 := low_put (B := W.heap.size) A (.loop (R .busy none)) (show W.heap.size ≤ A2.heap.size + 1 by omega)
  have hrec4 := h4.put (r' := R .busy none) (by omega)
  have hbx4 := h3.loop (r' := R .busy none) h4.1
  have hab4 := Above.putObj (B := A3.heap.size) (A := A) (r := A2.heap.size + 1) (.loop (R .busy none)) (by rw [Hsz3.out]; omega)
  have hjj4 := HJ.out _ _ _ _ h1 (Out.of_low hlow4)
  have hsw4 := SwS.low h2 hlow4 Hlow.out
  generalize A.putObj (A2.heap.size + 1) (.loop (R .busy none)) = A4 at *
  have Hrec4 := Lib.hid hrec4
  have Hbx4 := Lib.hid hbx4
  have Hab4 := Lib.hid hab4
  have Hjj4 := Lib.hid hjj4
  have Hsw4 := Lib.hid hsw4
  have hB4 : W.heap.size + 3 ≤ A4.heap.size := hbx4.lt
  obtain ⟨-, cw, cv, cp, fp, -, -⟩ := hbx4
  clear h1 h2 h3 h4 h5 hlow4 hrec4 hab4 hjj4 hsw4
  gi_wp2_with fail
  refine ⟨trivial, wide_room, ?_⟩
  refine CallsIn.mono (CallsIn.inRound _ (callsIn_wide.2 (put_any K (K.R.at s.f k) _ _ _ _ _ A4 (by rw [Hpl.out]; simp) Hsw4.out ?_ ?_ ?_ ?_ hn1000 ?_))) ?_
  ·have : s.n = cnt s.xs s.f := rfl
   omega
  ·have : s.n = cnt s.xs s.f := rfl
   omega
  ·exact (Hok.out.lap.at_bd HR.out k).1
  ·have := (Hok.out.lap.at_bd HR.out k).2
   have h2 := Hn1.out
   have h3 : K.R.p = K.p := rfl
   omega
  ·intro i
   have h1 := (Hmid.out k).bd i
   have h2 := Hok.out.lap.hi
   have h3 : s.n = cnt s.xs s.f := rfl
   omega
  rintro e A5 ⟨rfl, hsw5, hch5⟩
  generalize hrl : rlb K.re (cx K.R s.xs s.f k) (K.R.at s.f k) = rl
  have Hrl := Lib.hid hrl
  have hab5 := Above.of_ch (B := W.heap.size) hch5 Hlow.out
  have Hbx5 := Lib.hid (Hbx4.out.above hab5)
  have Hjj5 := Lib.hid (HJ.out _ _ _ _ Hjj4.out (Out.of_ch hch5 (by omega)))
  have Hrec5 := Lib.hid (Hrec4.out.above hab5 (by omega) (by omega))
  have Hab5 := Lib.hid (Hab4.out.trans (hab5.mono (by have := Hsz3.out; omega)))
  have HS5 : Hid (StW A5 K s (k + 1) (K.R.at s.f k)) := Lib.hid (by
   have e1 : (s.n : Int) - k - 1 = (s.n : Int) - ((k + 1 : Nat) : Int) := by omega
   rw [e1] at hsw5
   exact hsw5)
  have hq := HY.out s k A5 Hok.out hk Hjj5.out HS5.out
  obtain ⟨fn2, tmps2, assign2, body2, hy2, hR2⟩ := hq
  obtain ⟨-, cw, cv, cp, fp, -, -⟩ := Hbx5.out
  clear hrl hsw5 hch5 hab5
  gi_wp2_with fail
  refine ⟨wide_room, RoundIn.mono (show RoundIn (Fence.wide.inRound (A2.heap.size + 1)) (n - 1 - 1 - 1) Try.prog l fn2 tmps2 assign2 body2 A5 _ from hR2) ?_⟩
  rintro e Z (⟨rfl, hj6, hjj6, hsw6, hab6⟩ | ⟨rfl, hjx6, hab6⟩)
  ·have Hbx6 := Lib.hid (Hbx5.out.above hab6)
   have Hrec6 := Lib.hid (Hrec5.out.above hab6 (by omega) (by omega))
   have Hab6 := Lib.hid (Hab5.out.trans (hab6.mono (by have := Hsz3.out; omega)))
   have Hjj6 := Lib.hid hjj6
   have Hsw6 := Lib.hid hsw6
   have hB6 : W.heap.size + 3 ≤ Z.heap.size := Hbx6.out.lt
   obtain ⟨-, cw, cv, cp, fp, -, -⟩ := Hbx6.out
   have q11 := hsw6.q11
   clear hjj6 hsw6 hab6 hR2 hy2 Hbx4 Hbx5 Hjj4 Hjj5 Hsw4 HS5 Hrec4 Hrec5
   by_cases hlast : k + 1 < s.n
   ·have hpos : decide (0 < (s.n : Int) - ((k + 1 : Nat) : Int)) = true := by simp; omega
    have p1 : 0 < (s.n : Int) - ((k + 1 : Nat) : Int) := by omega
    generalize (s.n : Int) - ((k + 1 : Nat) : Int) = hd at *
    gi_wp2_with fail
    have hlowr := low_put (B := W.heap.size) Z (.loop (R .ready none)) (show W.heap.size ≤ A2.heap.size + 1 by omega)
    exact ⟨Hrec6.out.1, .inl ⟨rfl, hlast, ⟨HJ.out _ _ _ _ Hjj6.out (Out.of_low hlowr), ⟨_, SwS.low Hsw6.out hlowr Hlow.out⟩, Hbx6.out.loop Hrec6.out.1, Hrec6.out.put (by omega), fun _ => hj6⟩, Hab6.out.trans (Above.putObj _ (by have := Hsz3.out; omega))⟩⟩
   ·have hend : k + 1 = s.n := by omega
    have hneg : decide (0 < (s.n : Int) - ((k + 1 : Nat) : Int)) = false := by simp; omega
    have p1 : ¬ 0 < (s.n : Int) - ((k + 1 : Nat) : Int) := by omega
    have hag : agn K.R s.xs s.f = rl := by rw [← Hrl.out]; exact (rlb_agn hend).symm
    have hls : K.R.at s.f k = lst K.R s.xs s.f := by
     have h3 : s.n = cnt s.xs s.f := rfl
     unfold lst
     rw [show cnt s.xs s.f - 1 = k by omega]
    have HSe : Hid (StW Z K s s.n (lst K.R s.xs s.f)) := Lib.hid (by rw [← hend, ← hls]; exact Hsw6.out)
    have HJe : Hid (JJ s s.n Z) := Lib.hid (by rw [← hend]; exact Hjj6.out)
    have Hag := Lib.hid hag
    have Hls := Lib.hid hls
    clear hag hls hend Hrl Hjj6 Hsw6
    generalize (s.n : Int) - ((k + 1 : Nat) : Int) = hd at *
    cases rl
    ·gi_wp2_with fail
     have hlowr := low_put (B := W.heap.size) Z (.loop (R .done (some .ret))) (show W.heap.size ≤ A2.heap.size + 1 by omega)
     exact ⟨Hrec6.out.1, .inr ⟨rfl, ⟨.inr (.inl ⟨Hag.out, hj6, HJ.out _ _ _ _ HJe.out (Out.of_low hlowr), SwS.low HSe.out hlowr Hlow.out, Hbx6.out.loop Hrec6.out.1, Hrec6.out.put (by omega)⟩)⟩⟩⟩
    ·gi_wp2_with fail
     have hls1 := low_set (B := W.heap.size) Z (q := ⟨W.heap.size + 1 + 1, 0, none⟩) (by simp; omega) (.int .i64 (K.R.at s.f k))
     have hrecs := Hrec6.out.setCell cp (.int .i64 (K.R.at s.f k))
     have hlowr := hls1.trans (low_put (B := W.heap.size) _ (.loop (R .done (some (.exit 1)))) (show W.heap.size ≤ A2.heap.size + 1 by omega))
     refine ⟨hrecs.1, .inr ⟨rfl, ⟨.inr (.inr ⟨Hag.out, hj6, HJ.out _ _ _ _ HJe.out (Out.of_low hlowr), SwS.low HSe.out hlowr Hlow.out, ?_, hrecs.put (by omega)⟩)⟩⟩⟩
     rw [← Hls.out]
     exact (Hbx6.out.setP _).loop hrecs.1
  ·have Hbx6 := Lib.hid (Hbx5.out.above hab6)
   have Hrec6 := Lib.hid (Hrec5.out.above hab6 (by omega) (by omega))
   have Hjx6 := Lib.hid hjx6
   clear hjx6 hab6 hR2 hy2
   gi_wp2_with fail
   exact ⟨Hrec6.out.1, .inr ⟨rfl, ⟨.inl ⟨HJx.out _ _ Hjx6.out (low_put (B := W.heap.size) Z _ (by omega)), Hbx6.out.loop Hrec6.out.1, Hrec6.out.put (by omega)⟩⟩⟩⟩
 ·rintro e Z ⟨hv, hz⟩
  refine ⟨hv, .inr ?_⟩
  have HStep : Hid (∀ A D, StepE K t JJ Jx A → W.heap.size ≤ D → A.heap[D]? = some (.deferred (some [])) → StepE K t JJ Jx (A.putObj D (.deferred none))) := Lib.hid fun A D h hD _ => by
   have hl := low_put (B := W.heap.size) A (.deferred none) hD
   rcases h with ⟨s', a1, a2, a3, a4, a5⟩ | h
   ·exact .inl ⟨s', a1, a2, a3, HJ.out _ _ _ _ a4 (Out.of_low hl), SwS.low a5 hl Hlow.out⟩
   ·exact .inr (HJx.out _ _ h hl)
  clear hv
  rcases hz with ⟨⟨hjx, hbx, hr⟩ | ⟨hag, hj, hjj, hsw, hbx, hr⟩ | ⟨hag, hj, hjj, hsw, hbx, hr⟩⟩
  ·refine ⟨_, hr.1, ?_⟩
   have hlow := low_put (B := W.heap.size) Z (.loop (R .exhausted (some .ret))) (show W.heap.size ≤ A2.heap.size + 1 by omega)
   have Hbx := Lib.hid (hbx.loop (r' := R .exhausted (some .ret)) hr.1)
   have Hrec := Lib.hid (hr.put (r' := R .exhausted (some .ret)) (by omega))
   have HE : Hid (StepE K t JJ Jx (Z.putObj (A2.heap.size + 1) (.loop (R .exhausted (some .ret))))) := Lib.hid (.inr (HJx.out _ _ hjx hlow))
   generalize Z.putObj (A2.heap.size + 1) (.loop (R .exhausted (some .ret))) = Z2 at *
   clear hlow hbx hr hjx
   gi_wp2_with fail
   refine ⟨by simp, .inl ⟨_, _, rfl, run_takeDeferred Hrec.out.2, ?_⟩⟩
   exact leaves_marks (B0 := W.heap.size) (StepE K t JJ Jx) HStep.out (fun A h => ⟨_, results_none rfl _ _ _, ⟨_, rfl⟩, h⟩) ds _ Hbx.out.nd (fun D hD => ⟨(Hbx.out.ms D hD).1, (World.putObj_heap_other (fun e => HDs.out (by rw [← e]; exact hD))).trans (Hbx.out.ms D hD).2⟩) (HStep.out _ _ HE.out (by omega) Hrec.out.2)
  ·refine ⟨_, hr.1, ?_⟩
   have hlow := low_put (B := W.heap.size) Z (.loop (R .exhausted (some .ret))) (show W.heap.size ≤ A2.heap.size + 1 by omega)
   have Hbx := Lib.hid (hbx.loop (r' := R .exhausted (some .ret)) hr.1)
   have Hrec := Lib.hid (hr.put (r' := R .exhausted (some .ret)) (by omega))
   have HE : Hid (StepE K t JJ Jx (Z.putObj (A2.heap.size + 1) (.loop (R .exhausted (some .ret))))) := Lib.hid (.inl ⟨s, Hok.out, hj, hag, HJ.out _ _ _ _ hjj (Out.of_low hlow), SwS.low hsw hlow Hlow.out⟩)
   generalize Z.putObj (A2.heap.size + 1) (.loop (R .exhausted (some .ret))) = Z2 at *
   clear hlow hbx hr hag hjj hsw
   gi_wp2_with fail
   refine ⟨by simp, .inl ⟨_, _, rfl, run_takeDeferred Hrec.out.2, ?_⟩⟩
   exact leaves_marks (B0 := W.heap.size) (StepE K t JJ Jx) HStep.out (fun A h => ⟨_, results_none rfl _ _ _, ⟨_, rfl⟩, h⟩) ds _ Hbx.out.nd (fun D hD => ⟨(Hbx.out.ms D hD).1, (World.putObj_heap_other (fun e => HDs.out (by rw [← e]; exact hD))).trans (Hbx.out.ms D hD).2⟩) (HStep.out _ _ HE.out (by omega) Hrec.out.2)
  ·refine ⟨_, hr.1, ?_⟩
   have hlow := low_put (B := W.heap.size) Z (.loop (R .exhausted (some (.exit 1)))) (show W.heap.size ≤ A2.heap.size + 1 by omega)
   have hrec := hr.put (r' := R .exhausted (some (.exit 1))) (by omega)
   have Hbx := Lib.hid ((hbx.loop (r' := R .exhausted (some (.exit 1))) hr.1).mark hrec.2 (by omega) HDs.out)
   have HJn := Lib.hid (HN.out s _ Hok.out hj hag (HJ.out _ _ _ _ hjj (Out.of_low hlow)))
   have HSn : Hid (SwS (Z.putObj (A2.heap.size + 1) (.loop (R .exhausted (some (.exit 1))))) K ((s.n : Int) - s.n) (lst K.R s.xs s.f) ((s.next K.R).j : Int) (s.next K.R).xs (s.next K.R).ys) := Lib.hid (by
    have := SwS.low hsw hlow Hlow.out
    have e : (((s.next K.R).j : Nat) : Int) = (s.j : Int) + 1 := by show ((s.j + 1 : Nat) : Int) = _; omega
    rw [e]
    exact this)
   have HOk : Hid ((s.next K.R).Ok K.R t) := Lib.hid ⟨Hok.out.lap.next HR.out hag, by show s.j + 1 ≤ 100; omega⟩
   generalize Z.putObj (A2.heap.size + 1) (.loop (R .exhausted (some (.exit 1)))) = Z2 at *
   clear hlow hbx hr hag hjj hsw hrec
   gi_wp2_with fail
   exact Handed.intro (101 - (s.j + 1)) (by omega) (HJ'.out _ _ _ ⟨s.next K.R, A2.heap.size :: ds, _, _, _, _, _, _, _, _, _, _, _, _, _, _, _, _, _, _, _, _, _, _, _, _, _, _, _, _, _, _, _, _, _, _, rfl, rfl, HOk.out, HJn.out, HSn.out, Hbx.out⟩)
/- Mov5 -/
open Go.RowKit Go.Shelf
attribute [local go_sem] Oper.semAt_some
def SoZ (n1 n2 : Nat) (la lp code : Int) (xs ys : List Int) (w : World) (e : Ending) (w' : World) : Prop :=
 ∃ a1 c1 b1 a2 c2 b2, e = .returned (.tuple #[.agg #[.slice a1 n1 c1, .slice a2 n2 c2, .int .i64 la, .int .i64 lp], .int .i64 code]) ∧ PosO w' w.heap.size a1 a2 b1 b2 n1 n2 xs ys ∧ b1 < w'.heap.size ∧ b2 < w'.heap.size ∧ n1 ≤ c1 ∧ n2 ≤ c2 ∧ Below w.heap.size w w'
theorem soZ_zero {w u : World} (cd : Int) (hb : Below w.heap.size w u) (h : w.heap.size + 1 < u.heap.size) : SoZ 0 0 0 0 cd [] [] w (.returned (.tuple #[.agg #[.slice none 0 0, .slice none 0 0, .int .i64 0, .int .i64 0], .int .i64 cd])) u :=
 ⟨none, 0, w.heap.size, none, 0, w.heap.size + 1, rfl, posO_zero _ _, by omega, h, Nat.le_refl _, Nat.le_refl _, hb⟩
structure RsV (w : World) (x0 x1 x2 x3 : Value) (cd : Int) (A : World) : Prop where
 be : Below w.heap.size w A
 lt : w.heap.size + 1 + 1 + 1 < A.heap.size
 c0 : A.cell? ⟨w.heap.size + 1 + 1, 0, none⟩ = some x0
 c1 : A.cell? ⟨w.heap.size + 1 + 1, 1, none⟩ = some x1
 c2 : A.cell? ⟨w.heap.size + 1 + 1, 2, none⟩ = some x2
 c3 : A.cell? ⟨w.heap.size + 1 + 1, 3, none⟩ = some x3
 c4 : A.cell? ⟨w.heap.size + 1 + 1 + 1, 0, none⟩ = some (.int .i64 cd)
 f0 : A.frozen? ⟨w.heap.size + 1 + 1, 0, none⟩ = false
 f1 : A.frozen? ⟨w.heap.size + 1 + 1, 1, none⟩ = false
 f2 : A.frozen? ⟨w.heap.size + 1 + 1, 2, none⟩ = false
 f3 : A.frozen? ⟨w.heap.size + 1 + 1, 3, none⟩ = false
 f4 : A.frozen? ⟨w.heap.size + 1 + 1 + 1, 0, none⟩ = false
section
variable {w A Z : World} {x0 x1 x2 x3 : Value} {cd : Int}
theorem RsV.keep (h : RsV w x0 x1 x2 x3 cd A) (hb : Below w.heap.size w Z) (hs : A.heap.size ≤ Z.heap.size) (k2 : Z.heap[w.heap.size + 1 + 1]? = A.heap[w.heap.size + 1 + 1]?) (k3 : Z.heap[w.heap.size + 1 + 1 + 1]? = A.heap[w.heap.size + 1 + 1 + 1]?) : RsV w x0 x1 x2 x3 cd Z := by
 have e := fun o => World.cell?_of_block (a := ⟨w.heap.size + 1 + 1, o, none⟩) k2
 have f := fun o => World.frozen?_of_block (a := ⟨w.heap.size + 1 + 1, o, none⟩) k2
 have e' := fun o => World.cell?_of_block (a := ⟨w.heap.size + 1 + 1 + 1, o, none⟩) k3
 have f' := fun o => World.frozen?_of_block (a := ⟨w.heap.size + 1 + 1 + 1, o, none⟩) k3
 exact ⟨hb, Nat.lt_of_lt_of_le h.lt hs, (e _).trans h.c0, (e _).trans h.c1, (e _).trans h.c2, (e _).trans h.c3, (e' _).trans h.c4, (f _).trans h.f0, (f _).trans h.f1, (f _).trans h.f2, (f _).trans h.f3, (f' _).trans h.f4⟩
theorem RsV.below (h : RsV w x0 x1 x2 x3 cd A) (k : Below A.heap.size A Z) : RsV w x0 x1 x2 x3 cd Z :=
 have hl := h.lt
 h.keep (h.be.trans (k.mono h.be.size)) k.size (k.block _ (by omega)) (k.block _ (by omega))
theorem RsV.low {B : Nat} (h : RsV w x0 x1 x2 x3 cd A) (k : Below B A Z) (hB : w.heap.size + 4 ≤ B) : RsV w x0 x1 x2 x3 cd Z :=
 h.keep (h.be.trans (k.mono (by omega))) k.size (k.block _ (by omega)) (k.block _ (by omega))
theorem RsV.of_out {B : Nat} {K : Cfg} (h : RsV w x0 x1 x2 x3 cd A) (k : Out B K A Z) (hB : w.heap.size + 4 ≤ B) (b0 : w.heap.size + 4 ≤ K.b) (b1 : w.heap.size + 4 ≤ K.g1) (b2 : w.heap.size + 4 ≤ K.g2) : RsV w x0 x1 x2 x3 cd Z :=
 h.keep ⟨k.os.trans h.be.os, k.tape.trans h.be.tape, k.output.trans h.be.output, Nat.le_trans h.be.size k.size, fun i hi => (k.keep i (by omega) (by omega) (by omega) (by omega)).trans (h.be.block i hi)⟩ k.size (k.keep _ (by omega) (by omega) (by omega) (by omega)) (k.keep _ (by omega) (by omega) (by omega) (by omega))
theorem RsV.set (h : RsV w x0 x1 x2 x3 cd A) (y0 y1 y2 y3 : Value) (cd' : Int) : RsV w y0 y1 y2 y3 cd' (((((A.setCell ⟨w.heap.size + 1 + 1, 0, none⟩ y0).setCell ⟨w.heap.size + 1 + 1, 1, none⟩ y1).setCell ⟨w.heap.size + 1 + 1, 2, none⟩ y2).setCell ⟨w.heap.size + 1 + 1, 3, none⟩ y3).setCell ⟨w.heap.size + 1 + 1 + 1, 0, none⟩ (.int .i64 cd')) := by
 obtain ⟨hb, hl, c0, c1, c2, c3, c4, f0, f1, f2, f3, f4⟩ := h
 exact ⟨((((hb.setCell (p := ⟨w.heap.size + 1 + 1, 0, none⟩) (by show w.heap.size ≤ w.heap.size + 1 + 1; omega) _).setCell (p := ⟨w.heap.size + 1 + 1, 1, none⟩) (by show w.heap.size ≤ w.heap.size + 1 + 1; omega) _).setCell (p := ⟨w.heap.size + 1 + 1, 2, none⟩) (by show w.heap.size ≤ w.heap.size + 1 + 1; omega) _).setCell (p := ⟨w.heap.size + 1 + 1, 3, none⟩) (by show w.heap.size ≤ w.heap.size + 1 + 1; omega) _).setCell (p := ⟨w.heap.size + 1 + 1 + 1, 0, none⟩) (by show w.heap.size ≤ w.heap.size + 1 + 1 + 1; omega) _,
  by simpa using hl, by go_simp, by go_simp, by go_simp, by go_simp, by go_simp, by go_simp, by go_simp, by go_simp, by go_simp, by go_simp⟩
end
theorem above_rs {w A : World} {B : Nat} (hB : w.heap.size + 4 ≤ B) (y0 y1 y2 y3 y4 : Value) : Above B A (((((A.setCell ⟨w.heap.size + 1 + 1, 0, none⟩ y0).setCell ⟨w.heap.size + 1 + 1, 1, none⟩ y1).setCell ⟨w.heap.size + 1 + 1, 2, none⟩ y2).setCell ⟨w.heap.size + 1 + 1, 3, none⟩ y3).setCell ⟨w.heap.size + 1 + 1 + 1, 0, none⟩ y4) :=
 ((((Above.setCell (by show w.heap.size + 1 + 1 < B; omega) _).trans (Above.setCell (by show w.heap.size + 1 + 1 < B; omega) _)).trans (Above.setCell (by show w.heap.size + 1 + 1 < B; omega) _)).trans (Above.setCell (by show w.heap.size + 1 + 1 < B; omega) _)).trans (Above.setCell (by show w.heap.size + 1 + 1 + 1 < B; omega) _)
theorem rec_rs {w A : World} {L D : Nat} {r : Loop} {x0 x1 x2 x3 : Value} {cd : Int} (h : RecAt A L D r) (k : RsV w x0 x1 x2 x3 cd A) (y0 y1 y2 y3 y4 : Value) : RecAt (((((A.setCell ⟨w.heap.size + 1 + 1, 0, none⟩ y0).setCell ⟨w.heap.size + 1 + 1, 1, none⟩ y1).setCell ⟨w.heap.size + 1 + 1, 2, none⟩ y2).setCell ⟨w.heap.size + 1 + 1, 3, none⟩ y3).setCell ⟨w.heap.size + 1 + 1 + 1, 0, none⟩ y4) L D r := by
 obtain ⟨hb, hl, c0, c1, c2, c3, c4, f0, f1, f2, f3, f4⟩ := k
 exact ((((h.setCell c0 y0).setCell (v := x1) (by go_simp) y1).setCell (v := x2) (by go_simp) y2).setCell (v := x3) (by go_simp) y3).setCell (v := .int .i64 cd) (by go_simp) y4
theorem rv_new (p s c l : Int) (st sk re fe ag : Bool) (p1 p2 : Option Addr) (pn1 pc1 pn2 pc2 : Nat) (pp : Int) (w : World) (T U V S : TypeId) : RsV w (.slice none 0 0) (.slice none 0 0) (.int .i64 0) (.int .i64 0) 0 ((((w.alloc (.cells #[.int .i64 p, .int .i64 s, .bool st, .bool sk, .bool re, .bool fe, .bool ag, .int .i64 c, .int .i64 l] T)).alloc (.cells #[.slice p1 pn1 pc1, .slice p2 pn2 pc2, .int .i64 pp] U)).alloc (.cells #[.slice none 0 0, .slice none 0 0, .int .i64 0, .int .i64 0] V)).alloc (.cells #[.int .i64 0] S)) :=
 ⟨((((Below.refl _ _).alloc (Nat.le_refl _) _).alloc (by simp) _).alloc (by simp; omega) _).alloc (by simp; omega) _, by simp, by go_simp, by go_simp, by go_simp, by go_simp, by go_simp, by go_simp, by go_simp, by go_simp, by go_simp, by go_simp⟩
theorem sw_new (K : Cfg) (ha la lp : Int) (xs ys : List Int) (u : World) (T : TypeId) (hb : K.b = u.heap.size) (o1 : OutN u K.B (some ⟨K.g1, 0, none⟩) K.g1 xs) (o2 : OutN u K.B (some ⟨K.g2, 0, none⟩) K.g2 ys) (l1 : xs.length = K.n1) (l2 : ys.length = 2) (d3 : K.g1 ≠ K.g2) (h1 : K.g1 < u.heap.size) (h2 : K.g2 < u.heap.size) :
  SwS (u.alloc (.cells #[.int .i64 K.p, .int .i64 K.s, .bool K.st, .bool K.sk, .bool K.re, .bool K.fe, .bool K.ag, .int .i64 K.c, .int .i64 K.l, .int .i64 K.pl, .int .i64 K.fi, .int .i64 ha, .slice (some ⟨K.g1, 0, none⟩) K.n1 K.c1, .slice (some ⟨K.g2, 0, none⟩) 2 K.c2, .int .i64 la, .int .i64 lp] T)) K ha la lp xs ys :=
 ⟨by rw [hb]; simp, by rw [hb]; go_simp, by rw [hb]; go_simp, by rw [hb]; go_simp, by rw [hb]; go_simp, by rw [hb]; go_simp, by rw [hb]; go_simp, by rw [hb]; go_simp, by rw [hb]; go_simp, by rw [hb]; go_simp, by rw [hb]; go_simp, by rw [hb]; go_simp, by rw [hb]; go_simp, by rw [hb]; go_simp, by rw [hb]; go_simp, by rw [hb]; go_simp, by rw [hb]; go_simp,
  fun o => by rw [hb]; go_simp, o1.below (al1 _ _), o2.below (al1 _ _), l1, l2, by omega, by omega, d3, by simp; omega, by simp; omega⟩
theorem keep_rs {w A : World} {k : Nat} (hk : w.heap.size + 4 ≤ k) (y0 y1 y2 y3 y4 : Value) : (((((A.setCell ⟨w.heap.size + 1 + 1, 0, none⟩ y0).setCell ⟨w.heap.size + 1 + 1, 1, none⟩ y1).setCell ⟨w.heap.size + 1 + 1, 2, none⟩ y2).setCell ⟨w.heap.size + 1 + 1, 3, none⟩ y3).setCell ⟨w.heap.size + 1 + 1 + 1, 0, none⟩ y4).heap[k]? = A.heap[k]? :=
 ((((Below.heap_setCell _ ⟨w.heap.size + 1 + 1 + 1, 0, none⟩ _ k (by show k ≠ w.heap.size + 1 + 1 + 1; omega)).trans (Below.heap_setCell _ ⟨w.heap.size + 1 + 1, 3, none⟩ _ k (by show k ≠ w.heap.size + 1 + 1; omega))).trans (Below.heap_setCell _ ⟨w.heap.size + 1 + 1, 2, none⟩ _ k (by show k ≠ w.heap.size + 1 + 1; omega))).trans (Below.heap_setCell _ ⟨w.heap.size + 1 + 1, 1, none⟩ _ k (by show k ≠ w.heap.size + 1 + 1; omega))).trans (Below.heap_setCell _ ⟨w.heap.size + 1 + 1, 0, none⟩ _ k (by show k ≠ w.heap.size + 1 + 1; omega))
theorem RecAt.of_out {A Z : World} {B L D : Nat} {K : Cfg} {r : Loop} (h : RecAt A L D r) (k : Out B K A Z) (hL : L < B) (hD : D < B) (b0 : K.b < D) (b1 : K.g1 < D) (b2 : K.g2 < D) (hDL : D < L) : RecAt Z L D r :=
 ⟨(k.keep L hL (by omega) (by omega) (by omega)).trans h.1, (k.keep D hD (by omega) (by omega) (by omega)).trans h.2⟩
structure MoJ (w : World) (K : Cfg) (MV : Option Res) (L D : Nat) (R : LoopState → Option Code → Loop) (s : Stg) (i : Nat) (A : World) : Prop where
 rs : RsV w (.slice none 0 0) (.slice none 0 0) (.int .i64 0) (.int .i64 0) 0 A
 mv : mvF K.R (100 - s.j) s.xs s.ys s.f s.j s.path = MV
 rc : RecAt A L D (R .ready none)
structure MoX (w : World) (MV : Option Res) (L D : Nat) (R : LoopState → Option Code → Loop) (Z : World) : Prop where
 rs : RsV w (.slice none 0 0) (.slice none 0 0) (.int .i64 0) (.int .i64 0) 10 Z
 mv : MV = none
 rc : RecAt Z L D (R .done (some .ret))
theorem mv_next {R : Rl} {s : Stg} {MV : Option Res} (hj : s.j < 100) (ha : agn R s.xs s.f = true) (h : mvF R (100 - s.j) s.xs s.ys s.f s.j s.path = MV) : mvF R (100 - (s.next R).j) (s.next R).xs (s.next R).ys (s.next R).f (s.next R).j (s.next R).path = MV := by
 obtain ⟨m, hm⟩ : ∃ m, 100 - s.j = m + 1 := ⟨99 - s.j, by omega⟩
 rw [hm, mvF_yes ha] at h
 have e : 100 - (s.next R).j = m := by show 100 - (s.j + 1) = m; omega
 rw [e]
 exact h
theorem mv_last {R : Rl} {s : Stg} {MV : Option Res} (hj : s.j < 100) (ha : agn R s.xs s.f = false) (h : mvF R (100 - s.j) s.xs s.ys s.f s.j s.path = MV) : MV = some ⟨cx R s.xs s.f s.n, cy R s.ys s.f s.n, lst R s.xs s.f, s.j + 1, s.path ++ lapP R s.f s.n⟩ := by
 obtain ⟨m, hm⟩ : ∃ m, 100 - s.j = m + 1 := ⟨99 - s.j, by omega⟩
 rw [hm, mvF_no ha] at h
 exact h.symm
theorem mv_end {R : Rl} {s : Stg} {MV : Option Res} (hj : ¬ s.j < 100) (h : mvF R (100 - s.j) s.xs s.ys s.f s.j s.path = MV) : MV = none := by
 rw [show 100 - s.j = 0 by omega] at h
 exact h.symm
/- Mov6 -/
open Go.RowKit Go.Shelf
attribute [local go_sem] Oper.semAt_some
theorem lap_of_ok {p s c l pp : Int} {st sk re ag : Bool} {n1 n2 : Nat} {xs ys : List Int} {F : Nat} (hk : okP (okR p s c l st ag) p n1 n2 pp xs ys = true) (l1 : xs.length = n1) (l2 : ys.length = n2) (hF : F < n1) (he : xs.getD F 0 ≠ 0) : Lap ⟨p, pp, st, sk, re⟩ xs ys F (tot xs + tot ys) := by
 obtain ⟨h1, h2, h3, h4, h5⟩ := okP_parts hk
 obtain ⟨k1, k2, k3⟩ := seedB_parts h5
 have := posB_getD k1 F
 exact ⟨⟨by show (xs.length : Int) = 2 * p; rw [l1]; exact h2, by rw [l2, h3], k1, k2, rfl⟩, by omega, by show (F : Int) < 2 * p; omega, by rw [Int.toNat_natCast]; omega, k3⟩
def MvQ (n1 : Nat) (MV : Option Res) (w : World) (e : Ending) (w' : World) : Prop :=
 match MV with
 | none => SoZ 0 0 0 0 10 [] [] w e w'
 | some m => SoZ n1 2 m.last m.laps 0 m.xs m.ys w e w'
theorem yield_mono {F : Fence} {m : Nat} {P : Program} {l : Nat} {args : Array Value} {W : World} {R R' : Ending → World → Prop} (h : YieldAt F m P l args W R) (hr : ∀ e w, R e w → R' e w) : YieldAt F m P l args W R' := by
 obtain ⟨fn, tmps, assign, body, hy, hR⟩ := h
 exact ⟨fn, tmps, assign, body, hy, RoundIn.mono hR hr⟩
structure MoP (w : World) (K : Cfg) (MV : Option Res) (L D : Nat) (R : LoopState → Option Code → Loop) (B : Nat) (A : World) (s : Stg) (i : Nat) (e : Ending) (Z : World) : Prop where
 or : (e = .returned (.bool true) ∧ s.j < 100 ∧ MoJ w K MV L D R s (i + 1) Z ∧ StW Z K s (i + 1) (K.R.at s.f i) ∧ Above B A Z) ∨ (e = .returned (.bool false) ∧ MoX w MV L D R Z ∧ Above B A Z)
theorem implMove_err (p s c l : Int) (st sk re fe ag : Bool) (p1 p2 : Option Addr) (pn1 pc1 pn2 pc2 : Nat) (pp : Int) (move cd : Int) (hcd : (cd == 0) = false) (w : World) (hb : ∀ u, Below w.heap.size w u → Calls Try.prog 88 #[.agg #[.int .i64 p, .int .i64 s, .bool st, .bool sk, .bool re, .bool fe, .bool ag, .int .i64 c, .int .i64 l], .agg #[.slice p1 pn1 pc1, .slice p2 pn2 pc2, .int .i64 pp], .int .i64 move] u (BegZ cd u)) :
  Calls Try.prog 73 #[.agg #[.int .i64 p, .int .i64 s, .bool st, .bool sk, .bool re, .bool fe, .bool ag, .int .i64 c, .int .i64 l], .agg #[.slice p1 pn1 pc1, .slice p2 pn2 pc2, .int .i64 pp], .int .i64 move] w (SoZ 0 0 0 0 cd [] [] w) := by
 have HB := Lib.hid hb
 have HR := Lib.hid (rv_new p s c l st sk re fe ag p1 p2 pn1 pc1 pn2 pc2 pp w 31 32 75 2)
 clear hb
 refine (callsIn_wide (n := 6)).1 ?_
 refine callsIn_of_wp_marks Try.func73 rfl trivial ?_ rfl
 simp only [Try.ntmps73, List.size_toArray, List.length_cons, List.length_nil, Nat.reduceAdd, Nat.reduceSub, Array.replicate_succ, Array.replicate_zero, List.push_toArray, List.append_toArray, List.nil_append, List.cons_append]
 gi_wp2_with fail
 refine ⟨trivial, ?_⟩
 refine CallsIn.mono (callsIn_wide.2 (HB.out _ HR.out.be)) ?_
 rintro e u ⟨rfl, hb⟩
 have HR := Lib.hid (HR.out.below hb)
 clear hb HB
 obtain ⟨rb, rl, c0, c1, c2, c3, c4, f0, f1, f2, f3, f4⟩ := HR.out
 have rl2 : w.heap.size + 1 + 1 < u.heap.size := by omega
 gi_wp2_with fail
 have HF := (HR.out.set (.slice none 0 0) (.slice none 0 0) (.int .i64 0) (.int .i64 0) cd).below (al1 _ (.cells #[.int .i64 0, .int .i64 0, .bool false, .bool false, .bool false, .bool false, .bool false, .int .i64 0, .int .i64 0, .int .i64 0, .int .i64 0, .int .i64 0, .slice none 0 0, .slice none 0 0, .int .i64 0, .int .i64 0] 124))
 exact ⟨.tuple #[.agg #[.slice none 0 0, .slice none 0 0, .int .i64 0, .int .i64 0], .int .i64 cd], by simp [results, Try.results73, go_sem, HF.c0, HF.c1, HF.c2, HF.c3, HF.c4], soZ_zero cd HF.be (by have := HF.lt; omega)⟩
theorem implMove0 (p s c l : Int) (st sk re fe ag : Bool) (p1 p2 : Option Addr) (pn1 pc1 pn2 pc2 : Nat) (xs ys : List Int) (move : Int) (w : World) (h : PosR w p1 p2 pn1 pn2 xs ys) (hk : okP (okR p s c l st ag) p pn1 pn2 0 xs ys = true) (F : Nat) (hF : F < pn1) (hf : 0 * p + move = F) (hm0 : 0 ≤ move) (hm1 : move < p) (he : xs.getD F 0 ≠ 0)
  (MV : Option Res) (hMV : mvF ⟨p, 0, st, sk, re⟩ 100 xs ys F 0 [] = MV) :
  Calls Try.prog 73 #[.agg #[.int .i64 p, .int .i64 s, .bool st, .bool sk, .bool re, .bool fe, .bool ag, .int .i64 c, .int .i64 l], .agg #[.slice p1 pn1 pc1, .slice p2 pn2 pc2, .int .i64 0], .int .i64 move] w (MvQ pn1 MV w) := by
 have HR := Lib.hid (rv_new p s c l st sk re fe ag p1 p2 pn1 pc1 pn2 pc2 0 w 31 32 75 2)
 have hok := okP_parts hk
 have hbd := okR_bd hok.1
 have hn1 := hok.2.1
 have hp2 := hbd.1
 have hp8 := hbd.2.1
 have HL := Lib.hid (lap_of_ok (sk := sk) (re := re) hk h.l1 h.l2 hF he)
 have HB : Hid (∀ u, Below w.heap.size w u → Calls Try.prog 88 #[.agg #[.int .i64 p, .int .i64 s, .bool st, .bool sk, .bool re, .bool fe, .bool ag, .int .i64 c, .int .i64 l], .agg #[.slice p1 pn1 pc1, .slice p2 pn2 pc2, .int .i64 0], .int .i64 move] u (BegY p s c l st sk re fe ag 0 F pn1 xs ys u)) := Lib.hid fun u hu => begin_yes p s c l st sk re fe ag p1 p2 pn1 pc1 pn2 pc2 0 xs ys move u (h.below hu) hk F hF hf hm0 hm1 he
 have HMV := Lib.hid hMV
 have hl1 := h.l1
 have hl2 := h.l2
 rw [hok.2.2.1] at hl2
 clear hk hok hbd hMV he h
 refine (callsIn_wide (n := 6)).1 ?_
 refine callsIn_of_wp_marks Try.func73 rfl trivial ?_ rfl
 simp only [Try.ntmps73, List.size_toArray, List.length_cons, List.length_nil, Nat.reduceAdd, Nat.reduceSub, Array.replicate_succ, Array.replicate_zero, List.push_toArray, List.append_toArray, List.nil_append, List.cons_append]
 gi_wp2_with fail
 refine ⟨trivial, ?_⟩
 refine CallsIn.mono (callsIn_wide.2 (HB.out _ HR.out.be)) ?_
 have HE := HR.out.lt
 generalize (((w.alloc (.cells #[.int .i64 p, .int .i64 s, .bool st, .bool sk, .bool re, .bool fe, .bool ag, .int .i64 c, .int .i64 l] 31)).alloc (.cells #[.slice p1 pn1 pc1, .slice p2 pn2 pc2, .int .i64 0] 32)).alloc (.cells #[.slice none 0 0, .slice none 0 0, .int .i64 0, .int .i64 0] 75)).alloc (.cells #[.int .i64 0] 2) = W0 at *
 rintro e u ⟨g1, c1, g2, c2, rfl, o1, o2, hne, hl5, hl6, hc5, hc6, hb⟩
 have HR := Lib.hid (HR.out.below hb)
 have hsz := hb.size
 clear hb HB
 obtain ⟨K, hK⟩ : ∃ K : Cfg, K = ⟨p, s, c, l, st, sk, re, fe, ag, 0, F, W0.heap.size, u.heap.size, g1, c1, g2, c2, pn1⟩ := ⟨_, rfl⟩
 have HK := Lib.hid hK
 have HS := Lib.hid (sw_new K 0 0 0 xs ys u 124 (by rw [hK]) (by rw [hK]; exact o1) (by rw [hK]; exact o2) (by rw [hK]; exact hl1) hl2 (by rw [hK]; exact hne) (by rw [hK]; exact hl5) (by rw [hK]; exact hl6))
 have hg1 := o1.new
 have hg2 := o2.new
 clear o1 o2 hK
 gi_wp2_with fail
 have HR1 := Lib.hid (HR.out.below (al1 u (.cells #[.int .i64 p, .int .i64 s, .bool st, .bool sk, .bool re, .bool fe, .bool ag, .int .i64 c, .int .i64 l, .int .i64 0, .int .i64 F, .int .i64 0, .slice (some ⟨g1, 0, none⟩) pn1 c1, .slice (some ⟨g2, 0, none⟩) 2 c2, .int .i64 0, .int .i64 0] 124)))
 have HS1 : Hid (SwS (u.alloc (.cells #[.int .i64 p, .int .i64 s, .bool st, .bool sk, .bool re, .bool fe, .bool ag, .int .i64 c, .int .i64 l, .int .i64 0, .int .i64 F, .int .i64 0, .slice (some ⟨g1, 0, none⟩) pn1 c1, .slice (some ⟨g2, 0, none⟩) 2 c2, .int .i64 0, .int .i64 0] 124)) K 0 0 0 xs ys) := by
  have h := HS.out
  rw [HK.out] at h ⊢
  exact Lib.hid h
 have hsz1 : (u.alloc (.cells #[.int .i64 p, .int .i64 s, .bool st, .bool sk, .bool re, .bool fe, .bool ag, .int .i64 c, .int .i64 l, .int .i64 0, .int .i64 F, .int .i64 0, .slice (some ⟨g1, 0, none⟩) pn1 c1, .slice (some ⟨g2, 0, none⟩) 2 c2, .int .i64 0, .int .i64 0] 124)).heap.size = u.heap.size + 1 := by simp
 generalize (u.alloc (.cells #[.int .i64 p, .int .i64 s, .bool st, .bool sk, .bool re, .bool fe, .bool ag, .int .i64 c, .int .i64 l, .int .i64 0, .int .i64 F, .int .i64 0, .slice (some ⟨g1, 0, none⟩) pn1 c1, .slice (some ⟨g2, 0, none⟩) 2 c2, .int .i64 0, .int .i64 0] 124)) = W1 at *
 have hKb : K.b = u.heap.size := by rw [HK.out]
 have hKg1 : K.g1 = g1 := by rw [HK.out]
 have hKg2 : K.g2 = g2 := by rw [HK.out]
 have hKc1 : K.c1 = c1 := by rw [HK.out]
 have hKc2 : K.c2 = c2 := by rw [HK.out]
 have hKn1 : K.n1 = pn1 := by rw [HK.out]
 have hKR : K.R = ⟨p, 0, st, sk, re⟩ := by rw [HK.out]; rfl
 have hKB : K.B = W0.heap.size := by rw [HK.out]
 have hb4 : w.heap.size + 4 ≤ K.b := by rw [hKb]; omega
 have hb5 : w.heap.size + 4 ≤ K.g1 := by rw [hKg1]; omega
 have hb6 : w.heap.size + 4 ≤ K.g2 := by rw [hKg2]; omega
 have hW1 : w.heap.size + 4 ≤ W1.heap.size := by omega
 have hlow : K.b < W1.heap.size ∧ K.g1 < W1.heap.size ∧ K.g2 < W1.heap.size := ⟨by omega, by omega, by omega⟩
 rw [← hKb]
 have Hsz1 := Lib.hid hsz1
 have Hsz := Lib.hid hsz
 have HKn := Lib.hid (And.intro hKg1 (And.intro hKg2 (And.intro hKc1 (And.intro hKc2 (And.intro hKn1 (And.intro hKR (And.intro hKB hKb)))))))
 clear hsz1 hsz
 refine range_stmt (gf := 89) (fb := #[.pointer (some ⟨K.b, 0, none⟩)]) (cb := #[]) rfl (enters_of Try.func89 (by kernel_rfl) rfl) ?_
 intro fn R hRR
 have hb12 : Below W1.heap.size W1 ((W1.alloc (.deferred (some []))).alloc (.loop (R .ready none))) := ((Below.refl _ W1).alloc (Nat.le_refl _) _).alloc (by simp) _
 have hrc : RecAt ((W1.alloc (.deferred (some []))).alloc (.loop (R .ready none))) (W1.heap.size + 1) W1.heap.size (R .ready none) := laid_loop W1 _
 have hsz2 : ((W1.alloc (.deferred (some []))).alloc (.loop (R .ready none))).heap.size = W1.heap.size + 1 + 1 := by simp
 have HR2 := Lib.hid (HR1.out.low hb12 hW1)
 have HS2 := Lib.hid (HS1.out.low hb12 hlow)
 generalize (W1.alloc (.deferred (some []))).alloc (.loop (R .ready none)) = W2 at *
 have HRR := Lib.hid hRR
 clear hRR
 have Hrc := Lib.hid hrc
 have hKp : K.p = p := by rw [HK.out]
 have Hsz2 := Lib.hid hsz2
 refine (steps_gives0 (6 - 1) K (by rw [HK.out]) (by rw [hKp]; exact hp2) (by rw [hKp]; exact hp8) (by rw [hKn1, hKp]; exact hn1) (tot xs + tot ys) (W1.heap.size + 1) (MoJ w K MV (W1.heap.size + 1) W1.heap.size R) (MoX w MV (W1.heap.size + 1) W1.heap.size R) W2 ⟨0, xs, ys, F, []⟩ 0 0
  HS2.out (by rw [HK.out]) ⟨by rw [hKR]; exact HL.out, by show 0 ≤ 100; omega⟩ rfl ?_ ?_ ?_ ?_ ⟨HR2.out, by rw [hKR]; exact HMV.out, Hrc.out⟩).mono ?_
 all_goals clear hKb hKg1 hKg2 hKc1 hKc2 hKn1 hKR hKB hKp
 ·rintro s2 i A Z ⟨h1, h2, h3⟩ ho
  exact ⟨h1.of_out ho (by omega) hb4 hb5 hb6, h2, h3.of_out ho (by omega) (by omega) hlow.1 hlow.2.1 hlow.2.2 (by omega)⟩
 ·rintro A Z ⟨h1, h2, h3⟩ ho
  exact ⟨h1.low ho (by omega), h2, ⟨(ho.block _ (by omega)).trans h3.1, (ho.block _ (by omega)).trans h3.2⟩⟩
 ·rintro s2 i A hok hi ⟨hrs, hmv, hrc2⟩ hsw
  refine yield_mono (R := MoP w K MV (W1.heap.size + 1) W1.heap.size R W2.heap.size A s2 i) ?_ (fun e Z h => h.or)
  refine round_yield HRR.out hrc2.1 rfl ?_
  intro K0 hK0
  clear hsz2
  gi_wp2
  refine ⟨hrc2.1, ?_⟩
  have hsz2 := Hsz2.out
  have hl3 := low_put (B := W1.heap.size) A (.loop (R .busy none)) (show W1.heap.size ≤ W1.heap.size + 1 by omega)
  have Hrs3 := Lib.hid (hrs.low hl3 hW1)
  have Hsw3 := Lib.hid (SwS.low hsw hl3 hlow)
  have Hrc3 := Lib.hid (hrc2.put (r' := R .busy none) (by omega))
  have Hab3 := Lib.hid (Above.putObj (B := W2.heap.size) (A := A) (r := W1.heap.size + 1) (.loop (R .busy none)) (by omega))
  have Hmv := Lib.hid hmv
  generalize A.putObj (W1.heap.size + 1) (.loop (R .busy none)) = A3 at *
  clear hl3 hrs hsw hrc2 hmv hsz2
  gi_wp2_with fail
  refine ⟨trivial, ?_⟩
  refine CallsIn.mono (CallsIn.inRound _ (callsIn_wide.2 (endless_any K _ _ _ _ _ A3 Hsw3.out))) ?_
  rintro e A4 ⟨rfl, rfl⟩
  by_cases hj : s2.j < 100
  ·have hd : decide (100 < (s2.j : Int) + 1) = false := by simp; omega
   rw [hd]
   gi_wp2_with fail
   have hl4 := low_put (B := W1.heap.size) A3 (.loop (R .ready none)) (show W1.heap.size ≤ W1.heap.size + 1 by omega)
   exact ⟨Hrc3.out.1, ⟨.inl ⟨rfl, hj, ⟨Hrs3.out.low hl4 hW1, Hmv.out, Hrc3.out.put (by omega)⟩, SwS.low Hsw3.out hl4 hlow, Hab3.out.trans (Above.putObj _ (by have := Hsz2.out; omega))⟩⟩⟩
  ·have hd : decide (100 < (s2.j : Int) + 1) = true := by simp; omega
   rw [hd]
   have Hmn := Lib.hid (mv_end hj Hmv.out)
   obtain ⟨rb, rl, c0, c1', c2', c3, c4, f0, f1, f2, f3, f4⟩ := Hrs3.out
   have rl2 : w.heap.size + 1 + 1 < A3.heap.size := by omega
   dsimp only
   iterate 20 (first | go_values | gi_guarded | gi_step | gi_upon)
   simp only [Exit.inBlock]
   have hrc5 := rec_rs Hrc3.out Hrs3.out (.slice none 0 0) (.slice none 0 0) (.int .i64 0) (.int .i64 0) (.int .i64 10)
   exact ⟨hrc5.1, ⟨.inr ⟨rfl, ⟨(Hrs3.out.set (.slice none 0 0) (.slice none 0 0) (.int .i64 0) (.int .i64 0) 10).low (low_put (B := W1.heap.size) _ _ (by omega)) hW1, Hmn.out, hrc5.put (by omega)⟩, (Hab3.out.trans (above_rs (by have := Hsz2.out; omega) _ _ _ _ _)).trans (Above.putObj _ (by have := Hsz2.out; omega))⟩⟩⟩
 ·rintro s2 A hok hj hag ⟨h1, h2, h3⟩
  exact ⟨h1, mv_next hj hag h2, h3⟩
 ·rintro e Z ⟨hv, hz⟩
  refine ⟨hv, ?_⟩
  clear hsz2
  rcases hz with ⟨s2, hok, hj, hag, ⟨hrs, hmv, hrc3⟩, hsw⟩ | ⟨hrs, hmv, hrc3⟩
  ·refine .inl ⟨hrc3.1, ?_⟩
   have hl3 := low_put (B := W1.heap.size) Z (.loop (R .exhausted none)) (show W1.heap.size ≤ W1.heap.size + 1 by omega)
   have Hrs3 := Lib.hid (hrs.low hl3 hW1)
   have Hsw3 := Lib.hid (SwS.low hsw hl3 hlow)
   have Hrc3 := Lib.hid (hrc3.put (r' := R .exhausted none) (by omega))
   have Hmn := Lib.hid (mv_last hj hag hmv)
   generalize Z.putObj (W1.heap.size + 1) (.loop (R .exhausted none)) = Z2 at *
   obtain ⟨rb, rl, e0, e1, e2, e3, e4, f0, f1, f2, f3, f4⟩ := Hrs3.out
   have rl2 : w.heap.size + 1 + 1 < Z2.heap.size := by omega
   have q12 := Hsw3.out.q12
   have q13 := Hsw3.out.q13
   have q14 := Hsw3.out.q14
   have q15 := Hsw3.out.q15
   clear hl3 hrs hsw hrc3 hmv hv
   gi_wp2_with fail
   have hrc5 := rec_rs Hrc3.out Hrs3.out (.slice (some ⟨K.g1, 0, none⟩) K.n1 K.c1) (.slice (some ⟨K.g2, 0, none⟩) 2 K.c2) (.int .i64 (lst K.R s2.xs s2.f)) (.int .i64 ((s2.j : Int) + 1)) (.int .i64 0)
   refine ⟨by simp, .inl ⟨_, _, rfl, run_takeDeferred hrc5.2, ?_⟩⟩
   have HF := (Hrs3.out.set (.slice (some ⟨K.g1, 0, none⟩) K.n1 K.c1) (.slice (some ⟨K.g2, 0, none⟩) 2 K.c2) (.int .i64 (lst K.R s2.xs s2.f)) (.int .i64 ((s2.j : Int) + 1)) 0).low (low_put (B := W1.heap.size) _ (.deferred none) (Nat.le_refl _)) hW1
   refine ⟨.tuple #[.agg #[.slice (some ⟨K.g1, 0, none⟩) K.n1 K.c1, .slice (some ⟨K.g2, 0, none⟩) 2 K.c2, .int .i64 (lst K.R s2.xs s2.f), .int .i64 ((s2.j : Int) + 1)], .int .i64 0], by simp [results, Try.results73, go_sem, HF.c0, HF.c1, HF.c2, HF.c3, HF.c4], ?_⟩
   obtain ⟨kg1, kg2, kc1, kc2, kn1, -, kB, -⟩ := HKn.out
   have hsz9 : Z2.heap.size ≤ (((((((Z2.setCell ⟨w.heap.size + 1 + 1, 0, none⟩ (.slice (some ⟨K.g1, 0, none⟩) K.n1 K.c1)).setCell ⟨w.heap.size + 1 + 1, 1, none⟩ (.slice (some ⟨K.g2, 0, none⟩) 2 K.c2)).setCell ⟨w.heap.size + 1 + 1, 2, none⟩ (.int .i64 (lst K.R s2.xs s2.f))).setCell ⟨w.heap.size + 1 + 1, 3, none⟩ (.int .i64 ((s2.j : Int) + 1))).setCell ⟨w.heap.size + 1 + 1 + 1, 0, none⟩ (.int .i64 0)).putObj W1.heap.size (.deferred none))).heap.size := by simp
   have k1 := (World.putObj_heap_other (o := .deferred none) (w := ((((Z2.setCell ⟨w.heap.size + 1 + 1, 0, none⟩ (.slice (some ⟨K.g1, 0, none⟩) K.n1 K.c1)).setCell ⟨w.heap.size + 1 + 1, 1, none⟩ (.slice (some ⟨K.g2, 0, none⟩) 2 K.c2)).setCell ⟨w.heap.size + 1 + 1, 2, none⟩ (.int .i64 (lst K.R s2.xs s2.f))).setCell ⟨w.heap.size + 1 + 1, 3, none⟩ (.int .i64 ((s2.j : Int) + 1))).setCell ⟨w.heap.size + 1 + 1 + 1, 0, none⟩ (.int .i64 0)) (show K.g1 ≠ W1.heap.size by have := hlow.2.1; omega)).trans (keep_rs hb5 _ _ _ _ _)
   have k2 := (World.putObj_heap_other (o := .deferred none) (w := ((((Z2.setCell ⟨w.heap.size + 1 + 1, 0, none⟩ (.slice (some ⟨K.g1, 0, none⟩) K.n1 K.c1)).setCell ⟨w.heap.size + 1 + 1, 1, none⟩ (.slice (some ⟨K.g2, 0, none⟩) 2 K.c2)).setCell ⟨w.heap.size + 1 + 1, 2, none⟩ (.int .i64 (lst K.R s2.xs s2.f))).setCell ⟨w.heap.size + 1 + 1, 3, none⟩ (.int .i64 ((s2.j : Int) + 1))).setCell ⟨w.heap.size + 1 + 1 + 1, 0, none⟩ (.int .i64 0)) (show K.g2 ≠ W1.heap.size by have := hlow.2.2; omega)).trans (keep_rs hb6 _ _ _ _ _)
   have hS := Hsw3.out
   have oo1 := (hS.o1.keep k1 hsz9).lower (C := w.heap.size) (by rw [kB]; omega)
   have oo2 := (hS.o2.keep k2 hsz9).lower (C := w.heap.size) (by rw [kB]; omega)
   have g1lt := hS.h1
   have g2lt := hS.h2
   rw [Hmn.out, ← kn1]
   exact ⟨some ⟨K.g1, 0, none⟩, K.c1, K.g1, some ⟨K.g2, 0, none⟩, K.c2, K.g2, rfl, ⟨oo1, oo2, hS.d3, hS.l1, hS.l2⟩, by omega, by omega, by rw [kn1, kc1]; exact hc5, by rw [kc2]; exact hc6, HF.be⟩
  ·refine .inr ⟨_, hrc3.1, ?_⟩
   have hl3 := low_put (B := W1.heap.size) Z (.loop (R .exhausted (some .ret))) (show W1.heap.size ≤ W1.heap.size + 1 by omega)
   have Hrs3 := Lib.hid (hrs.low hl3 hW1)
   have Hrc3 := Lib.hid (hrc3.put (r' := R .exhausted (some .ret)) (by omega))
   have Hmn := Lib.hid hmv
   generalize Z.putObj (W1.heap.size + 1) (.loop (R .exhausted (some .ret))) = Z2 at *
   clear hl3 hrs hrc3 hmv hv
   gi_wp2_with fail
   refine ⟨by simp, .inl ⟨_, _, rfl, run_takeDeferred Hrc3.out.2, ?_⟩⟩
   have HF := Hrs3.out.low (low_put (B := W1.heap.size) Z2 (.deferred none) (Nat.le_refl _)) hW1
   refine ⟨.tuple #[.agg #[.slice none 0 0, .slice none 0 0, .int .i64 0, .int .i64 0], .int .i64 10], by simp [results, Try.results73, go_sem, HF.c0, HF.c1, HF.c2, HF.c3, HF.c4], ?_⟩
   rw [Hmn.out]
   exact soZ_zero 10 HF.be (by have := HF.lt; omega)
theorem implMove1 (p s c l : Int) (st sk re fe ag : Bool) (p1 p2 : Option Addr) (pn1 pc1 pn2 pc2 : Nat) (xs ys : List Int) (move : Int) (w : World) (h : PosR w p1 p2 pn1 pn2 xs ys) (hk : okP (okR p s c l st ag) p pn1 pn2 1 xs ys = true) (F : Nat) (hF : F < pn1) (hf : 1 * p + move = F) (hm0 : 0 ≤ move) (hm1 : move < p) (he : xs.getD F 0 ≠ 0)
  (MV : Option Res) (hMV : mvF ⟨p, 1, st, sk, re⟩ 100 xs ys F 0 [] = MV) :
  Calls Try.prog 73 #[.agg #[.int .i64 p, .int .i64 s, .bool st, .bool sk, .bool re, .bool fe, .bool ag, .int .i64 c, .int .i64 l], .agg #[.slice p1 pn1 pc1, .slice p2 pn2 pc2, .int .i64 1], .int .i64 move] w (MvQ pn1 MV w) := by
 have HR := Lib.hid (rv_new p s c l st sk re fe ag p1 p2 pn1 pc1 pn2 pc2 1 w 31 32 75 2)
 have hok := okP_parts hk
 have hbd := okR_bd hok.1
 have hn1 := hok.2.1
 have hp2 := hbd.1
 have hp8 := hbd.2.1
 have HL := Lib.hid (lap_of_ok (sk := sk) (re := re) hk h.l1 h.l2 hF he)
 have HB : Hid (∀ u, Below w.heap.size w u → Calls Try.prog 88 #[.agg #[.int .i64 p, .int .i64 s, .bool st, .bool sk, .bool re, .bool fe, .bool ag, .int .i64 c, .int .i64 l], .agg #[.slice p1 pn1 pc1, .slice p2 pn2 pc2, .int .i64 1], .int .i64 move] u (BegY p s c l st sk re fe ag 1 F pn1 xs ys u)) := Lib.hid fun u hu => begin_yes p s c l st sk re fe ag p1 p2 pn1 pc1 pn2 pc2 1 xs ys move u (h.below hu) hk F hF hf hm0 hm1 he
 have HMV := Lib.hid hMV
 have hl1 := h.l1
 have hl2 := h.l2
 rw [hok.2.2.1] at hl2
 clear hk hok hbd hMV he h
 refine (callsIn_wide (n := 6)).1 ?_
 refine callsIn_of_wp_marks Try.func73 rfl trivial ?_ rfl
 simp only [Try.ntmps73, List.size_toArray, List.length_cons, List.length_nil, Nat.reduceAdd, Nat.reduceSub, Array.replicate_succ, Array.replicate_zero, List.push_toArray, List.append_toArray, List.nil_append, List.cons_append]
 gi_wp2_with fail
 refine ⟨trivial, ?_⟩
 refine CallsIn.mono (callsIn_wide.2 (HB.out _ HR.out.be)) ?_
 have HE := HR.out.lt
 generalize (((w.alloc (.cells #[.int .i64 p, .int .i64 s, .bool st, .bool sk, .bool re, .bool fe, .bool ag, .int .i64 c, .int .i64 l] 31)).alloc (.cells #[.slice p1 pn1 pc1, .slice p2 pn2 pc2, .int .i64 1] 32)).alloc (.cells #[.slice none 0 0, .slice none 0 0, .int .i64 0, .int .i64 0] 75)).alloc (.cells #[.int .i64 0] 2) = W0 at *
 rintro e u ⟨g1, c1, g2, c2, rfl, o1, o2, hne, hl5, hl6, hc5, hc6, hb⟩
 have HR := Lib.hid (HR.out.below hb)
 have hsz := hb.size
 clear hb HB
 obtain ⟨K, hK⟩ : ∃ K : Cfg, K = ⟨p, s, c, l, st, sk, re, fe, ag, 1, F, W0.heap.size, u.heap.size, g1, c1, g2, c2, pn1⟩ := ⟨_, rfl⟩
 have HK := Lib.hid hK
 have HS := Lib.hid (sw_new K 0 0 0 xs ys u 124 (by rw [hK]) (by rw [hK]; exact o1) (by rw [hK]; exact o2) (by rw [hK]; exact hl1) hl2 (by rw [hK]; exact hne) (by rw [hK]; exact hl5) (by rw [hK]; exact hl6))
 have hg1 := o1.new
 have hg2 := o2.new
 clear o1 o2 hK
 gi_wp2_with fail
 have HR1 := Lib.hid (HR.out.below (al1 u (.cells #[.int .i64 p, .int .i64 s, .bool st, .bool sk, .bool re, .bool fe, .bool ag, .int .i64 c, .int .i64 l, .int .i64 1, .int .i64 F, .int .i64 0, .slice (some ⟨g1, 0, none⟩) pn1 c1, .slice (some ⟨g2, 0, none⟩) 2 c2, .int .i64 0, .int .i64 0] 124)))
 have HS1 : Hid (SwS (u.alloc (.cells #[.int .i64 p, .int .i64 s, .bool st, .bool sk, .bool re, .bool fe, .bool ag, .int .i64 c, .int .i64 l, .int .i64 1, .int .i64 F, .int .i64 0, .slice (some ⟨g1, 0, none⟩) pn1 c1, .slice (some ⟨g2, 0, none⟩) 2 c2, .int .i64 0, .int .i64 0] 124)) K 0 0 0 xs ys) := by
  have h := HS.out
  rw [HK.out] at h ⊢
  exact Lib.hid h
 have hsz1 : (u.alloc (.cells #[.int .i64 p, .int .i64 s, .bool st, .bool sk, .bool re, .bool fe, .bool ag, .int .i64 c, .int .i64 l, .int .i64 1, .int .i64 F, .int .i64 0, .slice (some ⟨g1, 0, none⟩) pn1 c1, .slice (some ⟨g2, 0, none⟩) 2 c2, .int .i64 0, .int .i64 0] 124)).heap.size = u.heap.size + 1 := by simp
 generalize (u.alloc (.cells #[.int .i64 p, .int .i64 s, .bool st, .bool sk, .bool re, .bool fe, .bool ag, .int .i64 c, .int .i64 l, .int .i64 1, .int .i64 F, .int .i64 0, .slice (some ⟨g1, 0, none⟩) pn1 c1, .slice (some ⟨g2, 0, none⟩) 2 c2, .int .i64 0, .int .i64 0] 124)) = W1 at *
 have hKb : K.b = u.heap.size := by rw [HK.out]
 have hKg1 : K.g1 = g1 := by rw [HK.out]
 have hKg2 : K.g2 = g2 := by rw [HK.out]
 have hKc1 : K.c1 = c1 := by rw [HK.out]
 have hKc2 : K.c2 = c2 := by rw [HK.out]
 have hKn1 : K.n1 = pn1 := by rw [HK.out]
 have hKR : K.R = ⟨p, 1, st, sk, re⟩ := by rw [HK.out]; rfl
 have hKB : K.B = W0.heap.size := by rw [HK.out]
 have hb4 : w.heap.size + 4 ≤ K.b := by rw [hKb]; omega
 have hb5 : w.heap.size + 4 ≤ K.g1 := by rw [hKg1]; omega
 have hb6 : w.heap.size + 4 ≤ K.g2 := by rw [hKg2]; omega
 have hW1 : w.heap.size + 4 ≤ W1.heap.size := by omega
 have hlow : K.b < W1.heap.size ∧ K.g1 < W1.heap.size ∧ K.g2 < W1.heap.size := ⟨by omega, by omega, by omega⟩
 rw [← hKb]
 have Hsz1 := Lib.hid hsz1
 have Hsz := Lib.hid hsz
 have HKn := Lib.hid (And.intro hKg1 (And.intro hKg2 (And.intro hKc1 (And.intro hKc2 (And.intro hKn1 (And.intro hKR (And.intro hKB hKb)))))))
 clear hsz1 hsz
 refine range_stmt (gf := 89) (fb := #[.pointer (some ⟨K.b, 0, none⟩)]) (cb := #[]) rfl (enters_of Try.func89 (by kernel_rfl) rfl) ?_
 intro fn R hRR
 have hb12 : Below W1.heap.size W1 ((W1.alloc (.deferred (some []))).alloc (.loop (R .ready none))) := ((Below.refl _ W1).alloc (Nat.le_refl _) _).alloc (by simp) _
 have hrc : RecAt ((W1.alloc (.deferred (some []))).alloc (.loop (R .ready none))) (W1.heap.size + 1) W1.heap.size (R .ready none) := laid_loop W1 _
 have hsz2 : ((W1.alloc (.deferred (some []))).alloc (.loop (R .ready none))).heap.size = W1.heap.size + 1 + 1 := by simp
 have HR2 := Lib.hid (HR1.out.low hb12 hW1)
 have HS2 := Lib.hid (HS1.out.low hb12 hlow)
 generalize (W1.alloc (.deferred (some []))).alloc (.loop (R .ready none)) = W2 at *
 have HRR := Lib.hid hRR
 clear hRR
 have Hrc := Lib.hid hrc
 have hKp : K.p = p := by rw [HK.out]
 have Hsz2 := Lib.hid hsz2
 refine (steps_gives1 (6 - 1) K (by rw [HK.out]) (by rw [hKp]; exact hp2) (by rw [hKp]; exact hp8) (by rw [hKn1, hKp]; exact hn1) (tot xs + tot ys) (W1.heap.size + 1) (MoJ w K MV (W1.heap.size + 1) W1.heap.size R) (MoX w MV (W1.heap.size + 1) W1.heap.size R) W2 ⟨0, xs, ys, F, []⟩ 0 0
  HS2.out (by rw [HK.out]) ⟨by rw [hKR]; exact HL.out, by show 0 ≤ 100; omega⟩ rfl ?_ ?_ ?_ ?_ ⟨HR2.out, by rw [hKR]; exact HMV.out, Hrc.out⟩).mono ?_
 all_goals clear hKb hKg1 hKg2 hKc1 hKc2 hKn1 hKR hKB hKp
 ·rintro s2 i A Z ⟨h1, h2, h3⟩ ho
  exact ⟨h1.of_out ho (by omega) hb4 hb5 hb6, h2, h3.of_out ho (by omega) (by omega) hlow.1 hlow.2.1 hlow.2.2 (by omega)⟩
 ·rintro A Z ⟨h1, h2, h3⟩ ho
  exact ⟨h1.low ho (by omega), h2, ⟨(ho.block _ (by omega)).trans h3.1, (ho.block _ (by omega)).trans h3.2⟩⟩
 ·rintro s2 i A hok hi ⟨hrs, hmv, hrc2⟩ hsw
  refine yield_mono (R := MoP w K MV (W1.heap.size + 1) W1.heap.size R W2.heap.size A s2 i) ?_ (fun e Z h => h.or)
  refine round_yield HRR.out hrc2.1 rfl ?_
  intro K0 hK0
  clear hsz2
  gi_wp2
  refine ⟨hrc2.1, ?_⟩
  have hsz2 := Hsz2.out
  have hl3 := low_put (B := W1.heap.size) A (.loop (R .busy none)) (show W1.heap.size ≤ W1.heap.size + 1 by omega)
  have Hrs3 := Lib.hid (hrs.low hl3 hW1)
  have Hsw3 := Lib.hid (SwS.low hsw hl3 hlow)
  have Hrc3 := Lib.hid (hrc2.put (r' := R .busy none) (by omega))
  have Hab3 := Lib.hid (Above.putObj (B := W2.heap.size) (A := A) (r := W1.heap.size + 1) (.loop (R .busy none)) (by omega))
  have Hmv := Lib.hid hmv
  generalize A.putObj (W1.heap.size + 1) (.loop (R .busy none)) = A3 at *
  clear hl3 hrs hsw hrc2 hmv hsz2
  gi_wp2_with fail
  refine ⟨trivial, ?_⟩
  refine CallsIn.mono (CallsIn.inRound _ (callsIn_wide.2 (endless_any K _ _ _ _ _ A3 Hsw3.out))) ?_
  rintro e A4 ⟨rfl, rfl⟩
  by_cases hj : s2.j < 100
  ·have hd : decide (100 < (s2.j : Int) + 1) = false := by simp; omega
   rw [hd]
   gi_wp2_with fail
   have hl4 := low_put (B := W1.heap.size) A3 (.loop (R .ready none)) (show W1.heap.size ≤ W1.heap.size + 1 by omega)
   exact ⟨Hrc3.out.1, ⟨.inl ⟨rfl, hj, ⟨Hrs3.out.low hl4 hW1, Hmv.out, Hrc3.out.put (by omega)⟩, SwS.low Hsw3.out hl4 hlow, Hab3.out.trans (Above.putObj _ (by have := Hsz2.out; omega))⟩⟩⟩
  ·have hd : decide (100 < (s2.j : Int) + 1) = true := by simp; omega
   rw [hd]
   have Hmn := Lib.hid (mv_end hj Hmv.out)
   obtain ⟨rb, rl, c0, c1', c2', c3, c4, f0, f1, f2, f3, f4⟩ := Hrs3.out
   have rl2 : w.heap.size + 1 + 1 < A3.heap.size := by omega
   dsimp only
   iterate 20 (first | go_values | gi_guarded | gi_step | gi_upon)
   simp only [Exit.inBlock]
   have hrc5 := rec_rs Hrc3.out Hrs3.out (.slice none 0 0) (.slice none 0 0) (.int .i64 0) (.int .i64 0) (.int .i64 10)
   exact ⟨hrc5.1, ⟨.inr ⟨rfl, ⟨(Hrs3.out.set (.slice none 0 0) (.slice none 0 0) (.int .i64 0) (.int .i64 0) 10).low (low_put (B := W1.heap.size) _ _ (by omega)) hW1, Hmn.out, hrc5.put (by omega)⟩, (Hab3.out.trans (above_rs (by have := Hsz2.out; omega) _ _ _ _ _)).trans (Above.putObj _ (by have := Hsz2.out; omega))⟩⟩⟩
 ·rintro s2 A hok hj hag ⟨h1, h2, h3⟩
  exact ⟨h1, mv_next hj hag h2, h3⟩
 ·rintro e Z ⟨hv, hz⟩
  refine ⟨hv, ?_⟩
  clear hsz2
  rcases hz with ⟨s2, hok, hj, hag, ⟨hrs, hmv, hrc3⟩, hsw⟩ | ⟨hrs, hmv, hrc3⟩
  ·refine .inl ⟨hrc3.1, ?_⟩
   have hl3 := low_put (B := W1.heap.size) Z (.loop (R .exhausted none)) (show W1.heap.size ≤ W1.heap.size + 1 by omega)
   have Hrs3 := Lib.hid (hrs.low hl3 hW1)
   have Hsw3 := Lib.hid (SwS.low hsw hl3 hlow)
   have Hrc3 := Lib.hid (hrc3.put (r' := R .exhausted none) (by omega))
   have Hmn := Lib.hid (mv_last hj hag hmv)
   generalize Z.putObj (W1.heap.size + 1) (.loop (R .exhausted none)) = Z2 at *
   obtain ⟨rb, rl, e0, e1, e2, e3, e4, f0, f1, f2, f3, f4⟩ := Hrs3.out
   have rl2 : w.heap.size + 1 + 1 < Z2.heap.size := by omega
   have q12 := Hsw3.out.q12
   have q13 := Hsw3.out.q13
   have q14 := Hsw3.out.q14
   have q15 := Hsw3.out.q15
   clear hl3 hrs hsw hrc3 hmv hv
   gi_wp2_with fail
   have hrc5 := rec_rs Hrc3.out Hrs3.out (.slice (some ⟨K.g1, 0, none⟩) K.n1 K.c1) (.slice (some ⟨K.g2, 0, none⟩) 2 K.c2) (.int .i64 (lst K.R s2.xs s2.f)) (.int .i64 ((s2.j : Int) + 1)) (.int .i64 0)
   refine ⟨by simp, .inl ⟨_, _, rfl, run_takeDeferred hrc5.2, ?_⟩⟩
   have HF := (Hrs3.out.set (.slice (some ⟨K.g1, 0, none⟩) K.n1 K.c1) (.slice (some ⟨K.g2, 0, none⟩) 2 K.c2) (.int .i64 (lst K.R s2.xs s2.f)) (.int .i64 ((s2.j : Int) + 1)) 0).low (low_put (B := W1.heap.size) _ (.deferred none) (Nat.le_refl _)) hW1
   refine ⟨.tuple #[.agg #[.slice (some ⟨K.g1, 0, none⟩) K.n1 K.c1, .slice (some ⟨K.g2, 0, none⟩) 2 K.c2, .int .i64 (lst K.R s2.xs s2.f), .int .i64 ((s2.j : Int) + 1)], .int .i64 0], by simp [results, Try.results73, go_sem, HF.c0, HF.c1, HF.c2, HF.c3, HF.c4], ?_⟩
   obtain ⟨kg1, kg2, kc1, kc2, kn1, -, kB, -⟩ := HKn.out
   have hsz9 : Z2.heap.size ≤ (((((((Z2.setCell ⟨w.heap.size + 1 + 1, 0, none⟩ (.slice (some ⟨K.g1, 0, none⟩) K.n1 K.c1)).setCell ⟨w.heap.size + 1 + 1, 1, none⟩ (.slice (some ⟨K.g2, 0, none⟩) 2 K.c2)).setCell ⟨w.heap.size + 1 + 1, 2, none⟩ (.int .i64 (lst K.R s2.xs s2.f))).setCell ⟨w.heap.size + 1 + 1, 3, none⟩ (.int .i64 ((s2.j : Int) + 1))).setCell ⟨w.heap.size + 1 + 1 + 1, 0, none⟩ (.int .i64 0)).putObj W1.heap.size (.deferred none))).heap.size := by simp
   have k1 := (World.putObj_heap_other (o := .deferred none) (w := ((((Z2.setCell ⟨w.heap.size + 1 + 1, 0, none⟩ (.slice (some ⟨K.g1, 0, none⟩) K.n1 K.c1)).setCell ⟨w.heap.size + 1 + 1, 1, none⟩ (.slice (some ⟨K.g2, 0, none⟩) 2 K.c2)).setCell ⟨w.heap.size + 1 + 1, 2, none⟩ (.int .i64 (lst K.R s2.xs s2.f))).setCell ⟨w.heap.size + 1 + 1, 3, none⟩ (.int .i64 ((s2.j : Int) + 1))).setCell ⟨w.heap.size + 1 + 1 + 1, 0, none⟩ (.int .i64 0)) (show K.g1 ≠ W1.heap.size by have := hlow.2.1; omega)).trans (keep_rs hb5 _ _ _ _ _)
   have k2 := (World.putObj_heap_other (o := .deferred none) (w := ((((Z2.setCell ⟨w.heap.size + 1 + 1, 0, none⟩ (.slice (some ⟨K.g1, 0, none⟩) K.n1 K.c1)).setCell ⟨w.heap.size + 1 + 1, 1, none⟩ (.slice (some ⟨K.g2, 0, none⟩) 2 K.c2)).setCell ⟨w.heap.size + 1 + 1, 2, none⟩ (.int .i64 (lst K.R s2.xs s2.f))).setCell ⟨w.heap.size + 1 + 1, 3, none⟩ (.int .i64 ((s2.j : Int) + 1))).setCell ⟨w.heap.size + 1 + 1 + 1, 0, none⟩ (.int .i64 0)) (show K.g2 ≠ W1.heap.size by have := hlow.2.2; omega)).trans (keep_rs hb6 _ _ _ _ _)
   have hS := Hsw3.out
   have oo1 := (hS.o1.keep k1 hsz9).lower (C := w.heap.size) (by rw [kB]; omega)
   have oo2 := (hS.o2.keep k2 hsz9).lower (C := w.heap.size) (by rw [kB]; omega)
   have g1lt := hS.h1
   have g2lt := hS.h2
   rw [Hmn.out, ← kn1]
   exact ⟨some ⟨K.g1, 0, none⟩, K.c1, K.g1, some ⟨K.g2, 0, none⟩, K.c2, K.g2, rfl, ⟨oo1, oo2, hS.d3, hS.l1, hS.l2⟩, by omega, by omega, by rw [kn1, kc1]; exact hc5, by rw [kc2]; exact hc6, HF.be⟩
  ·refine .inr ⟨_, hrc3.1, ?_⟩
   have hl3 := low_put (B := W1.heap.size) Z (.loop (R .exhausted (some .ret))) (show W1.heap.size ≤ W1.heap.size + 1 by omega)
   have Hrs3 := Lib.hid (hrs.low hl3 hW1)
   have Hrc3 := Lib.hid (hrc3.put (r' := R .exhausted (some .ret)) (by omega))
   have Hmn := Lib.hid hmv
   generalize Z.putObj (W1.heap.size + 1) (.loop (R .exhausted (some .ret))) = Z2 at *
   clear hl3 hrs hrc3 hmv hv
   gi_wp2_with fail
   refine ⟨by simp, .inl ⟨_, _, rfl, run_takeDeferred Hrc3.out.2, ?_⟩⟩
   have HF := Hrs3.out.low (low_put (B := W1.heap.size) Z2 (.deferred none) (Nat.le_refl _)) hW1
   refine ⟨.tuple #[.agg #[.slice none 0 0, .slice none 0 0, .int .i64 0, .int .i64 0], .int .i64 10], by simp [results, Try.results73, go_sem, HF.c0, HF.c1, HF.c2, HF.c3, HF.c4], ?_⟩
   rw [Hmn.out]
   exact soZ_zero 10 HF.be (by have := HF.lt; omega)
/- End5 -/
def SwC (n1 : Nat) (cd : Int) (MV : Option Res) (w : World) (e : Ending) (w' : World) : Prop :=
 match MV with
 | none => e = .returned (.tuple #[.agg #[.slice none 0 0, .slice none 0 0, .int .i64 0, .int .i64 0], .slice none 0 0, .int .i64 cd]) ∧ Below w.heap.size w w'
 | some m => ∃ b1 c1 b2 c2 v, e = .returned (.tuple #[.agg #[.slice (some ⟨b1, 0, none⟩) n1 c1, .slice (some ⟨b2, 0, none⟩) 2 c2, .int .i64 m.last, .int .i64 m.laps], v, .int .i64 0]) ∧
   PosO w' w.heap.size (some ⟨b1, 0, none⟩) (some ⟨b2, 0, none⟩) b1 b2 n1 2 m.xs m.ys ∧ b1 < w'.heap.size ∧ b2 < w'.heap.size ∧ n1 ≤ c1 ∧ 2 ≤ c2 ∧ w'.ownsRow w.heap.size 2 1 v m.path.length (nvs m.path) ∧ Below w.heap.size w w'
structure MvO (B n1 : Nat) (m : Res) (b1 c1 b2 c2 : Nat) (v : Value) (u : World) : Prop where
 ho : PosO u B (some ⟨b1, 0, none⟩) (some ⟨b2, 0, none⟩) b1 b2 n1 2 m.xs m.ys
 l1 : b1 < u.heap.size
 l2 : b2 < u.heap.size
 k1 : n1 ≤ c1
 k2 : 2 ≤ c2
 row : u.ownsRow B 2 1 v m.path.length (nvs m.path)
section
variable {B n1 b1 c1 b2 c2 : Nat} {m : Res} {v : Value} {u z : World}
theorem MvO.below (h : MvO B n1 m b1 c1 b2 c2 v u) (k : Below u.heap.size u z) : MvO B n1 m b1 c1 b2 c2 v z :=
 ⟨h.ho.below k, Nat.lt_of_lt_of_le h.l1 k.size, Nat.lt_of_lt_of_le h.l2 k.size, h.k1, h.k2, own_keep h.row k⟩
theorem MvO.drew (h : MvO B n1 m b1 c1 b2 c2 v u) : MvO B n1 m b1 c1 b2 c2 v u.drew := h.below (Below.refl _ _).drew
theorem MvO.set4 {q : Nat} (h : MvO B n1 m b1 c1 b2 c2 v u) (hq : q < B) (x0 x1 x2 x3 : Value) : MvO B n1 m b1 c1 b2 c2 v ((((u.setCell ⟨q, 0, none⟩ x0).setCell ⟨q, 1, none⟩ x1).setCell ⟨q, 2, none⟩ x2).setCell ⟨q, 3, none⟩ x3) := by
 have h1 := h.ho.o1.new
 have h2 := h.ho.o2.new
 exact ⟨h.ho.but (but4 q u x0 x1 x2 x3) (by omega) (by omega), by simpa using h.l1, by simpa using h.l2, h.k1, h.k2, own_but h.row (but4 q u x0 x1 x2 x3) hq⟩
theorem mvO_end {w : World} {cd : Int} (h : MvO B n1 m b1 c1 b2 c2 v u) (hB : w.heap.size ≤ B) (hb : OnW w u) :
  SwC n1 cd (some m) w (.returned (.tuple #[.agg #[.slice (some ⟨b1, 0, none⟩) n1 c1, .slice (some ⟨b2, 0, none⟩) 2 c2, .int .i64 m.last, .int .i64 m.laps], v, .int .i64 0])) u :=
 ⟨b1, c1, b2, c2, v, rfl, h.ho.lower hB, h.l1, h.l2, h.k1, h.k2, own_lower h.row hB, hb⟩
end
theorem l05Move_err (rb pb : Nat) (move cd : Int) (hcd : (cd == 0) = false) (w : World) (hc : ∀ u, Below w.heap.size w u → Calls Try.prog 82 #[.pointer (some ⟨rb, 0, none⟩), .pointer (some ⟨pb, 0, none⟩), .int .i64 move] u (Still (.int .i64 cd) u)) :
  Calls Try.prog 68 #[.pointer (some ⟨rb, 0, none⟩), .pointer (some ⟨pb, 0, none⟩), .int .i64 move] w (SwC 0 cd none w) := by
 have HC := Lib.hid hc
 have HZ := Lib.hid (z4_new w 75)
 have HB := Lib.hid (al1 w (.cells #[.slice none 0 0, .slice none 0 0, .int .i64 0, .int .i64 0] 75))
 have hcd2 : (cd != 0) = true := by simpa [bne] using hcd
 clear hc
 go_enter Try.func68, Try.ntmps68
 go_wp2_with fail
 generalize w.alloc (.cells #[.slice none 0 0, .slice none 0 0, .int .i64 0, .int .i64 0] 75) = u at *
 refine (HC.out _ HB.out).mono ?_
 rintro e u2 ⟨rfl, m, rfl⟩
 obtain ⟨zl, z0, z1, z2, z3, y0, y1, y2, y3⟩ := HZ.out
 go_wp2_with fail
 refine bodyPost_ret (v := .tuple #[.agg #[.slice none 0 0, .slice none 0 0, .int .i64 0, .int .i64 0], .slice none 0 0, .int .i64 cd]) (by simp [results, Try.results68, go_sem, z0, z1, z2, z3]) rfl ⟨rfl, OnW.set4 (show OnW w _ from below_dn HB.out _) (Nat.le_refl _) _ _ _ _⟩
theorem l05Move_yes0 (p s c l : Int) (st sk re fe ag : Bool) (p1 p2 : Option Addr) (pn1 pc1 pc2 : Nat) (xs ys : List Int) (F rb pb : Nat) (move : Int) (w : World) (hr : RuAt w rb p s c l st sk re fe ag) (hq : PoAt w pb p1 p2 pn1 pc1 2 pc2 0) (h : PosR w p1 p2 pn1 2 xs ys) (hk : okP (okR p s c l st ag) p pn1 2 0 xs ys = true) (hF : F < pn1) (hf : 0 * p + move = F) (hm0 : 0 ≤ move) (hm1 : move < p) (he : xs.getD F 0 ≠ 0) (MV : Option Res) (hMV : mvF ⟨p, 0, st, sk, re⟩ 100 xs ys F 0 [] = MV) :
  Calls Try.prog 68 #[.pointer (some ⟨rb, 0, none⟩), .pointer (some ⟨pb, 0, none⟩), .int .i64 move] w (SwC pn1 10 MV w) := by
 have hok := okP_parts hk
 have hbd := okR_bd hok.1
 have hp2 := hbd.1
 have hp8 := hbd.2.1
 have hlap := lap_of_ok (sk := sk) (re := re) hk h.l1 h.l2 hF he
 have HC : Hid (∀ u, Below w.heap.size w u → Calls Try.prog 82 #[.pointer (some ⟨rb, 0, none⟩), .pointer (some ⟨pb, 0, none⟩), .int .i64 move] u (Still (.int .i64 0) u)) := Lib.hid (fun u hu => code_yes p s c l st sk re fe ag _ _ _ _ _ _ _ xs ys rb pb move u (hr.below hu) (hq.below hu) (h.below hu) hk F hF hf hm0 hm1 he)
 have HSw : Hid (∀ u, Below w.heap.size w u → Calls Try.prog 83 #[.pointer (some ⟨rb, 0, none⟩), .pointer (some ⟨pb, 0, none⟩), .int .i64 F] u (SwQ pn1 MV u)) := Lib.hid (fun u hu => specSow0 p s c l st sk re fe ag p1 p2 pn1 pc1 pc2 xs ys F rb pb u _ (hr.below hu) (hq.below hu) (h.below hu) hp2 hp8 hlap MV hMV)
 have HZ := Lib.hid (z4_new w 75)
 have HB := Lib.hid (al1 w (.cells #[.slice none 0 0, .slice none 0 0, .int .i64 0, .int .i64 0] 75))
 have HR := Lib.hid hr
 have HQ := Lib.hid hq
 have hw1 : IntKind.i64.wrap (0 * p) = 0 * p := IntWalk.i64_in _ ⟨by omega, by omega⟩
 have hw2 : IntKind.i64.wrap (0 * p + move) = (F : Int) := by rw [hf]; exact IntWalk.i64_in _ ⟨by omega, by omega⟩
 have hw3 : IntKind.i64.wrap (p + move) = p + move := IntWalk.i64_in _ ⟨by omega, by omega⟩
 have hw4 : IntKind.i64.wrap move = move := IntWalk.i64_in _ ⟨by omega, by omega⟩
 obtain ⟨M, hM⟩ : ∃ M : Nat, move = (M : Int) := ⟨move.toNat, by omega⟩
 subst hM
 have HWA : Hid (IntKind.i64.wrap (IntKind.i64.wrap 0 + (M : Int)) = (F : Int)) := Lib.hid (by rw [show IntKind.i64.wrap 0 = 0 from IntWalk.i64_in _ ⟨by omega, by omega⟩, IntWalk.i64_in _ ⟨by omega, by omega⟩]; omega)
 clear hok hbd hlap hk h he hMV hr hq
 go_enter Try.func68, Try.ntmps68
 go_wp2_with fail
 refine (HC.out _ HB.out).mono ?_
 rintro e u2 ⟨rfl, m, rfl⟩
 have HB3 : Hid (Below w.heap.size w ((w.alloc (.cells #[.slice none 0 0, .slice none 0 0, .int .i64 0, .int .i64 0] 75)).drewN m)) := Lib.hid (below_dn HB.out m)
 have HZ3 : Hid (Z4 ((w.alloc (.cells #[.slice none 0 0, .slice none 0 0, .int .i64 0, .int .i64 0] 75)).drewN m) w.heap.size) := Lib.hid (HZ.out.below (below_dn (Below.refl _ _) m))
 have HR3 : Hid (RuAt ((w.alloc (.cells #[.slice none 0 0, .slice none 0 0, .int .i64 0, .int .i64 0] 75)).drewN m) rb p s c l st sk re fe ag) := Lib.hid (HR.out.below HB3.out)
 have HQ3 : Hid (PoAt ((w.alloc (.cells #[.slice none 0 0, .slice none 0 0, .int .i64 0, .int .i64 0] 75)).drewN m) pb p1 p2 pn1 pc1 2 pc2 0) := Lib.hid (HQ.out.below HB3.out)
 generalize (w.alloc (.cells #[.slice none 0 0, .slice none 0 0, .int .i64 0, .int .i64 0] 75)).drewN m = u4 at *
 have HT : Hid (∀ u, RuAt u rb p s c l st sk re fe ag → PoAt u pb p1 p2 pn1 pc1 2 pc2 0 → OnW w u → (rb < u.heap.size ∧ u.cell? ⟨rb, 0, none⟩ = some (.int .i64 p)) ∧ (pb < u.heap.size ∧ u.cell? ⟨pb, 2, none⟩ = some (.int .i64 0)) ∧ Below w.heap.size w u) := Lib.hid (fun u h1 h2 h3 => ⟨⟨h1.1, h1.2.1⟩, ⟨h2.1, h2.2.2.2⟩, h3⟩)
 have HB3 := Lib.hid (show OnW w u4 from HB3.out)
 have hrl := HR3.out.1
 have hql := HQ3.out.1
 have hwz : w.heap.size ≤ u4.heap.size := HB3.out.bel.size
 have hzl := HZ3.out.lt
 have hne1 : w.heap.size ≠ u4.heap.size := by omega
 have hne2 : u4.heap.size ≠ w.heap.size := by omega
 go_wp2_with fail
 cases MV with
 | none =>
  go_region_held3 (fun u => (rb < u.heap.size ∧ u.cell? ⟨rb, 0, none⟩ = some (.int .i64 p)) ∧ (pb < u.heap.size ∧ u.cell? ⟨pb, 2, none⟩ = some (.int .i64 0)) ∧ Below w.heap.size w u) (first | with_reducible exact HT.out _ HR3.out HQ3.out HB3.out | with_reducible exact HT.out _ HR3.out.drew HQ3.out.drew HB3.out.drew | with_reducible exact HT.out _ (HR3.out.below (al1 _ _)) (HQ3.out.below (al1 _ _)) (HB3.out.below (al1 _ _)) | with_reducible exact HT.out _ (HR3.out.below (al1 _ _)).drew (HQ3.out.below (al1 _ _)).drew (HB3.out.below (al1 _ _)).drew | with_reducible exact HT.out _ (HR3.out.drew.below (al1 _ _)) (HQ3.out.drew.below (al1 _ _)) (HB3.out.drew.below (al1 _ _)) | with_reducible exact HT.out _ (HR3.out.but (but4 _ _ _ _ _ _) (by omega)) (HQ3.out.but (but4 _ _ _ _ _ _) (by omega)) (OnW.set4 HB3.out (by omega) _ _ _ _))
   ((go_at_call 83; (rw [HWA.out]); (first | with_reducible refine (HSw.out _ HB3.out.bel).mono ?_ | with_reducible refine (HSw.out _ HB3.out.drew.bel).mono ?_ | with_reducible refine (HSw.out _ (HB3.out.below (al1 _ _)).bel).mono ?_ | with_reducible refine (HSw.out _ (HB3.out.below (al1 _ _)).drew.bel).mono ?_ | with_reducible refine (HSw.out _ (HB3.out.drew.below (al1 _ _)).bel).mono ?_); rintro e u5 ⟨rfl, hb3⟩; (first | have HR3 := Lib.hid (HR3.out.below hb3) | have HR3 := Lib.hid (HR3.out.drew.below hb3) | have HR3 := Lib.hid ((HR3.out.below (al1 _ _)).below hb3) | have HR3 := Lib.hid ((HR3.out.below (al1 _ _)).drew.below hb3)); (first | have HQ3 := Lib.hid (HQ3.out.below hb3) | have HQ3 := Lib.hid (HQ3.out.drew.below hb3) | have HQ3 := Lib.hid ((HQ3.out.below (al1 _ _)).below hb3) | have HQ3 := Lib.hid ((HQ3.out.below (al1 _ _)).drew.below hb3)); (first | have HB3 := Lib.hid (HB3.out.below hb3) | have HB3 := Lib.hid (HB3.out.drew.below hb3) | have HB3 := Lib.hid ((HB3.out.below (al1 _ _)).below hb3) | have HB3 := Lib.hid ((HB3.out.below (al1 _ _)).drew.below hb3)); (first | have HZ3 := Lib.hid (HZ3.out.below hb3) | have HZ3 := Lib.hid (HZ3.out.drew.below hb3) | have HZ3 := Lib.hid ((HZ3.out.below (al1 _ _)).below hb3) | have HZ3 := Lib.hid ((HZ3.out.below (al1 _ _)).drew.below hb3)); have nz3 := HR3.out.1; have nq3 := HQ3.out.1; (first | have HY := Lib.hid ((z4_new u4 75).drew.below hb3) | have HY := Lib.hid ((z4_new u4.drew 75).below hb3) | have HY := Lib.hid ((z4_new u4 75).below hb3) | skip); (try obtain ⟨yz, y0, y1, y2, y3, k0, k1, k2, k3⟩ := HY.out); clear hb3))
  all_goals (obtain ⟨zl, z0, z1, z2, z3, q0, q1, q2, q3⟩ := HZ3.out)
  all_goals have hne3 : w.heap.size ≠ u5.heap.size := by omega
  all_goals have hne4 : u5.heap.size ≠ w.heap.size := by omega
  all_goals go_wp2_with fail
  all_goals (refine bodyPost_ret (v := .tuple #[.agg #[.slice none 0 0, .slice none 0 0, .int .i64 0, .int .i64 0], .slice none 0 0, .int .i64 10]) (by simp [results, Try.results68, go_sem, z0, z1, z2, z3, zl]) rfl ⟨rfl, ?_⟩)
  all_goals first
   | with_reducible exact (OnW.below (OnW.set4 HB3.out (Nat.le_refl _) _ _ _ _) (al1 _ _)).bel
   | with_reducible exact (OnW.set4 (OnW.set4 HB3.out hwz _ _ _ _) (Nat.le_refl _) _ _ _ _).bel
   | with_reducible exact (OnW.set4 (OnW.below HB3.out (al1 _ _)) (Nat.le_refl _) _ _ _ _).bel
 | some mm =>
  go_region_held3 (fun u => (rb < u.heap.size ∧ u.cell? ⟨rb, 0, none⟩ = some (.int .i64 p)) ∧ (pb < u.heap.size ∧ u.cell? ⟨pb, 2, none⟩ = some (.int .i64 0)) ∧ Below w.heap.size w u) (first | with_reducible exact HT.out _ HR3.out HQ3.out HB3.out | with_reducible exact HT.out _ HR3.out.drew HQ3.out.drew HB3.out.drew | with_reducible exact HT.out _ (HR3.out.below (al1 _ _)) (HQ3.out.below (al1 _ _)) (HB3.out.below (al1 _ _)) | with_reducible exact HT.out _ (HR3.out.below (al1 _ _)).drew (HQ3.out.below (al1 _ _)).drew (HB3.out.below (al1 _ _)).drew | with_reducible exact HT.out _ (HR3.out.drew.below (al1 _ _)) (HQ3.out.drew.below (al1 _ _)) (HB3.out.drew.below (al1 _ _)) | with_reducible exact HT.out _ (HR3.out.but (but4 _ _ _ _ _ _) (by omega)) (HQ3.out.but (but4 _ _ _ _ _ _) (by omega)) (OnW.set4 HB3.out (by omega) _ _ _ _))
   ((go_at_call 83; (rw [HWA.out]); (first | with_reducible refine (HSw.out _ HB3.out.bel).mono ?_ | with_reducible refine (HSw.out _ HB3.out.drew.bel).mono ?_ | with_reducible refine (HSw.out _ (HB3.out.below (al1 _ _)).bel).mono ?_ | with_reducible refine (HSw.out _ (HB3.out.below (al1 _ _)).drew.bel).mono ?_ | with_reducible refine (HSw.out _ (HB3.out.drew.below (al1 _ _)).bel).mono ?_); rintro e u5 ⟨b1, c1, b2, c2, v, rfl, ho, hl1, hl2, hc1, hc2, hown, hb3⟩; have HM := Lib.hid (MvO.mk ho hl1 hl2 hc1 hc2 hown); (have hbz := hb3.size); clear ho hl1 hl2 hc1 hc2 hown; (try simp at hbz); (first | have HR3 := Lib.hid (HR3.out.below hb3) | have HR3 := Lib.hid (HR3.out.drew.below hb3) | have HR3 := Lib.hid ((HR3.out.below (al1 _ _)).below hb3) | have HR3 := Lib.hid ((HR3.out.below (al1 _ _)).drew.below hb3)); (first | have HQ3 := Lib.hid (HQ3.out.below hb3) | have HQ3 := Lib.hid (HQ3.out.drew.below hb3) | have HQ3 := Lib.hid ((HQ3.out.below (al1 _ _)).below hb3) | have HQ3 := Lib.hid ((HQ3.out.below (al1 _ _)).drew.below hb3)); (first | have HB3 := Lib.hid (HB3.out.below hb3) | have HB3 := Lib.hid (HB3.out.drew.below hb3) | have HB3 := Lib.hid ((HB3.out.below (al1 _ _)).below hb3) | have HB3 := Lib.hid ((HB3.out.below (al1 _ _)).drew.below hb3)); (first | have HZ3 := Lib.hid (HZ3.out.below hb3) | have HZ3 := Lib.hid (HZ3.out.drew.below hb3) | have HZ3 := Lib.hid ((HZ3.out.below (al1 _ _)).below hb3) | have HZ3 := Lib.hid ((HZ3.out.below (al1 _ _)).drew.below hb3)); have nz3 := HR3.out.1; have nq3 := HQ3.out.1; (first | have HY := Lib.hid ((z4_new u4 75).drew.below hb3) | have HY := Lib.hid ((z4_new u4.drew 75).below hb3) | have HY := Lib.hid ((z4_new u4 75).below hb3) | skip); (try obtain ⟨yz, y0, y1, y2, y3, k0, k1, k2, k3⟩ := HY.out); clear hb3))
  all_goals (obtain ⟨zl, z0, z1, z2, z3, q0, q1, q2, q3⟩ := HZ3.out)
  all_goals have hne3 : w.heap.size ≠ u5.heap.size := by omega
  all_goals have hne4 : u5.heap.size ≠ w.heap.size := by omega
  all_goals go_wp2_with fail
  all_goals (refine bodyPost_ret (v := .tuple #[.agg #[.slice (some ⟨b1, 0, none⟩) pn1 c1, .slice (some ⟨b2, 0, none⟩) 2 c2, .int .i64 mm.last, .int .i64 mm.laps], v, .int .i64 0]) (by simp [results, Try.results68, go_sem, z0, z1, z2, z3, zl]) rfl ?_)
  ·have HM1 := Lib.hid (show MvO u4.heap.size pn1 mm b1 c1 b2 c2 v u5 from HM.out)
   clear HM HSw HZ3 HT HR3 HQ3
   refine mvO_end (B := u4.heap.size) ?_ hwz ?_
   ·with_reducible exact (HM1.out.set4 hzl _ _ _ _).below (al1 _ _)
   ·with_reducible exact OnW.below (OnW.set4 HB3.out (Nat.le_refl _) _ _ _ _) (al1 _ _)
  ·have HM1 := Lib.hid (show MvO (u4.heap.size + 1) pn1 mm b1 c1 b2 c2 v u5 from by have h := HM.out; simpa using h)
   clear HM HSw HZ3 HT HR3 HQ3
   refine mvO_end (B := u4.heap.size + 1) ?_ (by omega) ?_
   ·with_reducible exact (HM1.out.set4 (Nat.lt_succ_self _) _ _ _ _).set4 (Nat.lt_succ_of_lt hzl) _ _ _ _
   ·with_reducible exact OnW.set4 (OnW.set4 HB3.out hwz _ _ _ _) (Nat.le_refl _) _ _ _ _
theorem l05Move_yes1 (p s c l : Int) (st sk re fe ag : Bool) (p1 p2 : Option Addr) (pn1 pc1 pc2 : Nat) (xs ys : List Int) (F rb pb : Nat) (move : Int) (w : World) (hr : RuAt w rb p s c l st sk re fe ag) (hq : PoAt w pb p1 p2 pn1 pc1 2 pc2 1) (h : PosR w p1 p2 pn1 2 xs ys) (hk : okP (okR p s c l st ag) p pn1 2 1 xs ys = true) (hF : F < pn1) (hf : 1 * p + move = F) (hm0 : 0 ≤ move) (hm1 : move < p) (he : xs.getD F 0 ≠ 0) (MV : Option Res) (hMV : mvF ⟨p, 1, st, sk, re⟩ 100 xs ys F 0 [] = MV) :
  Calls Try.prog 68 #[.pointer (some ⟨rb, 0, none⟩), .pointer (some ⟨pb, 0, none⟩), .int .i64 move] w (SwC pn1 10 MV w) := by
 have hok := okP_parts hk
 have hbd := okR_bd hok.1
 have hp2 := hbd.1
 have hp8 := hbd.2.1
 have hlap := lap_of_ok (sk := sk) (re := re) hk h.l1 h.l2 hF he
 have HC : Hid (∀ u, Below w.heap.size w u → Calls Try.prog 82 #[.pointer (some ⟨rb, 0, none⟩), .pointer (some ⟨pb, 0, none⟩), .int .i64 move] u (Still (.int .i64 0) u)) := Lib.hid (fun u hu => code_yes p s c l st sk re fe ag _ _ _ _ _ _ _ xs ys rb pb move u (hr.below hu) (hq.below hu) (h.below hu) hk F hF hf hm0 hm1 he)
 have HSw : Hid (∀ u, Below w.heap.size w u → Calls Try.prog 83 #[.pointer (some ⟨rb, 0, none⟩), .pointer (some ⟨pb, 0, none⟩), .int .i64 F] u (SwQ pn1 MV u)) := Lib.hid (fun u hu => specSow1 p s c l st sk re fe ag p1 p2 pn1 pc1 pc2 xs ys F rb pb u _ (hr.below hu) (hq.below hu) (h.below hu) hp2 hp8 hlap MV hMV)
 have HZ := Lib.hid (z4_new w 75)
 have HB := Lib.hid (al1 w (.cells #[.slice none 0 0, .slice none 0 0, .int .i64 0, .int .i64 0] 75))
 have HR := Lib.hid hr
 have HQ := Lib.hid hq
 have hw1 : IntKind.i64.wrap (1 * p) = 1 * p := IntWalk.i64_in _ ⟨by omega, by omega⟩
 have hw2 : IntKind.i64.wrap (1 * p + move) = (F : Int) := by rw [hf]; exact IntWalk.i64_in _ ⟨by omega, by omega⟩
 have hw3 : IntKind.i64.wrap (p + move) = p + move := IntWalk.i64_in _ ⟨by omega, by omega⟩
 have hw4 : IntKind.i64.wrap move = move := IntWalk.i64_in _ ⟨by omega, by omega⟩
 obtain ⟨M, hM⟩ : ∃ M : Nat, move = (M : Int) := ⟨move.toNat, by omega⟩
 subst hM
 have HWA : Hid (IntKind.i64.wrap (IntKind.i64.wrap p + (M : Int)) = (F : Int)) := Lib.hid (by rw [show IntKind.i64.wrap p = p from IntWalk.i64_in _ ⟨by omega, by omega⟩, IntWalk.i64_in _ ⟨by omega, by omega⟩]; omega)
 clear hok hbd hlap hk h he hMV hr hq
 go_enter Try.func68, Try.ntmps68
 go_wp2_with fail
 refine (HC.out _ HB.out).mono ?_
 rintro e u2 ⟨rfl, m, rfl⟩
 have HB3 : Hid (Below w.heap.size w ((w.alloc (.cells #[.slice none 0 0, .slice none 0 0, .int .i64 0, .int .i64 0] 75)).drewN m)) := Lib.hid (below_dn HB.out m)
 have HZ3 : Hid (Z4 ((w.alloc (.cells #[.slice none 0 0, .slice none 0 0, .int .i64 0, .int .i64 0] 75)).drewN m) w.heap.size) := Lib.hid (HZ.out.below (below_dn (Below.refl _ _) m))
 have HR3 : Hid (RuAt ((w.alloc (.cells #[.slice none 0 0, .slice none 0 0, .int .i64 0, .int .i64 0] 75)).drewN m) rb p s c l st sk re fe ag) := Lib.hid (HR.out.below HB3.out)
 have HQ3 : Hid (PoAt ((w.alloc (.cells #[.slice none 0 0, .slice none 0 0, .int .i64 0, .int .i64 0] 75)).drewN m) pb p1 p2 pn1 pc1 2 pc2 1) := Lib.hid (HQ.out.below HB3.out)
 generalize (w.alloc (.cells #[.slice none 0 0, .slice none 0 0, .int .i64 0, .int .i64 0] 75)).drewN m = u4 at *
 have HT : Hid (∀ u, RuAt u rb p s c l st sk re fe ag → PoAt u pb p1 p2 pn1 pc1 2 pc2 1 → OnW w u → (rb < u.heap.size ∧ u.cell? ⟨rb, 0, none⟩ = some (.int .i64 p)) ∧ (pb < u.heap.size ∧ u.cell? ⟨pb, 2, none⟩ = some (.int .i64 1)) ∧ Below w.heap.size w u) := Lib.hid (fun u h1 h2 h3 => ⟨⟨h1.1, h1.2.1⟩, ⟨h2.1, h2.2.2.2⟩, h3⟩)
 have HB3 := Lib.hid (show OnW w u4 from HB3.out)
 have hrl := HR3.out.1
 have hql := HQ3.out.1
 have hwz : w.heap.size ≤ u4.heap.size := HB3.out.bel.size
 have hzl := HZ3.out.lt
 have hne1 : w.heap.size ≠ u4.heap.size := by omega
 have hne2 : u4.heap.size ≠ w.heap.size := by omega
 go_wp2_with fail
 cases MV with
 | none =>
  go_region_held3 (fun u => (rb < u.heap.size ∧ u.cell? ⟨rb, 0, none⟩ = some (.int .i64 p)) ∧ (pb < u.heap.size ∧ u.cell? ⟨pb, 2, none⟩ = some (.int .i64 1)) ∧ Below w.heap.size w u) (first | with_reducible exact HT.out _ HR3.out HQ3.out HB3.out | with_reducible exact HT.out _ HR3.out.drew HQ3.out.drew HB3.out.drew | with_reducible exact HT.out _ (HR3.out.below (al1 _ _)) (HQ3.out.below (al1 _ _)) (HB3.out.below (al1 _ _)) | with_reducible exact HT.out _ (HR3.out.below (al1 _ _)).drew (HQ3.out.below (al1 _ _)).drew (HB3.out.below (al1 _ _)).drew | with_reducible exact HT.out _ (HR3.out.drew.below (al1 _ _)) (HQ3.out.drew.below (al1 _ _)) (HB3.out.drew.below (al1 _ _)) | with_reducible exact HT.out _ (HR3.out.but (but4 _ _ _ _ _ _) (by omega)) (HQ3.out.but (but4 _ _ _ _ _ _) (by omega)) (OnW.set4 HB3.out (by omega) _ _ _ _))
   ((go_at_call 83; (rw [HWA.out]); (first | with_reducible refine (HSw.out _ HB3.out.bel).mono ?_ | with_reducible refine (HSw.out _ HB3.out.drew.bel).mono ?_ | with_reducible refine (HSw.out _ (HB3.out.below (al1 _ _)).bel).mono ?_ | with_reducible refine (HSw.out _ (HB3.out.below (al1 _ _)).drew.bel).mono ?_ | with_reducible refine (HSw.out _ (HB3.out.drew.below (al1 _ _)).bel).mono ?_); rintro e u5 ⟨rfl, hb3⟩; (first | have HR3 := Lib.hid (HR3.out.below hb3) | have HR3 := Lib.hid (HR3.out.drew.below hb3) | have HR3 := Lib.hid ((HR3.out.below (al1 _ _)).below hb3) | have HR3 := Lib.hid ((HR3.out.below (al1 _ _)).drew.below hb3)); (first | have HQ3 := Lib.hid (HQ3.out.below hb3) | have HQ3 := Lib.hid (HQ3.out.drew.below hb3) | have HQ3 := Lib.hid ((HQ3.out.below (al1 _ _)).below hb3) | have HQ3 := Lib.hid ((HQ3.out.below (al1 _ _)).drew.below hb3)); (first | have HB3 := Lib.hid (HB3.out.below hb3) | have HB3 := Lib.hid (HB3.out.drew.below hb3) | have HB3 := Lib.hid ((HB3.out.below (al1 _ _)).below hb3) | have HB3 := Lib.hid ((HB3.out.below (al1 _ _)).drew.below hb3)); (first | have HZ3 := Lib.hid (HZ3.out.below hb3) | have HZ3 := Lib.hid (HZ3.out.drew.below hb3) | have HZ3 := Lib.hid ((HZ3.out.below (al1 _ _)).below hb3) | have HZ3 := Lib.hid ((HZ3.out.below (al1 _ _)).drew.below hb3)); have nz3 := HR3.out.1; have nq3 := HQ3.out.1; (first | have HY := Lib.hid ((z4_new u4 75).drew.below hb3) | have HY := Lib.hid ((z4_new u4.drew 75).below hb3) | have HY := Lib.hid ((z4_new u4 75).below hb3) | skip); (try obtain ⟨yz, y0, y1, y2, y3, k0, k1, k2, k3⟩ := HY.out); clear hb3))
  all_goals (obtain ⟨zl, z0, z1, z2, z3, q0, q1, q2, q3⟩ := HZ3.out)
  all_goals have hne3 : w.heap.size ≠ u5.heap.size := by omega
  all_goals have hne4 : u5.heap.size ≠ w.heap.size := by omega
  all_goals go_wp2_with fail
  all_goals (refine bodyPost_ret (v := .tuple #[.agg #[.slice none 0 0, .slice none 0 0, .int .i64 0, .int .i64 0], .slice none 0 0, .int .i64 10]) (by simp [results, Try.results68, go_sem, z0, z1, z2, z3, zl]) rfl ⟨rfl, ?_⟩)
  all_goals first
   | with_reducible exact (OnW.below (OnW.set4 HB3.out (Nat.le_refl _) _ _ _ _) (al1 _ _)).bel
   | with_reducible exact (OnW.set4 (OnW.set4 HB3.out hwz _ _ _ _) (Nat.le_refl _) _ _ _ _).bel
   | with_reducible exact (OnW.set4 (OnW.below HB3.out (al1 _ _)) (Nat.le_refl _) _ _ _ _).bel
 | some mm =>
  go_region_held3 (fun u => (rb < u.heap.size ∧ u.cell? ⟨rb, 0, none⟩ = some (.int .i64 p)) ∧ (pb < u.heap.size ∧ u.cell? ⟨pb, 2, none⟩ = some (.int .i64 1)) ∧ Below w.heap.size w u) (first | with_reducible exact HT.out _ HR3.out HQ3.out HB3.out | with_reducible exact HT.out _ HR3.out.drew HQ3.out.drew HB3.out.drew | with_reducible exact HT.out _ (HR3.out.below (al1 _ _)) (HQ3.out.below (al1 _ _)) (HB3.out.below (al1 _ _)) | with_reducible exact HT.out _ (HR3.out.below (al1 _ _)).drew (HQ3.out.below (al1 _ _)).drew (HB3.out.below (al1 _ _)).drew | with_reducible exact HT.out _ (HR3.out.drew.below (al1 _ _)) (HQ3.out.drew.below (al1 _ _)) (HB3.out.drew.below (al1 _ _)) | with_reducible exact HT.out _ (HR3.out.but (but4 _ _ _ _ _ _) (by omega)) (HQ3.out.but (but4 _ _ _ _ _ _) (by omega)) (OnW.set4 HB3.out (by omega) _ _ _ _))
   ((go_at_call 83; (rw [HWA.out]); (first | with_reducible refine (HSw.out _ HB3.out.bel).mono ?_ | with_reducible refine (HSw.out _ HB3.out.drew.bel).mono ?_ | with_reducible refine (HSw.out _ (HB3.out.below (al1 _ _)).bel).mono ?_ | with_reducible refine (HSw.out _ (HB3.out.below (al1 _ _)).drew.bel).mono ?_ | with_reducible refine (HSw.out _ (HB3.out.drew.below (al1 _ _)).bel).mono ?_); rintro e u5 ⟨b1, c1, b2, c2, v, rfl, ho, hl1, hl2, hc1, hc2, hown, hb3⟩; have HM := Lib.hid (MvO.mk ho hl1 hl2 hc1 hc2 hown); (have hbz := hb3.size); clear ho hl1 hl2 hc1 hc2 hown; (try simp at hbz); (first | have HR3 := Lib.hid (HR3.out.below hb3) | have HR3 := Lib.hid (HR3.out.drew.below hb3) | have HR3 := Lib.hid ((HR3.out.below (al1 _ _)).below hb3) | have HR3 := Lib.hid ((HR3.out.below (al1 _ _)).drew.below hb3)); (first | have HQ3 := Lib.hid (HQ3.out.below hb3) | have HQ3 := Lib.hid (HQ3.out.drew.below hb3) | have HQ3 := Lib.hid ((HQ3.out.below (al1 _ _)).below hb3) | have HQ3 := Lib.hid ((HQ3.out.below (al1 _ _)).drew.below hb3)); (first | have HB3 := Lib.hid (HB3.out.below hb3) | have HB3 := Lib.hid (HB3.out.drew.below hb3) | have HB3 := Lib.hid ((HB3.out.below (al1 _ _)).below hb3) | have HB3 := Lib.hid ((HB3.out.below (al1 _ _)).drew.below hb3)); (first | have HZ3 := Lib.hid (HZ3.out.below hb3) | have HZ3 := Lib.hid (HZ3.out.drew.below hb3) | have HZ3 := Lib.hid ((HZ3.out.below (al1 _ _)).below hb3) | have HZ3 := Lib.hid ((HZ3.out.below (al1 _ _)).drew.below hb3)); have nz3 := HR3.out.1; have nq3 := HQ3.out.1; (first | have HY := Lib.hid ((z4_new u4 75).drew.below hb3) | have HY := Lib.hid ((z4_new u4.drew 75).below hb3) | have HY := Lib.hid ((z4_new u4 75).below hb3) | skip); (try obtain ⟨yz, y0, y1, y2, y3, k0, k1, k2, k3⟩ := HY.out); clear hb3))
  all_goals (obtain ⟨zl, z0, z1, z2, z3, q0, q1, q2, q3⟩ := HZ3.out)
  all_goals have hne3 : w.heap.size ≠ u5.heap.size := by omega
  all_goals have hne4 : u5.heap.size ≠ w.heap.size := by omega
  all_goals go_wp2_with fail
  all_goals (refine bodyPost_ret (v := .tuple #[.agg #[.slice (some ⟨b1, 0, none⟩) pn1 c1, .slice (some ⟨b2, 0, none⟩) 2 c2, .int .i64 mm.last, .int .i64 mm.laps], v, .int .i64 0]) (by simp [results, Try.results68, go_sem, z0, z1, z2, z3, zl]) rfl ?_)
  ·have HM1 := Lib.hid (show MvO u4.heap.size pn1 mm b1 c1 b2 c2 v u5 from HM.out)
   clear HM HSw HZ3 HT HR3 HQ3
   refine mvO_end (B := u4.heap.size) ?_ hwz ?_
   ·with_reducible exact (HM1.out.set4 hzl _ _ _ _).below (al1 _ _)
   ·with_reducible exact OnW.below (OnW.set4 HB3.out (Nat.le_refl _) _ _ _ _) (al1 _ _)
  ·have HM1 := Lib.hid (show MvO (u4.heap.size + 1) pn1 mm b1 c1 b2 c2 v u5 from by have h := HM.out; simpa using h)
   clear HM HSw HZ3 HT HR3 HQ3
   refine mvO_end (B := u4.heap.size + 1) ?_ (by omega) ?_
   ·with_reducible exact (HM1.out.set4 (Nat.lt_succ_self _) _ _ _ _).set4 (Nat.lt_succ_of_lt hzl) _ _ _ _
   ·with_reducible exact OnW.set4 (OnW.set4 HB3.out hwz _ _ _ _) (Nat.le_refl _) _ _ _ _
/- LawB4 -/
def RpxAt (w : World) (p s c l : Int) (st sk re fe ag : Bool) (p1 p2 : Option Addr) (pn1 pc1 pn2 pc2 : Nat) (pp : Int) (xs ys : List Int) (d : Nat) (x1 x2 : Option Addr) (xn1 xc1 xn2 xc2 : Nat) (xp : Int) (u : World) : Prop := RuAt u w.heap.size p s c l st sk re fe ag ∧ PoAt u (w.heap.size + 1) p1 p2 pn1 pc1 pn2 pc2 pp ∧ PoAt u d x1 x2 xn1 xc1 xn2 xc2 xp ∧ PosR u x1 x2 xn1 xn2 xs ys ∧ Below w.heap.size w u
section
variable {w u v : World} {p s c l : Int} {st sk re fe ag : Bool} {p1 p2 : Option Addr} {pn1 pc1 pn2 pc2 : Nat} {pp : Int} {d : Nat} {x1 x2 : Option Addr} {xn1 xc1 xn2 xc2 : Nat} {xp : Int} {xs ys : List Int}
theorem RpxAt.below (h : RpxAt w p s c l st sk re fe ag p1 p2 pn1 pc1 pn2 pc2 pp xs ys d x1 x2 xn1 xc1 xn2 xc2 xp u) (k : Below u.heap.size u v) : RpxAt w p s c l st sk re fe ag p1 p2 pn1 pc1 pn2 pc2 pp xs ys d x1 x2 xn1 xc1 xn2 xc2 xp v := ⟨h.1.below k, h.2.1.below k, h.2.2.1.below k, h.2.2.2.1.below k, h.2.2.2.2.trans (k.mono h.2.2.2.2.size)⟩
theorem RpxAt.drew (h : RpxAt w p s c l st sk re fe ag p1 p2 pn1 pc1 pn2 pc2 pp xs ys d x1 x2 xn1 xc1 xn2 xc2 xp u) : RpxAt w p s c l st sk re fe ag p1 p2 pn1 pc1 pn2 pc2 pp xs ys d x1 x2 xn1 xc1 xn2 xc2 xp u.drew := ⟨h.1, h.2.1, h.2.2.1, h.2.2.2.1.drewN 1, h.2.2.2.2.drew⟩
end
/- Game1 -/
def GmAt (u : World) (b : Nat) (Jp Js Jc Jl : Int) (Jst Jsk Jre Jfe Jag : Bool) (Ja1 Ja2 : Option Addr) (Jan1 Jac1 Jan2 Jac2 : Nat) (Jap : Int) (Jm : Option Addr) (Jmn Jmc : Nat) (Jb1 Jb2 : Option Addr) (Jbn1 Jbc1 Jbn2 Jbc2 : Nat) (Jbp Jrg : Int) : Prop := (b < u.heap.size ∧ u.cell? ⟨b, 0, none⟩ = some (.int .i64 Jp) ∧ u.cell? ⟨b, 1, none⟩ = some (.int .i64 Js) ∧ u.cell? ⟨b, 2, none⟩ = some (.bool Jst) ∧ u.cell? ⟨b, 3, none⟩ = some (.bool Jsk) ∧ u.cell? ⟨b, 4, none⟩ = some (.bool Jre) ∧ u.cell? ⟨b, 5, none⟩ = some (.bool Jfe) ∧ u.cell? ⟨b, 6, none⟩ = some (.bool Jag) ∧ u.cell? ⟨b, 7, none⟩ = some (.int .i64 Jc) ∧ u.cell? ⟨b, 8, none⟩ = some (.int .i64 Jl) ∧ u.cell? ⟨b, 9, none⟩ = some (.slice Ja1 Jan1 Jac1) ∧ u.cell? ⟨b, 10, none⟩ = some (.slice Ja2 Jan2 Jac2) ∧ u.cell? ⟨b, 11, none⟩ = some (.int .i64 Jap) ∧ u.cell? ⟨b, 12, none⟩ = some (.slice Jm Jmn Jmc) ∧ u.cell? ⟨b, 13, none⟩ = some (.slice Jb1 Jbn1 Jbc1) ∧ u.cell? ⟨b, 14, none⟩ = some (.slice Jb2 Jbn2 Jbc2) ∧ u.cell? ⟨b, 15, none⟩ = some (.int .i64 Jbp) ∧ u.cell? ⟨b, 16, none⟩ = some (.int .i64 Jrg))
structure GamR (w : World) (a1 a2 : Option Addr) (an1 an2 : Nat) (mm : Option Addr) (mn : Nat) (b1 b2 : Option Addr) (bn1 bn2 : Nat) (sx sy ms nx ny : List Int) : Prop where
 s : PosR w a1 a2 an1 an2 sx sy
 m : RowN w mm ms
 lm : ms.length = mn
 n : PosR w b1 b2 bn1 bn2 nx ny
section
variable {u v w : World} {b z : Nat} {Jp Js Jc Jl : Int} {Jst Jsk Jre Jfe Jag : Bool} {Ja1 Ja2 : Option Addr} {Jan1 Jac1 Jan2 Jac2 : Nat} {Jap : Int} {Jm : Option Addr} {Jmn Jmc : Nat} {Jb1 Jb2 : Option Addr} {Jbn1 Jbc1 Jbn2 Jbc2 : Nat} {Jbp Jrg : Int} {sx sy ms nx ny : List Int}
theorem GmAt.below (h : GmAt u b Jp Js Jc Jl Jst Jsk Jre Jfe Jag Ja1 Ja2 Jan1 Jac1 Jan2 Jac2 Jap Jm Jmn Jmc Jb1 Jb2 Jbn1 Jbc1 Jbn2 Jbc2 Jbp Jrg) (k : Below u.heap.size u v) : GmAt v b Jp Js Jc Jl Jst Jsk Jre Jfe Jag Ja1 Ja2 Jan1 Jac1 Jan2 Jac2 Jap Jm Jmn Jmc Jb1 Jb2 Jbn1 Jbc1 Jbn2 Jbc2 Jbp Jrg := by
 obtain ⟨hb, h⟩ := h
 have e := fun o => k.cell (p := ⟨b, o, none⟩) hb
 exact ⟨Nat.lt_of_lt_of_le hb k.size, by rw [e, e, e, e, e, e, e, e, e, e, e, e, e, e, e, e, e]; exact h⟩
theorem GmAt.but (h : GmAt u b Jp Js Jc Jl Jst Jsk Jre Jfe Jag Ja1 Ja2 Jan1 Jac1 Jan2 Jac2 Jap Jm Jmn Jmc Jb1 Jb2 Jbn1 Jbc1 Jbn2 Jbc2 Jbp Jrg) (k : But z u v) (hz : b ≠ z) : GmAt v b Jp Js Jc Jl Jst Jsk Jre Jfe Jag Ja1 Ja2 Jan1 Jac1 Jan2 Jac2 Jap Jm Jmn Jmc Jb1 Jb2 Jbn1 Jbc1 Jbn2 Jbc2 Jbp Jrg := by
 obtain ⟨hb, h⟩ := h
 have e := fun o => k.cell (o := o) hb hz
 exact ⟨Nat.lt_of_lt_of_le hb k.size, by rw [e, e, e, e, e, e, e, e, e, e, e, e, e, e, e, e, e]; exact h⟩
theorem GmAt.range (h : GmAt u b Jp Js Jc Jl Jst Jsk Jre Jfe Jag Ja1 Ja2 Jan1 Jac1 Jan2 Jac2 Jap Jm Jmn Jmc Jb1 Jb2 Jbn1 Jbc1 Jbn2 Jbc2 Jbp Jrg) : u.rangeAt b 0 [.int .i64 Jp, .int .i64 Js, .bool Jst, .bool Jsk, .bool Jre, .bool Jfe, .bool Jag, .int .i64 Jc, .int .i64 Jl, .slice Ja1 Jan1 Jac1, .slice Ja2 Jan2 Jac2, .int .i64 Jap, .slice Jm Jmn Jmc, .slice Jb1 Jbn1 Jbc1, .slice Jb2 Jbn2 Jbc2, .int .i64 Jbp, .int .i64 Jrg] := by
 obtain ⟨_, m0, m1, m2, m3, m4, m5, m6, m7, m8, m9, m10, m11, m12, m13, m14, m15, m16⟩ := h
 intro j x hj
 match j, hj with
 | 0, hj => cases hj; exact m0
 | 1, hj => cases hj; exact m1
 | 2, hj => cases hj; exact m2
 | 3, hj => cases hj; exact m3
 | 4, hj => cases hj; exact m4
 | 5, hj => cases hj; exact m5
 | 6, hj => cases hj; exact m6
 | 7, hj => cases hj; exact m7
 | 8, hj => cases hj; exact m8
 | 9, hj => cases hj; exact m9
 | 10, hj => cases hj; exact m10
 | 11, hj => cases hj; exact m11
 | 12, hj => cases hj; exact m12
 | 13, hj => cases hj; exact m13
 | 14, hj => cases hj; exact m14
 | 15, hj => cases hj; exact m15
 | 16, hj => cases hj; exact m16
 | n + 17, hj => simp at hj
theorem GamR.below (h : GamR w Ja1 Ja2 Jan1 Jan2 Jm Jmn Jb1 Jb2 Jbn1 Jbn2 sx sy ms nx ny) (k : Below w.heap.size w v) : GamR v Ja1 Ja2 Jan1 Jan2 Jm Jmn Jb1 Jb2 Jbn1 Jbn2 sx sy ms nx ny :=
 ⟨h.s.below k, h.m.below k, h.lm, h.n.below k⟩
theorem GamW.toR (h : GamW w Ja1 Ja2 Jan1 Jan2 Jm Jmn Jb1 Jb2 Jbn1 Jbn2 sx sy ms nx ny) (hn : (Jan1 : Int) + Jan2 + Jmn + Jbn1 + Jbn2 ≤ 1048576) : GamR w Ja1 Ja2 Jan1 Jan2 Jm Jmn Jb1 Jb2 Jbn1 Jbn2 sx sy ms nx ny :=
 ⟨h.s.toR (by omega), h.m (by rw [h.lm]; omega), h.lm, h.n.toR (by omega)⟩
end
theorem gm_new (Jp Js Jc Jl : Int) (Jst Jsk Jre Jfe Jag : Bool) (Ja1 Ja2 : Option Addr) (Jan1 Jac1 Jan2 Jac2 : Nat) (Jap : Int) (Jm : Option Addr) (Jmn Jmc : Nat) (Jb1 Jb2 : Option Addr) (Jbn1 Jbc1 Jbn2 Jbc2 : Nat) (Jbp Jrg : Int) (w : World) (T : TypeId) : GmAt (w.alloc (.cells #[.int .i64 Jp, .int .i64 Js, .bool Jst, .bool Jsk, .bool Jre, .bool Jfe, .bool Jag, .int .i64 Jc, .int .i64 Jl, .slice Ja1 Jan1 Jac1, .slice Ja2 Jan2 Jac2, .int .i64 Jap, .slice Jm Jmn Jmc, .slice Jb1 Jbn1 Jbc1, .slice Jb2 Jbn2 Jbc2, .int .i64 Jbp, .int .i64 Jrg] T)) w.heap.size Jp Js Jc Jl Jst Jsk Jre Jfe Jag Ja1 Ja2 Jan1 Jac1 Jan2 Jac2 Jap Jm Jmn Jmc Jb1 Jb2 Jbn1 Jbc1 Jbn2 Jbc2 Jbp Jrg :=
 ⟨by simp, by go_simp, by go_simp, by go_simp, by go_simp, by go_simp, by go_simp, by go_simp, by go_simp, by go_simp, by go_simp, by go_simp, by go_simp, by go_simp, by go_simp, by go_simp, by go_simp, by go_simp⟩
structure G17 (u : World) (z : Nat) (v0 v1 v2 v3 v4 v5 v6 v7 v8 v9 v10 v11 v12 v13 v14 v15 v16 : Value) : Prop where
 lt : z < u.heap.size
 c0 : u.cell? ⟨z, 0, none⟩ = some v0
 c1 : u.cell? ⟨z, 1, none⟩ = some v1
 c2 : u.cell? ⟨z, 2, none⟩ = some v2
 c3 : u.cell? ⟨z, 3, none⟩ = some v3
 c4 : u.cell? ⟨z, 4, none⟩ = some v4
 c5 : u.cell? ⟨z, 5, none⟩ = some v5
 c6 : u.cell? ⟨z, 6, none⟩ = some v6
 c7 : u.cell? ⟨z, 7, none⟩ = some v7
 c8 : u.cell? ⟨z, 8, none⟩ = some v8
 c9 : u.cell? ⟨z, 9, none⟩ = some v9
 c10 : u.cell? ⟨z, 10, none⟩ = some v10
 c11 : u.cell? ⟨z, 11, none⟩ = some v11
 c12 : u.cell? ⟨z, 12, none⟩ = some v12
 c13 : u.cell? ⟨z, 13, none⟩ = some v13
 c14 : u.cell? ⟨z, 14, none⟩ = some v14
 c15 : u.cell? ⟨z, 15, none⟩ = some v15
 c16 : u.cell? ⟨z, 16, none⟩ = some v16
 fr : ∀ o, u.frozen? ⟨z, o, none⟩ = false
theorem G17.below {u v : World} {z : Nat} {v0 v1 v2 v3 v4 v5 v6 v7 v8 v9 v10 v11 v12 v13 v14 v15 v16 : Value} (h : G17 u z v0 v1 v2 v3 v4 v5 v6 v7 v8 v9 v10 v11 v12 v13 v14 v15 v16) (k : Below u.heap.size u v) : G17 v z v0 v1 v2 v3 v4 v5 v6 v7 v8 v9 v10 v11 v12 v13 v14 v15 v16 := by
 have e := fun o => k.cell (p := ⟨z, o, none⟩) h.lt
 exact ⟨Nat.lt_of_lt_of_le h.lt k.size, (e _).trans h.c0, (e _).trans h.c1, (e _).trans h.c2, (e _).trans h.c3, (e _).trans h.c4, (e _).trans h.c5, (e _).trans h.c6, (e _).trans h.c7, (e _).trans h.c8, (e _).trans h.c9, (e _).trans h.c10, (e _).trans h.c11, (e _).trans h.c12, (e _).trans h.c13, (e _).trans h.c14, (e _).trans h.c15, (e _).trans h.c16, fun o => (k.frozen (p := ⟨z, o, none⟩) h.lt).trans (h.fr o)⟩
theorem G17.but {u v : World} {z b : Nat} {v0 v1 v2 v3 v4 v5 v6 v7 v8 v9 v10 v11 v12 v13 v14 v15 v16 : Value} (h : G17 u z v0 v1 v2 v3 v4 v5 v6 v7 v8 v9 v10 v11 v12 v13 v14 v15 v16) (k : But b u v) (hb : z ≠ b) : G17 v z v0 v1 v2 v3 v4 v5 v6 v7 v8 v9 v10 v11 v12 v13 v14 v15 v16 := by
 have e := fun o => k.cell (o := o) h.lt hb
 exact ⟨Nat.lt_of_lt_of_le h.lt k.size, (e _).trans h.c0, (e _).trans h.c1, (e _).trans h.c2, (e _).trans h.c3, (e _).trans h.c4, (e _).trans h.c5, (e _).trans h.c6, (e _).trans h.c7, (e _).trans h.c8, (e _).trans h.c9, (e _).trans h.c10, (e _).trans h.c11, (e _).trans h.c12, (e _).trans h.c13, (e _).trans h.c14, (e _).trans h.c15, (e _).trans h.c16, fun o => (k.frozen h.lt hb).trans (h.fr o)⟩
theorem G17.there {u : World} {z : Nat} {v0 v1 v2 v3 v4 v5 v6 v7 v8 v9 v10 v11 v12 v13 v14 v15 v16 : Value} (h : G17 u z v0 v1 v2 v3 v4 v5 v6 v7 v8 v9 v10 v11 v12 v13 v14 v15 v16) : u.there z 0 17 := fun j hj => by
 match j, hj with
 | 0, _ => exact ⟨by show (u.cell? ⟨z, 0, none⟩).isSome = true; rw [h.c0]; rfl, h.fr 0⟩
 | 1, _ => exact ⟨by show (u.cell? ⟨z, 1, none⟩).isSome = true; rw [h.c1]; rfl, h.fr 1⟩
 | 2, _ => exact ⟨by show (u.cell? ⟨z, 2, none⟩).isSome = true; rw [h.c2]; rfl, h.fr 2⟩
 | 3, _ => exact ⟨by show (u.cell? ⟨z, 3, none⟩).isSome = true; rw [h.c3]; rfl, h.fr 3⟩
 | 4, _ => exact ⟨by show (u.cell? ⟨z, 4, none⟩).isSome = true; rw [h.c4]; rfl, h.fr 4⟩
 | 5, _ => exact ⟨by show (u.cell? ⟨z, 5, none⟩).isSome = true; rw [h.c5]; rfl, h.fr 5⟩
 | 6, _ => exact ⟨by show (u.cell? ⟨z, 6, none⟩).isSome = true; rw [h.c6]; rfl, h.fr 6⟩
 | 7, _ => exact ⟨by show (u.cell? ⟨z, 7, none⟩).isSome = true; rw [h.c7]; rfl, h.fr 7⟩
 | 8, _ => exact ⟨by show (u.cell? ⟨z, 8, none⟩).isSome = true; rw [h.c8]; rfl, h.fr 8⟩
 | 9, _ => exact ⟨by show (u.cell? ⟨z, 9, none⟩).isSome = true; rw [h.c9]; rfl, h.fr 9⟩
 | 10, _ => exact ⟨by show (u.cell? ⟨z, 10, none⟩).isSome = true; rw [h.c10]; rfl, h.fr 10⟩
 | 11, _ => exact ⟨by show (u.cell? ⟨z, 11, none⟩).isSome = true; rw [h.c11]; rfl, h.fr 11⟩
 | 12, _ => exact ⟨by show (u.cell? ⟨z, 12, none⟩).isSome = true; rw [h.c12]; rfl, h.fr 12⟩
 | 13, _ => exact ⟨by show (u.cell? ⟨z, 13, none⟩).isSome = true; rw [h.c13]; rfl, h.fr 13⟩
 | 14, _ => exact ⟨by show (u.cell? ⟨z, 14, none⟩).isSome = true; rw [h.c14]; rfl, h.fr 14⟩
 | 15, _ => exact ⟨by show (u.cell? ⟨z, 15, none⟩).isSome = true; rw [h.c15]; rfl, h.fr 15⟩
 | 16, _ => exact ⟨by show (u.cell? ⟨z, 16, none⟩).isSome = true; rw [h.c16]; rfl, h.fr 16⟩
 | n + 17, h => exact absurd h (by omega)
theorem g17_new (w : World) (T : TypeId) : G17 (w.alloc (.cells #[.int .i64 0, .int .i64 0, .bool false, .bool false, .bool false, .bool false, .bool false, .int .i64 0, .int .i64 0, .slice none 0 0, .slice none 0 0, .int .i64 0, .slice none 0 0, .slice none 0 0, .slice none 0 0, .int .i64 0, .int .i64 0] T)) w.heap.size (.int .i64 0) (.int .i64 0) (.bool false) (.bool false) (.bool false) (.bool false) (.bool false) (.int .i64 0) (.int .i64 0) (.slice none 0 0) (.slice none 0 0) (.int .i64 0) (.slice none 0 0) (.slice none 0 0) (.slice none 0 0) (.int .i64 0) (.int .i64 0) :=
 ⟨by simp, by go_simp, by go_simp, by go_simp, by go_simp, by go_simp, by go_simp, by go_simp, by go_simp, by go_simp, by go_simp, by go_simp, by go_simp, by go_simp, by go_simp, by go_simp, by go_simp, by go_simp, fun o => by go_simp⟩
theorem G17.setR {u : World} {z : Nat} {v0 v1 v2 v3 v4 v5 v6 v7 v8 v9 v10 v11 v12 v13 v14 v15 v16 : Value} (h : G17 u z v0 v1 v2 v3 v4 v5 v6 v7 v8 v9 v10 v11 v12 v13 v14 v15 v16) (x0 x1 x2 x3 x4 x5 x6 x7 x8 : Value) : G17 (((((((((u.setCell ⟨z, 0, none⟩ x0).setCell ⟨z, 1, none⟩ x1).setCell ⟨z, 2, none⟩ x2).setCell ⟨z, 3, none⟩ x3).setCell ⟨z, 4, none⟩ x4).setCell ⟨z, 5, none⟩ x5).setCell ⟨z, 6, none⟩ x6).setCell ⟨z, 7, none⟩ x7).setCell ⟨z, 8, none⟩ x8) z x0 x1 x2 x3 x4 x5 x6 x7 x8 v9 v10 v11 v12 v13 v14 v15 v16 := by
 obtain ⟨zl, z0, z1, z2, z3, z4, z5, z6, z7, z8, z9, z10, z11, z12, z13, z14, z15, z16, zf⟩ := h
 have f0 := zf 0
 have f1 := zf 1
 have f2 := zf 2
 have f3 := zf 3
 have f4 := zf 4
 have f5 := zf 5
 have f6 := zf 6
 have f7 := zf 7
 have f8 := zf 8
 exact ⟨by simpa using zl, by go_simp, by go_simp, by go_simp, by go_simp, by go_simp, by go_simp, by go_simp, by go_simp, by go_simp, by go_simp, by go_simp, by go_simp, by go_simp, by go_simp, by go_simp, by go_simp, by go_simp, fun o => by have := zf o; go_simp⟩
theorem but_setR (z : Nat) (u : World) (x0 x1 x2 x3 x4 x5 x6 x7 x8 : Value) : But z u (((((((((u.setCell ⟨z, 0, none⟩ x0).setCell ⟨z, 1, none⟩ x1).setCell ⟨z, 2, none⟩ x2).setCell ⟨z, 3, none⟩ x3).setCell ⟨z, 4, none⟩ x4).setCell ⟨z, 5, none⟩ x5).setCell ⟨z, 6, none⟩ x6).setCell ⟨z, 7, none⟩ x7).setCell ⟨z, 8, none⟩ x8) := (((((((((But.refl z u).setCell (p := ⟨z, 0, none⟩) rfl x0).setCell (p := ⟨z, 1, none⟩) rfl x1).setCell (p := ⟨z, 2, none⟩) rfl x2).setCell (p := ⟨z, 3, none⟩) rfl x3).setCell (p := ⟨z, 4, none⟩) rfl x4).setCell (p := ⟨z, 5, none⟩) rfl x5).setCell (p := ⟨z, 6, none⟩) rfl x6).setCell (p := ⟨z, 7, none⟩) rfl x7).setCell (p := ⟨z, 8, none⟩) rfl x8
theorem G17.setS {u : World} {z : Nat} {v0 v1 v2 v3 v4 v5 v6 v7 v8 v9 v10 v11 v12 v13 v14 v15 v16 : Value} (h : G17 u z v0 v1 v2 v3 v4 v5 v6 v7 v8 v9 v10 v11 v12 v13 v14 v15 v16) (x9 x10 x11 : Value) : G17 (((u.setCell ⟨z, 9, none⟩ x9).setCell ⟨z, 10, none⟩ x10).setCell ⟨z, 11, none⟩ x11) z v0 v1 v2 v3 v4 v5 v6 v7 v8 x9 x10 x11 v12 v13 v14 v15 v16 := by
 obtain ⟨zl, z0, z1, z2, z3, z4, z5, z6, z7, z8, z9, z10, z11, z12, z13, z14, z15, z16, zf⟩ := h
 have f9 := zf 9
 have f10 := zf 10
 have f11 := zf 11
 exact ⟨by simpa using zl, by go_simp, by go_simp, by go_simp, by go_simp, by go_simp, by go_simp, by go_simp, by go_simp, by go_simp, by go_simp, by go_simp, by go_simp, by go_simp, by go_simp, by go_simp, by go_simp, by go_simp, fun o => by have := zf o; go_simp⟩
theorem but_setS (z : Nat) (u : World) (x9 x10 x11 : Value) : But z u (((u.setCell ⟨z, 9, none⟩ x9).setCell ⟨z, 10, none⟩ x10).setCell ⟨z, 11, none⟩ x11) := (((But.refl z u).setCell (p := ⟨z, 9, none⟩) rfl x9).setCell (p := ⟨z, 10, none⟩) rfl x10).setCell (p := ⟨z, 11, none⟩) rfl x11
theorem G17.setM {u : World} {z : Nat} {v0 v1 v2 v3 v4 v5 v6 v7 v8 v9 v10 v11 v12 v13 v14 v15 v16 : Value} (h : G17 u z v0 v1 v2 v3 v4 v5 v6 v7 v8 v9 v10 v11 v12 v13 v14 v15 v16) (x12 : Value) : G17 (u.setCell ⟨z, 12, none⟩ x12) z v0 v1 v2 v3 v4 v5 v6 v7 v8 v9 v10 v11 x12 v13 v14 v15 v16 := by
 obtain ⟨zl, z0, z1, z2, z3, z4, z5, z6, z7, z8, z9, z10, z11, z12, z13, z14, z15, z16, zf⟩ := h
 have f12 := zf 12
 exact ⟨by simpa using zl, by go_simp, by go_simp, by go_simp, by go_simp, by go_simp, by go_simp, by go_simp, by go_simp, by go_simp, by go_simp, by go_simp, by go_simp, by go_simp, by go_simp, by go_simp, by go_simp, by go_simp, fun o => by have := zf o; go_simp⟩
theorem but_setM (z : Nat) (u : World) (x12 : Value) : But z u (u.setCell ⟨z, 12, none⟩ x12) := (But.refl z u).setCell (p := ⟨z, 12, none⟩) rfl x12
theorem G17.setN {u : World} {z : Nat} {v0 v1 v2 v3 v4 v5 v6 v7 v8 v9 v10 v11 v12 v13 v14 v15 v16 : Value} (h : G17 u z v0 v1 v2 v3 v4 v5 v6 v7 v8 v9 v10 v11 v12 v13 v14 v15 v16) (x13 x14 x15 : Value) : G17 (((u.setCell ⟨z, 13, none⟩ x13).setCell ⟨z, 14, none⟩ x14).setCell ⟨z, 15, none⟩ x15) z v0 v1 v2 v3 v4 v5 v6 v7 v8 v9 v10 v11 v12 x13 x14 x15 v16 := by
 obtain ⟨zl, z0, z1, z2, z3, z4, z5, z6, z7, z8, z9, z10, z11, z12, z13, z14, z15, z16, zf⟩ := h
 have f13 := zf 13
 have f14 := zf 14
 have f15 := zf 15
 exact ⟨by simpa using zl, by go_simp, by go_simp, by go_simp, by go_simp, by go_simp, by go_simp, by go_simp, by go_simp, by go_simp, by go_simp, by go_simp, by go_simp, by go_simp, by go_simp, by go_simp, by go_simp, by go_simp, fun o => by have := zf o; go_simp⟩
theorem but_setN (z : Nat) (u : World) (x13 x14 x15 : Value) : But z u (((u.setCell ⟨z, 13, none⟩ x13).setCell ⟨z, 14, none⟩ x14).setCell ⟨z, 15, none⟩ x15) := (((But.refl z u).setCell (p := ⟨z, 13, none⟩) rfl x13).setCell (p := ⟨z, 14, none⟩) rfl x14).setCell (p := ⟨z, 15, none⟩) rfl x15
theorem G17.setG {u : World} {z : Nat} {v0 v1 v2 v3 v4 v5 v6 v7 v8 v9 v10 v11 v12 v13 v14 v15 v16 : Value} (h : G17 u z v0 v1 v2 v3 v4 v5 v6 v7 v8 v9 v10 v11 v12 v13 v14 v15 v16) (x16 : Value) : G17 (u.setCell ⟨z, 16, none⟩ x16) z v0 v1 v2 v3 v4 v5 v6 v7 v8 v9 v10 v11 v12 v13 v14 v15 x16 := by
 obtain ⟨zl, z0, z1, z2, z3, z4, z5, z6, z7, z8, z9, z10, z11, z12, z13, z14, z15, z16, zf⟩ := h
 have f16 := zf 16
 exact ⟨by simpa using zl, by go_simp, by go_simp, by go_simp, by go_simp, by go_simp, by go_simp, by go_simp, by go_simp, by go_simp, by go_simp, by go_simp, by go_simp, by go_simp, by go_simp, by go_simp, by go_simp, by go_simp, fun o => by have := zf o; go_simp⟩
theorem but_setG (z : Nat) (u : World) (x16 : Value) : But z u (u.setCell ⟨z, 16, none⟩ x16) := (But.refl z u).setCell (p := ⟨z, 16, none⟩) rfl x16
/- Game2 -/
structure GamO (w : World) (B : Nat) (a1 a2 : Option Addr) (k1 k2 an1 an2 : Nat) (mm : Option Addr) (k3 mn : Nat) (b1 b2 : Option Addr) (k4 k5 bn1 bn2 : Nat) (sx sy ms nx ny : List Int) : Prop where
 s : PosO w B a1 a2 k1 k2 an1 an2 sx sy
 m : OutN w B mm k3 ms
 lm : ms.length = mn
 n : PosO w B b1 b2 k4 k5 bn1 bn2 nx ny
theorem GamO.r {w : World} {B : Nat} {a1 a2 : Option Addr} {k1 k2 an1 an2 : Nat} {mm : Option Addr} {k3 mn : Nat} {b1 b2 : Option Addr} {k4 k5 bn1 bn2 : Nat} {sx sy ms nx ny : List Int} (h : GamO w B a1 a2 k1 k2 an1 an2 mm k3 mn b1 b2 k4 k5 bn1 bn2 sx sy ms nx ny) : GamR w a1 a2 an1 an2 mm mn b1 b2 bn1 bn2 sx sy ms nx ny :=
 ⟨h.s.r, h.m.row, h.lm, h.n.r⟩
theorem GamO.below {w v : World} {B : Nat} {a1 a2 : Option Addr} {k1 k2 an1 an2 : Nat} {mm : Option Addr} {k3 mn : Nat} {b1 b2 : Option Addr} {k4 k5 bn1 bn2 : Nat} {sx sy ms nx ny : List Int} (h : GamO w B a1 a2 k1 k2 an1 an2 mm k3 mn b1 b2 k4 k5 bn1 bn2 sx sy ms nx ny) (k : Below w.heap.size w v) : GamO v B a1 a2 k1 k2 an1 an2 mm k3 mn b1 b2 k4 k5 bn1 bn2 sx sy ms nx ny :=
 ⟨h.s.below k, h.m.below k, h.lm, h.n.below k⟩
def GamP (p s c l : Int) (st sk re fe ag : Bool) (an1 an2 : Nat) (ap : Int) (mn bn1 bn2 : Nat) (bp rg : Int) (sx sy ms nx ny : List Int) (w : World) (e : Ending) (w' : World) : Prop :=
 ∃ g1 g2 g3 g4 g5, e = .returned (.agg #[.int .i64 p, .int .i64 s, .bool st, .bool sk, .bool re, .bool fe, .bool ag, .int .i64 c, .int .i64 l, .slice (some ⟨g1, 0, none⟩) an1 an1, .slice (some ⟨g2, 0, none⟩) an2 an2, .int .i64 ap, .slice (some ⟨g3, 0, none⟩) mn mn, .slice (some ⟨g4, 0, none⟩) bn1 bn1, .slice (some ⟨g5, 0, none⟩) bn2 bn2, .int .i64 bp, .int .i64 rg]) ∧ GamO w' w.heap.size (some ⟨g1, 0, none⟩) (some ⟨g2, 0, none⟩) g1 g2 an1 an2 (some ⟨g3, 0, none⟩) g3 mn (some ⟨g4, 0, none⟩) (some ⟨g5, 0, none⟩) g4 g5 bn1 bn2 sx sy ms nx ny ∧ (g1 < w'.heap.size ∧ g2 < w'.heap.size ∧ g3 < w'.heap.size ∧ g4 < w'.heap.size ∧ g5 < w'.heap.size) ∧ Below w.heap.size w w'
structure TGm (w u : World) (Jp Js Jc Jl : Int) (Jst Jsk Jre Jfe Jag : Bool) (Ja1 Ja2 : Option Addr) (Jan1 Jac1 Jan2 Jac2 : Nat) (Jap : Int) (Jm : Option Addr) (Jmn Jmc : Nat) (Jb1 Jb2 : Option Addr) (Jbn1 Jbc1 Jbn2 Jbc2 : Nat) (Jbp Jrg : Int) (v0 v1 v2 v3 v4 v5 v6 v7 v8 v9 v10 v11 v12 v13 v14 v15 v16 : Value) : Prop where
 a : GmAt u w.heap.size Jp Js Jc Jl Jst Jsk Jre Jfe Jag Ja1 Ja2 Jan1 Jac1 Jan2 Jac2 Jap Jm Jmn Jmc Jb1 Jb2 Jbn1 Jbc1 Jbn2 Jbc2 Jbp Jrg
 r : G17 u (w.heap.size + 1) (.int .i64 0) (.int .i64 0) (.bool false) (.bool false) (.bool false) (.bool false) (.bool false) (.int .i64 0) (.int .i64 0) (.slice none 0 0) (.slice none 0 0) (.int .i64 0) (.slice none 0 0) (.slice none 0 0) (.slice none 0 0) (.int .i64 0) (.int .i64 0)
 z : G17 u (w.heap.size + 1 + 1) v0 v1 v2 v3 v4 v5 v6 v7 v8 v9 v10 v11 v12 v13 v14 v15 v16
 b : Below w.heap.size w u
section
variable {w u v : World} {b : Nat} {Jp Js Jc Jl : Int} {Jst Jsk Jre Jfe Jag : Bool} {Ja1 Ja2 : Option Addr} {Jan1 Jac1 Jan2 Jac2 : Nat} {Jap : Int} {Jm : Option Addr} {Jmn Jmc : Nat} {Jb1 Jb2 : Option Addr} {Jbn1 Jbc1 Jbn2 Jbc2 : Nat} {Jbp Jrg : Int} {v0 v1 v2 v3 v4 v5 v6 v7 v8 v9 v10 v11 v12 v13 v14 v15 v16 : Value}
theorem TGm.below (h : TGm w u Jp Js Jc Jl Jst Jsk Jre Jfe Jag Ja1 Ja2 Jan1 Jac1 Jan2 Jac2 Jap Jm Jmn Jmc Jb1 Jb2 Jbn1 Jbc1 Jbn2 Jbc2 Jbp Jrg v0 v1 v2 v3 v4 v5 v6 v7 v8 v9 v10 v11 v12 v13 v14 v15 v16) (k : Below u.heap.size u v) : TGm w v Jp Js Jc Jl Jst Jsk Jre Jfe Jag Ja1 Ja2 Jan1 Jac1 Jan2 Jac2 Jap Jm Jmn Jmc Jb1 Jb2 Jbn1 Jbc1 Jbn2 Jbc2 Jbp Jrg v0 v1 v2 v3 v4 v5 v6 v7 v8 v9 v10 v11 v12 v13 v14 v15 v16 :=
 ⟨h.a.below k, h.r.below k, h.z.below k, h.b.trans (k.mono h.b.size)⟩
theorem TGm.setR (h : TGm w u Jp Js Jc Jl Jst Jsk Jre Jfe Jag Ja1 Ja2 Jan1 Jac1 Jan2 Jac2 Jap Jm Jmn Jmc Jb1 Jb2 Jbn1 Jbc1 Jbn2 Jbc2 Jbp Jrg v0 v1 v2 v3 v4 v5 v6 v7 v8 v9 v10 v11 v12 v13 v14 v15 v16) (x0 x1 x2 x3 x4 x5 x6 x7 x8 : Value) : TGm w (((((((((u.setCell ⟨w.heap.size + 1 + 1, 0, none⟩ x0).setCell ⟨w.heap.size + 1 + 1, 1, none⟩ x1).setCell ⟨w.heap.size + 1 + 1, 2, none⟩ x2).setCell ⟨w.heap.size + 1 + 1, 3, none⟩ x3).setCell ⟨w.heap.size + 1 + 1, 4, none⟩ x4).setCell ⟨w.heap.size + 1 + 1, 5, none⟩ x5).setCell ⟨w.heap.size + 1 + 1, 6, none⟩ x6).setCell ⟨w.heap.size + 1 + 1, 7, none⟩ x7).setCell ⟨w.heap.size + 1 + 1, 8, none⟩ x8) Jp Js Jc Jl Jst Jsk Jre Jfe Jag Ja1 Ja2 Jan1 Jac1 Jan2 Jac2 Jap Jm Jmn Jmc Jb1 Jb2 Jbn1 Jbc1 Jbn2 Jbc2 Jbp Jrg x0 x1 x2 x3 x4 x5 x6 x7 x8 v9 v10 v11 v12 v13 v14 v15 v16 :=
 have k := but_setR (w.heap.size + 1 + 1) u x0 x1 x2 x3 x4 x5 x6 x7 x8
 ⟨h.a.but k (by omega), h.r.but k (by omega), h.z.setR x0 x1 x2 x3 x4 x5 x6 x7 x8, But.below h.b k (by omega) h.b.size⟩
theorem TGm.setS (h : TGm w u Jp Js Jc Jl Jst Jsk Jre Jfe Jag Ja1 Ja2 Jan1 Jac1 Jan2 Jac2 Jap Jm Jmn Jmc Jb1 Jb2 Jbn1 Jbc1 Jbn2 Jbc2 Jbp Jrg v0 v1 v2 v3 v4 v5 v6 v7 v8 v9 v10 v11 v12 v13 v14 v15 v16) (x9 x10 x11 : Value) : TGm w (((u.setCell ⟨w.heap.size + 1 + 1, 9, none⟩ x9).setCell ⟨w.heap.size + 1 + 1, 10, none⟩ x10).setCell ⟨w.heap.size + 1 + 1, 11, none⟩ x11) Jp Js Jc Jl Jst Jsk Jre Jfe Jag Ja1 Ja2 Jan1 Jac1 Jan2 Jac2 Jap Jm Jmn Jmc Jb1 Jb2 Jbn1 Jbc1 Jbn2 Jbc2 Jbp Jrg v0 v1 v2 v3 v4 v5 v6 v7 v8 x9 x10 x11 v12 v13 v14 v15 v16 :=
 have k := but_setS (w.heap.size + 1 + 1) u x9 x10 x11
 ⟨h.a.but k (by omega), h.r.but k (by omega), h.z.setS x9 x10 x11, But.below h.b k (by omega) h.b.size⟩
theorem TGm.setM (h : TGm w u Jp Js Jc Jl Jst Jsk Jre Jfe Jag Ja1 Ja2 Jan1 Jac1 Jan2 Jac2 Jap Jm Jmn Jmc Jb1 Jb2 Jbn1 Jbc1 Jbn2 Jbc2 Jbp Jrg v0 v1 v2 v3 v4 v5 v6 v7 v8 v9 v10 v11 v12 v13 v14 v15 v16) (x12 : Value) : TGm w (u.setCell ⟨w.heap.size + 1 + 1, 12, none⟩ x12) Jp Js Jc Jl Jst Jsk Jre Jfe Jag Ja1 Ja2 Jan1 Jac1 Jan2 Jac2 Jap Jm Jmn Jmc Jb1 Jb2 Jbn1 Jbc1 Jbn2 Jbc2 Jbp Jrg v0 v1 v2 v3 v4 v5 v6 v7 v8 v9 v10 v11 x12 v13 v14 v15 v16 :=
 have k := but_setM (w.heap.size + 1 + 1) u x12
 ⟨h.a.but k (by omega), h.r.but k (by omega), h.z.setM x12, But.below h.b k (by omega) h.b.size⟩
theorem TGm.setN (h : TGm w u Jp Js Jc Jl Jst Jsk Jre Jfe Jag Ja1 Ja2 Jan1 Jac1 Jan2 Jac2 Jap Jm Jmn Jmc Jb1 Jb2 Jbn1 Jbc1 Jbn2 Jbc2 Jbp Jrg v0 v1 v2 v3 v4 v5 v6 v7 v8 v9 v10 v11 v12 v13 v14 v15 v16) (x13 x14 x15 : Value) : TGm w (((u.setCell ⟨w.heap.size + 1 + 1, 13, none⟩ x13).setCell ⟨w.heap.size + 1 + 1, 14, none⟩ x14).setCell ⟨w.heap.size + 1 + 1, 15, none⟩ x15) Jp Js Jc Jl Jst Jsk Jre Jfe Jag Ja1 Ja2 Jan1 Jac1 Jan2 Jac2 Jap Jm Jmn Jmc Jb1 Jb2 Jbn1 Jbc1 Jbn2 Jbc2 Jbp Jrg v0 v1 v2 v3 v4 v5 v6 v7 v8 v9 v10 v11 v12 x13 x14 x15 v16 :=
 have k := but_setN (w.heap.size + 1 + 1) u x13 x14 x15
 ⟨h.a.but k (by omega), h.r.but k (by omega), h.z.setN x13 x14 x15, But.below h.b k (by omega) h.b.size⟩
theorem TGm.setG (h : TGm w u Jp Js Jc Jl Jst Jsk Jre Jfe Jag Ja1 Ja2 Jan1 Jac1 Jan2 Jac2 Jap Jm Jmn Jmc Jb1 Jb2 Jbn1 Jbc1 Jbn2 Jbc2 Jbp Jrg v0 v1 v2 v3 v4 v5 v6 v7 v8 v9 v10 v11 v12 v13 v14 v15 v16) (x16 : Value) : TGm w (u.setCell ⟨w.heap.size + 1 + 1, 16, none⟩ x16) Jp Js Jc Jl Jst Jsk Jre Jfe Jag Ja1 Ja2 Jan1 Jac1 Jan2 Jac2 Jap Jm Jmn Jmc Jb1 Jb2 Jbn1 Jbc1 Jbn2 Jbc2 Jbp Jrg v0 v1 v2 v3 v4 v5 v6 v7 v8 v9 v10 v11 v12 v13 v14 v15 x16 :=
 have k := but_setG (w.heap.size + 1 + 1) u x16
 ⟨h.a.but k (by omega), h.r.but k (by omega), h.z.setG x16, But.below h.b k (by omega) h.b.size⟩
theorem TGm.rg (h : G17 u b v0 v1 v2 v3 v4 v5 v6 v7 v8 v9 v10 v11 v12 v13 v14 v15 v16) : u.rangeAt b 0 [v0, v1, v2, v3, v4, v5, v6, v7, v8, v9, v10, v11, v12, v13, v14, v15, v16] := by
 intro j x hj
 match j, hj with
 | 0, hj => cases hj; exact h.c0
 | 1, hj => cases hj; exact h.c1
 | 2, hj => cases hj; exact h.c2
 | 3, hj => cases hj; exact h.c3
 | 4, hj => cases hj; exact h.c4
 | 5, hj => cases hj; exact h.c5
 | 6, hj => cases hj; exact h.c6
 | 7, hj => cases hj; exact h.c7
 | 8, hj => cases hj; exact h.c8
 | 9, hj => cases hj; exact h.c9
 | 10, hj => cases hj; exact h.c10
 | 11, hj => cases hj; exact h.c11
 | 12, hj => cases hj; exact h.c12
 | 13, hj => cases hj; exact h.c13
 | 14, hj => cases hj; exact h.c14
 | 15, hj => cases hj; exact h.c15
 | 16, hj => cases hj; exact h.c16
 | n + 17, hj => simp at hj
end
theorem tgm_new (Jp Js Jc Jl : Int) (Jst Jsk Jre Jfe Jag : Bool) (Ja1 Ja2 : Option Addr) (Jan1 Jac1 Jan2 Jac2 : Nat) (Jap : Int) (Jm : Option Addr) (Jmn Jmc : Nat) (Jb1 Jb2 : Option Addr) (Jbn1 Jbc1 Jbn2 Jbc2 : Nat) (Jbp Jrg : Int) (w : World) (T U : TypeId) : TGm w (((w.alloc (.cells #[.int .i64 Jp, .int .i64 Js, .bool Jst, .bool Jsk, .bool Jre, .bool Jfe, .bool Jag, .int .i64 Jc, .int .i64 Jl, .slice Ja1 Jan1 Jac1, .slice Ja2 Jan2 Jac2, .int .i64 Jap, .slice Jm Jmn Jmc, .slice Jb1 Jbn1 Jbc1, .slice Jb2 Jbn2 Jbc2, .int .i64 Jbp, .int .i64 Jrg] T)).alloc (.cells #[.int .i64 0, .int .i64 0, .bool false, .bool false, .bool false, .bool false, .bool false, .int .i64 0, .int .i64 0, .slice none 0 0, .slice none 0 0, .int .i64 0, .slice none 0 0, .slice none 0 0, .slice none 0 0, .int .i64 0, .int .i64 0] U)).alloc (.cells #[.int .i64 0, .int .i64 0, .bool false, .bool false, .bool false, .bool false, .bool false, .int .i64 0, .int .i64 0, .slice none 0 0, .slice none 0 0, .int .i64 0, .slice none 0 0, .slice none 0 0, .slice none 0 0, .int .i64 0, .int .i64 0] U)) Jp Js Jc Jl Jst Jsk Jre Jfe Jag Ja1 Ja2 Jan1 Jac1 Jan2 Jac2 Jap Jm Jmn Jmc Jb1 Jb2 Jbn1 Jbc1 Jbn2 Jbc2 Jbp Jrg (.int .i64 0) (.int .i64 0) (.bool false) (.bool false) (.bool false) (.bool false) (.bool false) (.int .i64 0) (.int .i64 0) (.slice none 0 0) (.slice none 0 0) (.int .i64 0) (.slice none 0 0) (.slice none 0 0) (.slice none 0 0) (.int .i64 0) (.int .i64 0) := by
 have k1 := al2 (w.alloc (.cells #[.int .i64 Jp, .int .i64 Js, .bool Jst, .bool Jsk, .bool Jre, .bool Jfe, .bool Jag, .int .i64 Jc, .int .i64 Jl, .slice Ja1 Jan1 Jac1, .slice Ja2 Jan2 Jac2, .int .i64 Jap, .slice Jm Jmn Jmc, .slice Jb1 Jbn1 Jbc1, .slice Jb2 Jbn2 Jbc2, .int .i64 Jbp, .int .i64 Jrg] T)) (.cells #[.int .i64 0, .int .i64 0, .bool false, .bool false, .bool false, .bool false, .bool false, .int .i64 0, .int .i64 0, .slice none 0 0, .slice none 0 0, .int .i64 0, .slice none 0 0, .slice none 0 0, .slice none 0 0, .int .i64 0, .int .i64 0] U) (.cells #[.int .i64 0, .int .i64 0, .bool false, .bool false, .bool false, .bool false, .bool false, .int .i64 0, .int .i64 0, .slice none 0 0, .slice none 0 0, .int .i64 0, .slice none 0 0, .slice none 0 0, .slice none 0 0, .int .i64 0, .int .i64 0] U)
 have k2 := al1 ((w.alloc (.cells #[.int .i64 Jp, .int .i64 Js, .bool Jst, .bool Jsk, .bool Jre, .bool Jfe, .bool Jag, .int .i64 Jc, .int .i64 Jl, .slice Ja1 Jan1 Jac1, .slice Ja2 Jan2 Jac2, .int .i64 Jap, .slice Jm Jmn Jmc, .slice Jb1 Jbn1 Jbc1, .slice Jb2 Jbn2 Jbc2, .int .i64 Jbp, .int .i64 Jrg] T)).alloc (.cells #[.int .i64 0, .int .i64 0, .bool false, .bool false, .bool false, .bool false, .bool false, .int .i64 0, .int .i64 0, .slice none 0 0, .slice none 0 0, .int .i64 0, .slice none 0 0, .slice none 0 0, .slice none 0 0, .int .i64 0, .int .i64 0] U)) (.cells #[.int .i64 0, .int .i64 0, .bool false, .bool false, .bool false, .bool false, .bool false, .int .i64 0, .int .i64 0, .slice none 0 0, .slice none 0 0, .int .i64 0, .slice none 0 0, .slice none 0 0, .slice none 0 0, .int .i64 0, .int .i64 0] U)
 have r := (g17_new (w.alloc (.cells #[.int .i64 Jp, .int .i64 Js, .bool Jst, .bool Jsk, .bool Jre, .bool Jfe, .bool Jag, .int .i64 Jc, .int .i64 Jl, .slice Ja1 Jan1 Jac1, .slice Ja2 Jan2 Jac2, .int .i64 Jap, .slice Jm Jmn Jmc, .slice Jb1 Jbn1 Jbc1, .slice Jb2 Jbn2 Jbc2, .int .i64 Jbp, .int .i64 Jrg] T)) U).below k2
 have z := g17_new ((w.alloc (.cells #[.int .i64 Jp, .int .i64 Js, .bool Jst, .bool Jsk, .bool Jre, .bool Jfe, .bool Jag, .int .i64 Jc, .int .i64 Jl, .slice Ja1 Jan1 Jac1, .slice Ja2 Jan2 Jac2, .int .i64 Jap, .slice Jm Jmn Jmc, .slice Jb1 Jbn1 Jbc1, .slice Jb2 Jbn2 Jbc2, .int .i64 Jbp, .int .i64 Jrg] T)).alloc (.cells #[.int .i64 0, .int .i64 0, .bool false, .bool false, .bool false, .bool false, .bool false, .int .i64 0, .int .i64 0, .slice none 0 0, .slice none 0 0, .int .i64 0, .slice none 0 0, .slice none 0 0, .slice none 0 0, .int .i64 0, .int .i64 0] U)) U
 rw [show (w.alloc (.cells #[.int .i64 Jp, .int .i64 Js, .bool Jst, .bool Jsk, .bool Jre, .bool Jfe, .bool Jag, .int .i64 Jc, .int .i64 Jl, .slice Ja1 Jan1 Jac1, .slice Ja2 Jan2 Jac2, .int .i64 Jap, .slice Jm Jmn Jmc, .slice Jb1 Jbn1 Jbc1, .slice Jb2 Jbn2 Jbc2, .int .i64 Jbp, .int .i64 Jrg] T)).heap.size = w.heap.size + 1 by simp] at r
 rw [show ((w.alloc (.cells #[.int .i64 Jp, .int .i64 Js, .bool Jst, .bool Jsk, .bool Jre, .bool Jfe, .bool Jag, .int .i64 Jc, .int .i64 Jl, .slice Ja1 Jan1 Jac1, .slice Ja2 Jan2 Jac2, .int .i64 Jap, .slice Jm Jmn Jmc, .slice Jb1 Jbn1 Jbc1, .slice Jb2 Jbn2 Jbc2, .int .i64 Jbp, .int .i64 Jrg] T)).alloc (.cells #[.int .i64 0, .int .i64 0, .bool false, .bool false, .bool false, .bool false, .bool false, .int .i64 0, .int .i64 0, .slice none 0 0, .slice none 0 0, .int .i64 0, .slice none 0 0, .slice none 0 0, .slice none 0 0, .int .i64 0, .int .i64 0] U)).heap.size = w.heap.size + 1 + 1 by simp] at z
 exact ⟨(gm_new Jp Js Jc Jl Jst Jsk Jre Jfe Jag Ja1 Ja2 Jan1 Jac1 Jan2 Jac2 Jap Jm Jmn Jmc Jb1 Jb2 Jbn1 Jbc1 Jbn2 Jbc2 Jbp Jrg w T).below k1, r, z, (al1 w _).trans (k1.mono (by simp))⟩
theorem below_scg {B : Nat} {a : World} (b : Nat) (hb : B ≤ b) : ∀ (vs : List Value) (o : Nat) {w : World}, Below B a w → Below B a (w.setCells b o vs)
 | [], _, _, h => h
 | v :: r, o, _, h => below_scg b hb r (o + 1) (h.setCell (p := ⟨b, o, none⟩) hb v)
theorem but_scg {a : World} (b : Nat) : ∀ (vs : List Value) (o : Nat) {w : World}, But b a w → But b a (w.setCells b o vs)
 | [], _, _, h => h
 | v :: r, o, _, h => but_scg b r (o + 1) (h.setCell (p := ⟨b, o, none⟩) rfl v)
theorem size_scg (b : Nat) : ∀ (vs : List Value) (o : Nat) (u : World), (u.setCells b o vs).heap.size = u.heap.size
 | [], _, _ => rfl
 | v :: r, o, u => by rw [World.setCells, size_scg b r]; simp
theorem gm_one (p s c l ap bp rg : Int) (st sk re fe ag : Bool) (m1 m2 m3 m4 m5 : Option Addr) (n1 c1 n2 c2 n3 c3 n4 c4 n5 c5 : Nat) : (List.toArray ([.int .i64 p, .int .i64 s, .bool st, .bool sk, .bool re, .bool fe, .bool ag, .int .i64 c, .int .i64 l, .slice m1 n1 c1, .slice m2 n2 c2, .int .i64 ap, .slice m3 n3 c3, .slice m4 n4 c4, .slice m5 n5 c5, .int .i64 bp, .int .i64 rg] : List Value)).all (·.oneCell') = true := all_oneCell_toArray (by simp [Value.oneCell'])
theorem toG_any (Jp Js Jc Jl : Int) (Jst Jsk Jre Jfe Jag : Bool) (Ja1 Ja2 : Option Addr) (Jan1 Jac1 Jan2 Jac2 : Nat) (Jap : Int) (Jm : Option Addr) (Jmn Jmc : Nat) (Jb1 Jb2 : Option Addr) (Jbn1 Jbc1 Jbn2 Jbc2 : Nat) (Jbp Jrg : Int) (sx sy ms nx ny : List Int) (w : World) (h : GamR w Ja1 Ja2 Jan1 Jan2 Jm Jmn Jb1 Jb2 Jbn1 Jbn2 sx sy ms nx ny) :
  Calls Try.prog 10 #[.agg #[.int .i64 Jp, .int .i64 Js, .bool Jst, .bool Jsk, .bool Jre, .bool Jfe, .bool Jag, .int .i64 Jc, .int .i64 Jl, .slice Ja1 Jan1 Jac1, .slice Ja2 Jan2 Jac2, .int .i64 Jap, .slice Jm Jmn Jmc, .slice Jb1 Jbn1 Jbc1, .slice Jb2 Jbn2 Jbc2, .int .i64 Jbp, .int .i64 Jrg]] w (GamP Jp Js Jc Jl Jst Jsk Jre Jfe Jag Jan1 Jan2 Jap Jmn Jbn1 Jbn2 Jbp Jrg sx sy ms nx ny w) := by
 have H := Lib.hid h
 clear h
 have HS := Lib.hid (tgm_new Jp Js Jc Jl Jst Jsk Jre Jfe Jag Ja1 Ja2 Jan1 Jac1 Jan2 Jac2 Jap Jm Jmn Jmc Jb1 Jb2 Jbn1 Jbc1 Jbn2 Jbc2 Jbp Jrg w 28 34)
 go_enter Try.func10, Try.ntmps10
 go_wp2_with fail
 refine (toRules_any Jp Js Jc Jl Jst Jsk Jre Jfe Jag _).mono ?_
 rintro e u1 ⟨rfl, b1⟩
 have HS := Lib.hid (HS.out.below b1)
 clear b1
 have lz1 := HS.out.z.lt
 obtain ⟨⟨_, d0, d1, d2, d3, d4, d5, d6, d7, d8, d9, d10, d11, d12, d13, d14, d15, d16⟩, -, ⟨_, z0, z1, z2, z3, z4, z5, z6, z7, z8, z9, z10, z11, z12, z13, z14, z15, z16, zf⟩, -⟩ := HS.out
 go_wp2_with fail
 refine (toPos_any Ja1 Ja2 Jan1 Jac1 Jan2 Jac2 Jap sx sy _ (H.out.s.below ((HS.out.setR (.int .i64 Jp) (.int .i64 Js) (.bool Jst) (.bool Jsk) (.bool Jre) (.bool Jfe) (.bool Jag) (.int .i64 Jc) (.int .i64 Jl)).b))).mono ?_
 rintro e u2 ⟨g1, g2, rfl, o2, l1, l2, b2⟩
 have e1 : w.heap.size + 1 + 1 < g1 := by have := o2.o1.new; simp at this; omega
 have e2 : w.heap.size + 1 + 1 < g2 := by have := o2.o2.new; simp at this; omega
 have O2 := Lib.hid (o2.lower (C := w.heap.size) (by simp; omega))
 have HS := Lib.hid ((HS.out.setR (.int .i64 Jp) (.int .i64 Js) (.bool Jst) (.bool Jsk) (.bool Jre) (.bool Jfe) (.bool Jag) (.int .i64 Jc) (.int .i64 Jl)).below b2)
 clear b2 o2 d0 z0 d1 z1 d2 z2 d3 z3 d4 z4 d5 z5 d6 z6 d7 z7 d8 z8 d9 z9 d10 z10 d11 z11 d12 z12 d13 z13 d14 z14 d15 z15 d16 z16 zf
 have lz2 := HS.out.z.lt
 obtain ⟨⟨_, d0, d1, d2, d3, d4, d5, d6, d7, d8, d9, d10, d11, d12, d13, d14, d15, d16⟩, -, ⟨_, z0, z1, z2, z3, z4, z5, z6, z7, z8, z9, z10, z11, z12, z13, z14, z15, z16, zf⟩, -⟩ := HS.out
 go_wp2_with fail
 refine (toRow_any Jm Jmc Jmn ms _ H.out.lm (H.out.m.below ((HS.out.setS (.slice (some ⟨g1, 0, none⟩) Jan1 Jan1) (.slice (some ⟨g2, 0, none⟩) Jan2 Jan2) (.int .i64 Jap)).b))).mono ?_
 rintro e u3 ⟨g3, rfl, o3, l3, b3⟩
 have e3 : w.heap.size + 1 + 1 < g3 := by have := o3.new; simp at this; omega
 have O3 := Lib.hid (o3.lower (C := w.heap.size) (by simp; omega))
 have O2 := Lib.hid ((O2.out.but (but_setS (w.heap.size + 1 + 1) u2 (.slice (some ⟨g1, 0, none⟩) Jan1 Jan1) (.slice (some ⟨g2, 0, none⟩) Jan2 Jan2) (.int .i64 Jap)) (by omega) (by omega)).below b3)
 have HS := Lib.hid ((HS.out.setS (.slice (some ⟨g1, 0, none⟩) Jan1 Jan1) (.slice (some ⟨g2, 0, none⟩) Jan2 Jan2) (.int .i64 Jap)).below b3)
 have s3 := b3.size
 simp at s3
 clear b3 o3 d0 z0 d1 z1 d2 z2 d3 z3 d4 z4 d5 z5 d6 z6 d7 z7 d8 z8 d9 z9 d10 z10 d11 z11 d12 z12 d13 z13 d14 z14 d15 z15 d16 z16 zf
 have lz3 := HS.out.z.lt
 obtain ⟨⟨_, d0, d1, d2, d3, d4, d5, d6, d7, d8, d9, d10, d11, d12, d13, d14, d15, d16⟩, -, ⟨_, z0, z1, z2, z3, z4, z5, z6, z7, z8, z9, z10, z11, z12, z13, z14, z15, z16, zf⟩, -⟩ := HS.out
 go_wp2_with fail
 refine (toPos_any Jb1 Jb2 Jbn1 Jbc1 Jbn2 Jbc2 Jbp nx ny _ (H.out.n.below ((HS.out.setM (.slice (some ⟨g3, 0, none⟩) Jmn Jmn)).b))).mono ?_
 rintro e u4 ⟨g4, g5, rfl, o4, l4, l5, b4⟩
 have e4 : w.heap.size + 1 + 1 < g4 := by have := o4.o1.new; simp at this; omega
 have e5 : w.heap.size + 1 + 1 < g5 := by have := o4.o2.new; simp at this; omega
 have O4 := Lib.hid (o4.lower (C := w.heap.size) (by simp; omega))
 have O3 := Lib.hid ((O3.out.but (but_setM (w.heap.size + 1 + 1) u3 (.slice (some ⟨g3, 0, none⟩) Jmn Jmn)) (by omega)).below b4)
 have O2 := Lib.hid ((O2.out.but (but_setM (w.heap.size + 1 + 1) u3 (.slice (some ⟨g3, 0, none⟩) Jmn Jmn)) (by omega) (by omega)).below b4)
 have HS := Lib.hid ((HS.out.setM (.slice (some ⟨g3, 0, none⟩) Jmn Jmn)).below b4)
 have s4 := b4.size
 simp at s4
 clear b4 o4 d0 z0 d1 z1 d2 z2 d3 z3 d4 z4 d5 z5 d6 z6 d7 z7 d8 z8 d9 z9 d10 z10 d11 z11 d12 z12 d13 z13 d14 z14 d15 z15 d16 z16 zf
 have d16 := HS.out.a.2.2.2.2.2.2.2.2.2.2.2.2.2.2.2.2.2
 have z13 := HS.out.z.c13
 have z14 := HS.out.z.c14
 have z15 := HS.out.z.c15
 have z16 := HS.out.z.c16
 have zf := HS.out.z.fr
 have HE := Lib.hid ((HS.out.setN (.slice (some ⟨g4, 0, none⟩) Jbn1 Jbn1) (.slice (some ⟨g5, 0, none⟩) Jbn2 Jbn2) (.int .i64 Jbp)).setG (.int .i64 Jrg))
 go_upto_region 7 with fail
 go_step
 have hrg := TGm.rg HE.out.z
 have hth := HE.out.r.there
 refine wpList_load_mid rfl 34 (.tmp 3) rfl (w.heap.size + 1 + 1) 0 rfl _ _ hrg Try.underlying34 rfl (by kernel_rfl) ?_
 refine wpList_store_mid rfl 34 (.tmp 2) (.tmp 23) rfl (w.heap.size + 1) 0 (List.toArray [.int .i64 Jp, .int .i64 Js, .bool Jst, .bool Jsk, .bool Jre, .bool Jfe, .bool Jag, .int .i64 Jc, .int .i64 Jl, .slice (some ⟨g1, 0, none⟩) Jan1 Jan1, .slice (some ⟨g2, 0, none⟩) Jan2 Jan2, .int .i64 Jap, .slice (some ⟨g3, 0, none⟩) Jmn Jmn, .slice (some ⟨g4, 0, none⟩) Jbn1 Jbn1, .slice (some ⟨g5, 0, none⟩) Jbn2 Jbn2, .int .i64 Jbp, .int .i64 Jrg]) rfl rfl hth (by kernel_rfl) (gm_one _ _ _ _ _ _ _ _ _ _ _ _ _ _ _ _ _ _ _ _ _ _ _ _ _ _ _) ?_
 clear hrg hth
 simp only [Act.put, List.setIfInBounds_toArray, List.set_cons_zero, List.set_cons_succ]
 go_wp2_with fail
 have hrun := run_loadVar_mid (P := Try.prog) _ (w.heap.size + 1) 0 34 [.int .i64 Jp, .int .i64 Js, .bool Jst, .bool Jsk, .bool Jre, .bool Jfe, .bool Jag, .int .i64 Jc, .int .i64 Jl, .slice (some ⟨g1, 0, none⟩) Jan1 Jan1, .slice (some ⟨g2, 0, none⟩) Jan2 Jan2, .int .i64 Jap, .slice (some ⟨g3, 0, none⟩) Jmn Jmn, .slice (some ⟨g4, 0, none⟩) Jbn1 Jbn1, .slice (some ⟨g5, 0, none⟩) Jbn2 Jbn2, .int .i64 Jbp, .int .i64 Jrg] _ (World.rangeAt_setCells_same _ (w.heap.size + 1) 0 [.int .i64 Jp, .int .i64 Js, .bool Jst, .bool Jsk, .bool Jre, .bool Jfe, .bool Jag, .int .i64 Jc, .int .i64 Jl, .slice (some ⟨g1, 0, none⟩) Jan1 Jan1, .slice (some ⟨g2, 0, none⟩) Jan2 Jan2, .int .i64 Jap, .slice (some ⟨g3, 0, none⟩) Jmn Jmn, .slice (some ⟨g4, 0, none⟩) Jbn1 Jbn1, .slice (some ⟨g5, 0, none⟩) Jbn2 Jbn2, .int .i64 Jbp, .int .i64 Jrg] HE.out.r.there) Try.underlying34 rfl (by kernel_rfl)
 refine bodyPost_ret (v := .agg (List.toArray [.int .i64 Jp, .int .i64 Js, .bool Jst, .bool Jsk, .bool Jre, .bool Jfe, .bool Jag, .int .i64 Jc, .int .i64 Jl, .slice (some ⟨g1, 0, none⟩) Jan1 Jan1, .slice (some ⟨g2, 0, none⟩) Jan2 Jan2, .int .i64 Jap, .slice (some ⟨g3, 0, none⟩) Jmn Jmn, .slice (some ⟨g4, 0, none⟩) Jbn1 Jbn1, .slice (some ⟨g5, 0, none⟩) Jbn2 Jbn2, .int .i64 Jbp, .int .i64 Jrg])) ?_ rfl ⟨g1, g2, g3, g4, g5, rfl, ⟨?_, ?_, H.out.lm, ?_⟩, ?_, ?_⟩
 ·simp [results, Try.results10, asAddr, hrun]
 ·exact (((O2.out.but (but_setN (w.heap.size + 1 + 1) u4 (.slice (some ⟨g4, 0, none⟩) Jbn1 Jbn1) (.slice (some ⟨g5, 0, none⟩) Jbn2 Jbn2) (.int .i64 Jbp)) (by omega) (by omega)).but (but_setG (w.heap.size + 1 + 1) _ (.int .i64 Jrg)) (by omega) (by omega)).but (but_scg (w.heap.size + 1) [.int .i64 Jp, .int .i64 Js, .bool Jst, .bool Jsk, .bool Jre, .bool Jfe, .bool Jag, .int .i64 Jc, .int .i64 Jl, .slice (some ⟨g1, 0, none⟩) Jan1 Jan1, .slice (some ⟨g2, 0, none⟩) Jan2 Jan2, .int .i64 Jap, .slice (some ⟨g3, 0, none⟩) Jmn Jmn, .slice (some ⟨g4, 0, none⟩) Jbn1 Jbn1, .slice (some ⟨g5, 0, none⟩) Jbn2 Jbn2, .int .i64 Jbp, .int .i64 Jrg] 0 (But.refl _ _)) (by omega) (by omega))
 ·exact (((O3.out.but (but_setN (w.heap.size + 1 + 1) u4 (.slice (some ⟨g4, 0, none⟩) Jbn1 Jbn1) (.slice (some ⟨g5, 0, none⟩) Jbn2 Jbn2) (.int .i64 Jbp)) (by omega)).but (but_setG (w.heap.size + 1 + 1) _ (.int .i64 Jrg)) (by omega)).but (but_scg (w.heap.size + 1) [.int .i64 Jp, .int .i64 Js, .bool Jst, .bool Jsk, .bool Jre, .bool Jfe, .bool Jag, .int .i64 Jc, .int .i64 Jl, .slice (some ⟨g1, 0, none⟩) Jan1 Jan1, .slice (some ⟨g2, 0, none⟩) Jan2 Jan2, .int .i64 Jap, .slice (some ⟨g3, 0, none⟩) Jmn Jmn, .slice (some ⟨g4, 0, none⟩) Jbn1 Jbn1, .slice (some ⟨g5, 0, none⟩) Jbn2 Jbn2, .int .i64 Jbp, .int .i64 Jrg] 0 (But.refl _ _)) (by omega))
 ·exact (((O4.out.but (but_setN (w.heap.size + 1 + 1) u4 (.slice (some ⟨g4, 0, none⟩) Jbn1 Jbn1) (.slice (some ⟨g5, 0, none⟩) Jbn2 Jbn2) (.int .i64 Jbp)) (by omega) (by omega)).but (but_setG (w.heap.size + 1 + 1) _ (.int .i64 Jrg)) (by omega) (by omega)).but (but_scg (w.heap.size + 1) [.int .i64 Jp, .int .i64 Js, .bool Jst, .bool Jsk, .bool Jre, .bool Jfe, .bool Jag, .int .i64 Jc, .int .i64 Jl, .slice (some ⟨g1, 0, none⟩) Jan1 Jan1, .slice (some ⟨g2, 0, none⟩) Jan2 Jan2, .int .i64 Jap, .slice (some ⟨g3, 0, none⟩) Jmn Jmn, .slice (some ⟨g4, 0, none⟩) Jbn1 Jbn1, .slice (some ⟨g5, 0, none⟩) Jbn2 Jbn2, .int .i64 Jbp, .int .i64 Jrg] 0 (But.refl _ _)) (by omega) (by omega))
 ·rw [size_scg]
  simp
  omega
 ·exact below_scg (w.heap.size + 1) (by omega) [.int .i64 Jp, .int .i64 Js, .bool Jst, .bool Jsk, .bool Jre, .bool Jfe, .bool Jag, .int .i64 Jc, .int .i64 Jl, .slice (some ⟨g1, 0, none⟩) Jan1 Jan1, .slice (some ⟨g2, 0, none⟩) Jan2 Jan2, .int .i64 Jap, .slice (some ⟨g3, 0, none⟩) Jmn Jmn, .slice (some ⟨g4, 0, none⟩) Jbn1 Jbn1, .slice (some ⟨g5, 0, none⟩) Jbn2 Jbn2, .int .i64 Jbp, .int .i64 Jrg] 0 HE.out.b
/- Game3 -/
def TG2 (w : World) (Jp Js Jc Jl : Int) (Jst Jsk Jre Jfe Jag : Bool) (Ja1 Ja2 : Option Addr) (Jan1 Jac1 Jan2 Jac2 : Nat) (Jap : Int) (Jm : Option Addr) (Jmn Jmc : Nat) (Jb1 Jb2 : Option Addr) (Jbn1 Jbc1 Jbn2 Jbc2 : Nat) (Jbp Jrg : Int) (hhp hhs hhc hhl : Int) (hhst hhsk hhre hhfe hhag : Bool) (hha1 hha2 : Option Addr) (hhan1 hhac1 hhan2 hhac2 : Nat) (hhap : Int) (hhm : Option Addr) (hhmn hhmc : Nat) (hhb1 hhb2 : Option Addr) (hhbn1 hhbc1 hhbn2 hhbc2 : Nat) (hhbp hhrg : Int) (u : World) : Prop := GmAt u w.heap.size Jp Js Jc Jl Jst Jsk Jre Jfe Jag Ja1 Ja2 Jan1 Jac1 Jan2 Jac2 Jap Jm Jmn Jmc Jb1 Jb2 Jbn1 Jbc1 Jbn2 Jbc2 Jbp Jrg ∧ GmAt u (w.heap.size + 1) hhp hhs hhc hhl hhst hhsk hhre hhfe hhag hha1 hha2 hhan1 hhac1 hhan2 hhac2 hhap hhm hhmn hhmc hhb1 hhb2 hhbn1 hhbc1 hhbn2 hhbc2 hhbp hhrg ∧ Below w.heap.size w u
theorem tg2_new (Jp Js Jc Jl : Int) (Jst Jsk Jre Jfe Jag : Bool) (Ja1 Ja2 : Option Addr) (Jan1 Jac1 Jan2 Jac2 : Nat) (Jap : Int) (Jm : Option Addr) (Jmn Jmc : Nat) (Jb1 Jb2 : Option Addr) (Jbn1 Jbc1 Jbn2 Jbc2 : Nat) (Jbp Jrg : Int) (hhp hhs hhc hhl : Int) (hhst hhsk hhre hhfe hhag : Bool) (hha1 hha2 : Option Addr) (hhan1 hhac1 hhan2 hhac2 : Nat) (hhap : Int) (hhm : Option Addr) (hhmn hhmc : Nat) (hhb1 hhb2 : Option Addr) (hhbn1 hhbc1 hhbn2 hhbc2 : Nat) (hhbp hhrg : Int) (w : World) (T : TypeId) : TG2 w Jp Js Jc Jl Jst Jsk Jre Jfe Jag Ja1 Ja2 Jan1 Jac1 Jan2 Jac2 Jap Jm Jmn Jmc Jb1 Jb2 Jbn1 Jbc1 Jbn2 Jbc2 Jbp Jrg hhp hhs hhc hhl hhst hhsk hhre hhfe hhag hha1 hha2 hhan1 hhac1 hhan2 hhac2 hhap hhm hhmn hhmc hhb1 hhb2 hhbn1 hhbc1 hhbn2 hhbc2 hhbp hhrg ((w.alloc (.cells #[.int .i64 Jp, .int .i64 Js, .bool Jst, .bool Jsk, .bool Jre, .bool Jfe, .bool Jag, .int .i64 Jc, .int .i64 Jl, .slice Ja1 Jan1 Jac1, .slice Ja2 Jan2 Jac2, .int .i64 Jap, .slice Jm Jmn Jmc, .slice Jb1 Jbn1 Jbc1, .slice Jb2 Jbn2 Jbc2, .int .i64 Jbp, .int .i64 Jrg] T)).alloc (.cells #[.int .i64 hhp, .int .i64 hhs, .bool hhst, .bool hhsk, .bool hhre, .bool hhfe, .bool hhag, .int .i64 hhc, .int .i64 hhl, .slice hha1 hhan1 hhac1, .slice hha2 hhan2 hhac2, .int .i64 hhap, .slice hhm hhmn hhmc, .slice hhb1 hhbn1 hhbc1, .slice hhb2 hhbn2 hhbc2, .int .i64 hhbp, .int .i64 hhrg] T)) := by
 have k := al1 (w.alloc (.cells #[.int .i64 Jp, .int .i64 Js, .bool Jst, .bool Jsk, .bool Jre, .bool Jfe, .bool Jag, .int .i64 Jc, .int .i64 Jl, .slice Ja1 Jan1 Jac1, .slice Ja2 Jan2 Jac2, .int .i64 Jap, .slice Jm Jmn Jmc, .slice Jb1 Jbn1 Jbc1, .slice Jb2 Jbn2 Jbc2, .int .i64 Jbp, .int .i64 Jrg] T)) (.cells #[.int .i64 hhp, .int .i64 hhs, .bool hhst, .bool hhsk, .bool hhre, .bool hhfe, .bool hhag, .int .i64 hhc, .int .i64 hhl, .slice hha1 hhan1 hhac1, .slice hha2 hhan2 hhac2, .int .i64 hhap, .slice hhm hhmn hhmc, .slice hhb1 hhbn1 hhbc1, .slice hhb2 hhbn2 hhbc2, .int .i64 hhbp, .int .i64 hhrg] T)
 have z := gm_new hhp hhs hhc hhl hhst hhsk hhre hhfe hhag hha1 hha2 hhan1 hhac1 hhan2 hhac2 hhap hhm hhmn hhmc hhb1 hhb2 hhbn1 hhbc1 hhbn2 hhbc2 hhbp hhrg (w.alloc (.cells #[.int .i64 Jp, .int .i64 Js, .bool Jst, .bool Jsk, .bool Jre, .bool Jfe, .bool Jag, .int .i64 Jc, .int .i64 Jl, .slice Ja1 Jan1 Jac1, .slice Ja2 Jan2 Jac2, .int .i64 Jap, .slice Jm Jmn Jmc, .slice Jb1 Jbn1 Jbc1, .slice Jb2 Jbn2 Jbc2, .int .i64 Jbp, .int .i64 Jrg] T)) T
 rw [show (w.alloc (.cells #[.int .i64 Jp, .int .i64 Js, .bool Jst, .bool Jsk, .bool Jre, .bool Jfe, .bool Jag, .int .i64 Jc, .int .i64 Jl, .slice Ja1 Jan1 Jac1, .slice Ja2 Jan2 Jac2, .int .i64 Jap, .slice Jm Jmn Jmc, .slice Jb1 Jbn1 Jbc1, .slice Jb2 Jbn2 Jbc2, .int .i64 Jbp, .int .i64 Jrg] T)).heap.size = w.heap.size + 1 by simp] at z
 exact ⟨(gm_new Jp Js Jc Jl Jst Jsk Jre Jfe Jag Ja1 Ja2 Jan1 Jac1 Jan2 Jac2 Jap Jm Jmn Jmc Jb1 Jb2 Jbn1 Jbc1 Jbn2 Jbc2 Jbp Jrg w T).below k, z, (al1 w _).trans (k.mono (by simp))⟩
theorem TG2.below {w u v : World} {Jp Js Jc Jl : Int} {Jst Jsk Jre Jfe Jag : Bool} {Ja1 Ja2 : Option Addr} {Jan1 Jac1 Jan2 Jac2 : Nat} {Jap : Int} {Jm : Option Addr} {Jmn Jmc : Nat} {Jb1 Jb2 : Option Addr} {Jbn1 Jbc1 Jbn2 Jbc2 : Nat} {Jbp Jrg : Int} {hhp hhs hhc hhl : Int} {hhst hhsk hhre hhfe hhag : Bool} {hha1 hha2 : Option Addr} {hhan1 hhac1 hhan2 hhac2 : Nat} {hhap : Int} {hhm : Option Addr} {hhmn hhmc : Nat} {hhb1 hhb2 : Option Addr} {hhbn1 hhbc1 hhbn2 hhbc2 : Nat} {hhbp hhrg : Int} (h : TG2 w Jp Js Jc Jl Jst Jsk Jre Jfe Jag Ja1 Ja2 Jan1 Jac1 Jan2 Jac2 Jap Jm Jmn Jmc Jb1 Jb2 Jbn1 Jbc1 Jbn2 Jbc2 Jbp Jrg hhp hhs hhc hhl hhst hhsk hhre hhfe hhag hha1 hha2 hhan1 hhac1 hhan2 hhac2 hhap hhm hhmn hhmc hhb1 hhb2 hhbn1 hhbc1 hhbn2 hhbc2 hhbp hhrg u) (k : Below u.heap.size u v) : TG2 w Jp Js Jc Jl Jst Jsk Jre Jfe Jag Ja1 Ja2 Jan1 Jac1 Jan2 Jac2 Jap Jm Jmn Jmc Jb1 Jb2 Jbn1 Jbc1 Jbn2 Jbc2 Jbp Jrg hhp hhs hhc hhl hhst hhsk hhre hhfe hhag hha1 hha2 hhan1 hhac1 hhan2 hhac2 hhap hhm hhmn hhmc hhb1 hhb2 hhbn1 hhbc1 hhbn2 hhbc2 hhbp hhrg v :=
 ⟨h.1.below k, h.2.1.below k, h.2.2.trans (k.mono h.2.2.size)⟩
def At3 (u : World) (b : Nat) (a1 a2 : Option Addr) (n1 c1 n2 c2 : Nat) (pl : Int) (o0 o1 o2 : Nat) : Prop :=
 b < u.heap.size ∧ u.cell? ⟨b, o0, none⟩ = some (.slice a1 n1 c1) ∧ u.cell? ⟨b, o1, none⟩ = some (.slice a2 n2 c2) ∧ u.cell? ⟨b, o2, none⟩ = some (.int .i64 pl)
theorem GmAt.s9 {u : World} {b : Nat} {Jp Js Jc Jl : Int} {Jst Jsk Jre Jfe Jag : Bool} {Ja1 Ja2 : Option Addr} {Jan1 Jac1 Jan2 Jac2 : Nat} {Jap : Int} {Jm : Option Addr} {Jmn Jmc : Nat} {Jb1 Jb2 : Option Addr} {Jbn1 Jbc1 Jbn2 Jbc2 : Nat} {Jbp Jrg : Int} (h : GmAt u b Jp Js Jc Jl Jst Jsk Jre Jfe Jag Ja1 Ja2 Jan1 Jac1 Jan2 Jac2 Jap Jm Jmn Jmc Jb1 Jb2 Jbn1 Jbc1 Jbn2 Jbc2 Jbp Jrg) : At3 u b Ja1 Ja2 Jan1 Jac1 Jan2 Jac2 Jap 9 10 11 := ⟨h.1, h.2.2.2.2.2.2.2.2.2.2.1, h.2.2.2.2.2.2.2.2.2.2.2.1, h.2.2.2.2.2.2.2.2.2.2.2.2.1⟩
theorem TG2.drewN {w u : World} {Jp Js Jc Jl : Int} {Jst Jsk Jre Jfe Jag : Bool} {Ja1 Ja2 : Option Addr} {Jan1 Jac1 Jan2 Jac2 : Nat} {Jap : Int} {Jm : Option Addr} {Jmn Jmc : Nat} {Jb1 Jb2 : Option Addr} {Jbn1 Jbc1 Jbn2 Jbc2 : Nat} {Jbp Jrg : Int} {hhp hhs hhc hhl : Int} {hhst hhsk hhre hhfe hhag : Bool} {hha1 hha2 : Option Addr} {hhan1 hhac1 hhan2 hhac2 : Nat} {hhap : Int} {hhm : Option Addr} {hhmn hhmc : Nat} {hhb1 hhb2 : Option Addr} {hhbn1 hhbc1 hhbn2 hhbc2 : Nat} {hhbp hhrg : Int} (h : TG2 w Jp Js Jc Jl Jst Jsk Jre Jfe Jag Ja1 Ja2 Jan1 Jac1 Jan2 Jac2 Jap Jm Jmn Jmc Jb1 Jb2 Jbn1 Jbc1 Jbn2 Jbc2 Jbp Jrg hhp hhs hhc hhl hhst hhsk hhre hhfe hhag hha1 hha2 hhan1 hhac1 hhan2 hhac2 hhap hhm hhmn hhmc hhb1 hhb2 hhbn1 hhbc1 hhbn2 hhbc2 hhbp hhrg u) (m : Nat) : TG2 w Jp Js Jc Jl Jst Jsk Jre Jfe Jag Ja1 Ja2 Jan1 Jac1 Jan2 Jac2 Jap Jm Jmn Jmc Jb1 Jb2 Jbn1 Jbc1 Jbn2 Jbc2 Jbp Jrg hhp hhs hhc hhl hhst hhsk hhre hhfe hhag hha1 hha2 hhan1 hhac1 hhan2 hhac2 hhap hhm hhmn hhmc hhb1 hhb2 hhbn1 hhbc1 hhbn2 hhbc2 hhbp hhrg (u.drewN m) := h.below (below_dn (Below.refl _ _) m)
end Go.Proofs.Ytmngmbpdiaocjaa
