/- The iterator over the seeds of a move, lap after lap. No conditions. -/
import Derived.Test.YtdhkfkfoibddnaaStp5
import Derived.Sort.QuietIn
namespace Go.Proofs.Ytdhkfkfoibddnaa
open Go.RowKit Go.Shelf
attribute [local go_sem] Oper.semAt_some
set_option linter.unusedVariables false

/-- What the iterator leaves. -/
def StepE (K : Cfg) (t : Int) (JJ : Stg → Nat → World → Prop) (Jx : World → Prop) (Z : World) : Prop :=
  (∃ s : Stg, s.Ok K.R t ∧ s.j < 100 ∧ agn K.R s.xs s.f = false ∧ JJ s s.n Z ∧ StW Z K s s.n (lst K.R s.xs s.f)) ∨ Jx Z
set_option maxHeartbeats 8000000 in
set_option maxRecDepth 100000 in
theorem steps_gives0 (n : Nat) (K : Cfg) (hpl : K.pl = 0) (hp : 2 ≤ K.p) (hp8 : K.p ≤ 8) (hn1 : (K.n1 : Int) = 2 * K.p) (t : Int) (l : Nat) (JJ : Stg → Nat → World → Prop) (Jx : World → Prop) (W : World) (s0 : Stg) (ha la : Int)
    (hS : SwS W K ha la 0 s0.xs s0.ys) (hfi : K.fi = s0.f) (hs0 : s0.Ok K.R t) (hj0 : s0.j = 0)
    (hJ : ∀ s i A Z, JJ s i A → Out W.heap.size K A Z → JJ s i Z)
    (hJx : ∀ A Z, Jx A → Below W.heap.size A Z → Jx Z)
    (hY : ∀ s i A, s.Ok K.R t → i < s.n → JJ s i A → StW A K s (i + 1) (K.R.at s.f i) → YieldAt Fence.wide (n - 1 - 1 - 1) Try.prog l #[.int .i64 (K.R.at s.f i)] A fun e Z =>
      (e = .returned (.bool true) ∧ s.j < 100 ∧ JJ s (i + 1) Z ∧ StW Z K s (i + 1) (K.R.at s.f i) ∧ Above W.heap.size A Z) ∨ (e = .returned (.bool false) ∧ Jx Z ∧ Above W.heap.size A Z))
    (hN : ∀ s A, s.Ok K.R t → s.j < 100 → agn K.R s.xs s.f = true → JJ s s.n A → JJ (s.next K.R) 0 A)
    (h0 : JJ s0 0 W) :
    CallsIn Fence.wide n Try.prog 88 #[.pointer (some ⟨K.b, 0, none⟩), .func (.yield l) #[] #[]] W fun e Z => (∃ v, e = .returned v) ∧ StepE K t JJ Jx Z := by
  have hlow : K.b < W.heap.size ∧ K.g1 < W.heap.size ∧ K.g2 < W.heap.size := ⟨hS.lt, hS.h1, hS.h2⟩
  have hb := hlow.1
  have q10 := hS.q10
  have HS := Lib.hid hS
  have HJ := Lib.hid hJ
  have HJx := Lib.hid hJx
  have HY := Lib.hid hY
  have HN := Lib.hid hN
  have H0 := Lib.hid h0
  have Hs0 := Lib.hid hs0
  have Hfi := Lib.hid hfi
  have Hj0 := Lib.hid hj0
  have Hpl := Lib.hid hpl
  have Hn1 := Lib.hid hn1
  have Hlow := Lib.hid hlow
  clear hS hJ hJx hY hN h0 hs0 hfi hj0 hpl hn1 hlow
  refine callsIn_of_wp_marks Try.func88 rfl trivial ?_ rfl
  simp only [Try.ntmps88, List.size_toArray, List.length_cons, List.length_nil, Nat.reduceAdd, Nat.reduceSub, Array.replicate_succ, Array.replicate_zero, List.push_toArray, List.append_toArray, List.nil_append, List.cons_append]
  gi_wp2_with fail
  refine wpIn_scope ?_
  gi_wp2_with fail
  refine wpIn_label ?_
  gi_wp2_with fail
  have hB0 : Below W.heap.size W (((W.alloc (.cells #[.pointer (some ⟨K.b, 0, none⟩)] 119)).alloc (.cells #[.func (.yield l) #[] #[]] 101)).alloc (.cells #[.int .i64 K.fi] 2)) := (((Below.refl _ _).alloc (Nat.le_refl _) _).alloc (by simp) _).alloc (by simp; omega) _
  have HX0 : Hid (BxS W.heap.size K.b l K.fi [] (((W.alloc (.cells #[.pointer (some ⟨K.b, 0, none⟩)] 119)).alloc (.cells #[.func (.yield l) #[] #[]] 101)).alloc (.cells #[.int .i64 K.fi] 2))) :=
    Lib.hid ⟨by simp, by go_simp, by go_simp, by go_simp, by go_simp, (fun D hD => by cases hD), List.nodup_nil⟩
  generalize ((W.alloc (.cells #[.pointer (some ⟨K.b, 0, none⟩)] 119)).alloc (.cells #[.func (.yield l) #[] #[]] 101)).alloc (.cells #[.int .i64 K.fi] 2) = W1 at *
  have HB0 := Lib.hid hB0
  clear hB0 q10
  refine wpIn_loop_ghost_k (fun g a A => ∃ (s : Stg) (ds : List Nat) (ha2 la2 : Int) (v5 v6 v11 v12 v13 v14 v15 v16 v17 v18 v19 v20 v21 v22 v23 v24 v25 v26 v27 v28 v29 v30 v31 v32 v33 v34 v35 v36 v37 v38 v39 v40 : Value), a = { tmps := #[.pointer (some ⟨K.b, 0, none⟩), .func (.yield l) #[] #[], .pointer (some ⟨W.heap.size, 0, none⟩), .pointer (some ⟨W.heap.size + 1, 0, none⟩), .pointer (some ⟨W.heap.size + 1 + 1, 0, none⟩), v5, v6, .pointer (some ⟨K.b, 0, none⟩), .pointer (some ⟨K.b, 0, none⟩), .pointer (some ⟨K.b, 10, none⟩), .int .i64 K.fi, v11, v12, v13, v14, v15, v16, v17, v18, v19, v20, v21, v22, v23, v24, v25, v26, v27, v28, v29, v30, v31, v32, v33, v34, v35, v36, v37, v38, v39, v40], defers := ds.map mk } ∧ g = 101 - s.j ∧ s.Ok K.R t ∧ JJ s 0 A ∧ SwS A K ha2 la2 s.j s.xs s.ys ∧ BxS W.heap.size K.b l s.f ds A)
    101 ⟨s0, [], ha, la, _, _, _, _, _, _, _, _, _, _, _, _, _, _, _, _, _, _, _, _, _, _, _, _, _, _, _, _, _, _, _, _, rfl, by rw [Hj0.out], Hs0.out, HJ.out _ _ _ _ H0.out (Out.of_low HB0.out), by rw [Hj0.out]; exact HS.out.low HB0.out Hlow.out, by rw [← Hfi.out]; exact HX0.out⟩ ?_
  rintro g a A ⟨s, ds, ha2, la2, v5, v6, v11, v12, v13, v14, v15, v16, v17, v18, v19, v20, v21, v22, v23, v24, v25, v26, v27, v28, v29, v30, v31, v32, v33, v34, v35, v36, v37, v38, v39, v40, rfl, rfl, hok, hjj, hsw, hbx⟩ J' K' hJ' hK'
  have HJ' := Lib.hid hJ'
  clear hJ' HX0 HS HB0 H0 Hs0
  obtain ⟨F, hF⟩ : ∃ F : Nat, s.f = F := ⟨s.f.toNat, by have := hok.lap.f0; omega⟩
  have hRp : K.R.p = K.p := rfl
  have hF1 : (F : Int) < 2 * K.p := by have := hok.lap.f1; rw [hRp, hF] at this; exact this
  have hFn : F < K.n1 := by have := Hn1.out; omega
  have hn1000 : K.n1 ≤ 1000 := by have := Hn1.out; omega
  have hR : K.R.Fit := ⟨hp, hp8, by show K.pl = 0 ∨ K.pl = 1; rw [Hpl.out]; simp⟩
  have hAt : ∀ k, plc K.p 0 K.st K.sk F k = K.R.at s.f k := fun k => by rw [← hF]; show _ = plc K.p K.pl K.st K.sk s.f k; rw [Hpl.out]
  have hnum := hok.lap.num
  have hnpos := hok.lap.num_pos
  have hnle := hok.lap.num_le
  have hmid := fun k => (hok.lap.mid hR k)
  rw [hF] at hbx
  have hx0 : cx K.R s.xs s.f 0 = s.xs.set F 0 := by show x0 s.xs s.f = _; unfold x0; rw [hF, Int.toNat_natCast]
  have hj100 : (0 : Int) ≤ s.j ∧ (s.j : Int) ≤ 1000 := ⟨by omega, by have := hok.hi; omega⟩
  have HF := Lib.hid hF
  have HR := Lib.hid hR
  have HAt := Lib.hid hAt
  have Hok := Lib.hid hok
  have Hmid := Lib.hid hmid
  have Hx0 := Lib.hid hx0
  have Hnum := Lib.hid hnum
  have Hsw := Lib.hid hsw
  have Hjj := Lib.hid hjj
  have Hbx := Lib.hid hbx
  have hBA : W.heap.size + 3 ≤ A.heap.size := hbx.lt
  have hHn : s.n = cnt s.xs s.f := rfl
  obtain ⟨-, cw, cv, cp, fp, -, -⟩ := hbx
  clear hF hRp hR hAt hmid hx0 hok hsw hjj hnum
  gi_wp2_with fail
  refine ⟨trivial, wide_room, ?_⟩
  refine CallsIn.mono (callsIn_wide.2 (take_any K F ha2 la2 s.j s.xs s.ys A Hsw.out hFn hj100.1 hj100.2 hn1000)) ?_
  rintro e A1 ⟨⟨v13', rfl⟩, hsw1, hch1⟩
  have hab1 := Above.of_ch (B := W.heap.size) hch1 Hlow.out
  have HB1 := Lib.hid (Hbx.out.above hab1)
  have HJ1 := Lib.hid (HJ.out _ _ _ _ Hjj.out (Out.of_ch hch1 (by omega)))
  have HS1 : Hid (StW A1 K s 0 la2) := by
    have h1 : s.xs.getD F 0 = (s.n : Int) - ((0 : Nat) : Int) := by
      have := Hnum.out
      rw [HF.out, Int.toNat_natCast] at this
      rw [hHn, HF.out, this]
      simp
    rw [h1] at hsw1
    show Hid (SwS _ _ _ _ _ (cx K.R s.xs s.f 0) _)
    rw [Hx0.out]
    exact Lib.hid hsw1
  obtain ⟨-, cw, cv, cp, fp, -, -⟩ := HB1.out
  obtain ⟨-, q0, q1, q2, q3, q4, q5, q6, q7, q8, q9, -⟩ := hsw1
  rw [Hpl.out] at q9
  have hBA1 : W.heap.size + 3 ≤ A1.heap.size := HB1.out.lt
  clear hch1 hab1 Hsw Hjj Hbx hBA
  gi_wp2_with fail
  gi_quiet ((fail))
  gi_wp2_with fail
  have hd2 := below_dn (Below.refl W.heap.size A1) nq
  have HB2 := Lib.hid (HB1.out.above (Above.of_below (below_dn (Below.refl _ A1) nq)))
  have HJ2 := Lib.hid (HJ.out _ _ _ _ HJ1.out (Out.of_low hd2))
  have HS2 : Hid (StW (A1.drewN nq) K s 0 la2) := Lib.hid (SwS.low HS1.out hd2 Hlow.out)
  clear HB1 HJ1 HS1 cw cv cp fp q0 q1 q2 q3 q4 q5 q6 q7 q8 q9 hBA1 hd2
  generalize A1.drewN nq = A2 at *
  have hBA2 : W.heap.size + 3 ≤ A2.heap.size := HB2.out.lt
  refine range_stmt (gf := 103) (fb := #[.agg #[.int .i64 K.p, .int .i64 K.s, .bool K.st, .bool K.sk, .bool K.re, .bool K.fe, .bool K.ag, .int .i64 K.c, .int .i64 K.l, .int .i64 0, .int .i64 F]]) (cb := #[]) rfl (enters_of Try.func103 (by kernel_rfl) rfl) ?_
  intro fn R hRR
  have hb23 : Below A2.heap.size A2 ((A2.alloc (.deferred (some []))).alloc (.loop (R .ready none))) := ((Below.refl _ A2).alloc (Nat.le_refl _) _).alloc (by simp) _
  have hrc : RecAt ((A2.alloc (.deferred (some []))).alloc (.loop (R .ready none))) (A2.heap.size + 1) A2.heap.size (R .ready none) := laid_loop A2 _
  have hsz3 : ((A2.alloc (.deferred (some []))).alloc (.loop (R .ready none))).heap.size = A2.heap.size + 1 + 1 := by simp
  have HB3 := Lib.hid (HB2.out.above (Above.of_below hb23))
  have HJ3 := Lib.hid (HJ.out _ _ _ _ HJ2.out (Out.of_low (low_below hb23 (by omega))))
  have HS3 : Hid (StW ((A2.alloc (.deferred (some []))).alloc (.loop (R .ready none))) K s 0 la2) := Lib.hid (SwS.low HS2.out (low_below hb23 (by omega)) Hlow.out)
  generalize (A2.alloc (.deferred (some []))).alloc (.loop (R .ready none)) = A3 at *
  have HRR := Lib.hid hRR
  have Hrc := Lib.hid hrc
  have Hsz3 := Lib.hid hsz3
  have hDs : A2.heap.size ∉ ds := fun hm => by
    have := (HB2.out.ms _ hm).2
    have := (Array.getElem?_eq_some_iff.1 this).1
    omega
  have HDs := Lib.hid hDs
  clear hb23 hrc hsz3 hRR HB2 HJ2 HS2 hDs
  refine (places_gives0 (n - 1) K.p K.s K.c K.l K.st K.sk K.re K.fe K.ag F hp hp8 (by omega) hF1 A3.heap.size (A2.heap.size + 1) s.n
    (LapJ W.heap.size K l F ds s JJ (A2.heap.size + 1) A2.heap.size R) (LapX W.heap.size K l F ds s JJ Jx (A2.heap.size + 1) A2.heap.size R)
    A3 (Nat.le_refl _) ?_ ?_ ⟨HJ3.out, ⟨la2, HS3.out⟩, HB3.out, Hrc.out, fun h => absurd h (by omega)⟩ (by omega)).mono ?_
  · rintro k A Z ⟨h1, ⟨lx, h2⟩, h3, h4, h5⟩ hb
    have hlow := low_below (B := W.heap.size) hb (by have := h3.lt; omega)
    exact ⟨HJ.out _ _ _ _ h1 (Out.of_low hlow), ⟨lx, SwS.low h2 hlow Hlow.out⟩, h3.above (Above.of_below hb), h4.below hb, h5⟩
  · rintro k A hk ⟨h1, ⟨lx, h2⟩, h3, h4, h5⟩
    rw [HAt.out k]
    refine round_yield HRR.out h4.1 rfl ?_
    intro K0 hK0
    gi_wp2
    refine ⟨h4.1, ?_⟩
    have hlow4 := low_put (B := W.heap.size) A (.loop (R .busy none)) (show W.heap.size ≤ A2.heap.size + 1 by omega)
    have hrec4 := h4.put (r' := R .busy none) (by omega)
    have hbx4 := h3.loop (r' := R .busy none) h4.1
    have hab4 := Above.putObj (B := A3.heap.size) (A := A) (r := A2.heap.size + 1) (.loop (R .busy none)) (by rw [Hsz3.out]; omega)
    have hjj4 := HJ.out _ _ _ _ h1 (Out.of_low hlow4)
    have hsw4 := SwS.low h2 hlow4 Hlow.out
    generalize A.putObj (A2.heap.size + 1) (.loop (R .busy none)) = A4 at *
    have Hrec4 := Lib.hid hrec4
    have Hbx4 := Lib.hid hbx4
    have Hab4 := Lib.hid hab4
    have Hjj4 := Lib.hid hjj4
    have Hsw4 := Lib.hid hsw4
    have hB4 : W.heap.size + 3 ≤ A4.heap.size := hbx4.lt
    obtain ⟨-, cw, cv, cp, fp, -, -⟩ := hbx4
    clear h1 h2 h3 h4 h5 hlow4 hrec4 hab4 hjj4 hsw4
    gi_wp2_with fail
    refine ⟨trivial, wide_room, ?_⟩
    refine CallsIn.mono (CallsIn.inRound _ (callsIn_wide.2 (put_any K (K.R.at s.f k) _ _ _ _ _ A4 (by rw [Hpl.out]; simp) Hsw4.out ?_ ?_ ?_ ?_ hn1000 ?_))) ?_
    · have : s.n = cnt s.xs s.f := rfl
      omega
    · have : s.n = cnt s.xs s.f := rfl
      omega
    · exact (Hok.out.lap.at_bd HR.out k).1
    · have := (Hok.out.lap.at_bd HR.out k).2
      have h2 := Hn1.out
      have h3 : K.R.p = K.p := rfl
      omega
    · intro i
      have h1 := (Hmid.out k).bd i
      have h2 := Hok.out.lap.hi
      have h3 : s.n = cnt s.xs s.f := rfl
      omega
    rintro e A5 ⟨rfl, hsw5, hch5⟩
    generalize hrl : rlb K.re (cx K.R s.xs s.f k) (K.R.at s.f k) = rl
    have Hrl := Lib.hid hrl
    have hab5 := Above.of_ch (B := W.heap.size) hch5 Hlow.out
    have Hbx5 := Lib.hid (Hbx4.out.above hab5)
    have Hjj5 := Lib.hid (HJ.out _ _ _ _ Hjj4.out (Out.of_ch hch5 (by omega)))
    have Hrec5 := Lib.hid (Hrec4.out.above hab5 (by omega) (by omega))
    have Hab5 := Lib.hid (Hab4.out.trans (hab5.mono (by have := Hsz3.out; omega)))
    have HS5 : Hid (StW A5 K s (k + 1) (K.R.at s.f k)) := Lib.hid (by
      have e1 : (s.n : Int) - k - 1 = (s.n : Int) - ((k + 1 : Nat) : Int) := by omega
      rw [e1] at hsw5
      exact hsw5)
    have hq := HY.out s k A5 Hok.out hk Hjj5.out HS5.out
    obtain ⟨fn2, tmps2, assign2, body2, hy2, hR2⟩ := hq
    obtain ⟨-, cw, cv, cp, fp, -, -⟩ := Hbx5.out
    clear hrl hsw5 hch5 hab5
    gi_wp2_with fail
    refine ⟨wide_room, RoundIn.mono (show RoundIn (Fence.wide.inRound (A2.heap.size + 1)) (n - 1 - 1 - 1) Try.prog l fn2 tmps2 assign2 body2 A5 _ from hR2) ?_⟩
    rintro e Z (⟨rfl, hj6, hjj6, hsw6, hab6⟩ | ⟨rfl, hjx6, hab6⟩)
    · have Hbx6 := Lib.hid (Hbx5.out.above hab6)
      have Hrec6 := Lib.hid (Hrec5.out.above hab6 (by omega) (by omega))
      have Hab6 := Lib.hid (Hab5.out.trans (hab6.mono (by have := Hsz3.out; omega)))
      have Hjj6 := Lib.hid hjj6
      have Hsw6 := Lib.hid hsw6
      have hB6 : W.heap.size + 3 ≤ Z.heap.size := Hbx6.out.lt
      obtain ⟨-, cw, cv, cp, fp, -, -⟩ := Hbx6.out
      have q11 := hsw6.q11
      clear hjj6 hsw6 hab6 hR2 hy2 Hbx4 Hbx5 Hjj4 Hjj5 Hsw4 HS5 Hrec4 Hrec5
      by_cases hlast : k + 1 < s.n
      · have hpos : decide (0 < (s.n : Int) - ((k + 1 : Nat) : Int)) = true := by simp; omega
        have p1 : 0 < (s.n : Int) - ((k + 1 : Nat) : Int) := by omega
        generalize (s.n : Int) - ((k + 1 : Nat) : Int) = hd at *
        gi_wp2_with fail
        have hlowr := low_put (B := W.heap.size) Z (.loop (R .ready none)) (show W.heap.size ≤ A2.heap.size + 1 by omega)
        exact ⟨Hrec6.out.1, .inl ⟨rfl, hlast, ⟨HJ.out _ _ _ _ Hjj6.out (Out.of_low hlowr), ⟨_, SwS.low Hsw6.out hlowr Hlow.out⟩, Hbx6.out.loop Hrec6.out.1, Hrec6.out.put (by omega), fun _ => hj6⟩, Hab6.out.trans (Above.putObj _ (by have := Hsz3.out; omega))⟩⟩
      · have hend : k + 1 = s.n := by omega
        have hneg : decide (0 < (s.n : Int) - ((k + 1 : Nat) : Int)) = false := by simp; omega
        have p1 : ¬ 0 < (s.n : Int) - ((k + 1 : Nat) : Int) := by omega
        have hag : agn K.R s.xs s.f = rl := by rw [← Hrl.out]; exact (rlb_agn hend).symm
        have hls : K.R.at s.f k = lst K.R s.xs s.f := by
          have h3 : s.n = cnt s.xs s.f := rfl
          unfold lst
          rw [show cnt s.xs s.f - 1 = k by omega]
        have HSe : Hid (StW Z K s s.n (lst K.R s.xs s.f)) := Lib.hid (by rw [← hend, ← hls]; exact Hsw6.out)
        have HJe : Hid (JJ s s.n Z) := Lib.hid (by rw [← hend]; exact Hjj6.out)
        have Hag := Lib.hid hag
        have Hls := Lib.hid hls
        clear hag hls hend Hrl Hjj6 Hsw6
        generalize (s.n : Int) - ((k + 1 : Nat) : Int) = hd at *
        cases rl
        · gi_wp2_with fail
          have hlowr := low_put (B := W.heap.size) Z (.loop (R .done (some .ret))) (show W.heap.size ≤ A2.heap.size + 1 by omega)
          exact ⟨Hrec6.out.1, .inr ⟨rfl, ⟨.inr (.inl ⟨Hag.out, hj6, HJ.out _ _ _ _ HJe.out (Out.of_low hlowr), SwS.low HSe.out hlowr Hlow.out, Hbx6.out.loop Hrec6.out.1, Hrec6.out.put (by omega)⟩)⟩⟩⟩
        · gi_wp2_with fail
          have hls1 := low_set (B := W.heap.size) Z (q := ⟨W.heap.size + 1 + 1, 0, none⟩) (by simp; omega) (.int .i64 (K.R.at s.f k))
          have hrecs := Hrec6.out.setCell cp (.int .i64 (K.R.at s.f k))
          have hlowr := hls1.trans (low_put (B := W.heap.size) _ (.loop (R .done (some (.exit 1)))) (show W.heap.size ≤ A2.heap.size + 1 by omega))
          refine ⟨hrecs.1, .inr ⟨rfl, ⟨.inr (.inr ⟨Hag.out, hj6, HJ.out _ _ _ _ HJe.out (Out.of_low hlowr), SwS.low HSe.out hlowr Hlow.out, ?_, hrecs.put (by omega)⟩)⟩⟩⟩
          rw [← Hls.out]
          exact (Hbx6.out.setP _).loop hrecs.1
    · have Hbx6 := Lib.hid (Hbx5.out.above hab6)
      have Hrec6 := Lib.hid (Hrec5.out.above hab6 (by omega) (by omega))
      have Hjx6 := Lib.hid hjx6
      clear hjx6 hab6 hR2 hy2
      gi_wp2_with fail
      exact ⟨Hrec6.out.1, .inr ⟨rfl, ⟨.inl ⟨HJx.out _ _ Hjx6.out (low_put (B := W.heap.size) Z _ (by omega)), Hbx6.out.loop Hrec6.out.1, Hrec6.out.put (by omega)⟩⟩⟩⟩
  · rintro e Z ⟨hv, hz⟩
    refine ⟨hv, .inr ?_⟩
    have HStep : Hid (∀ A D, StepE K t JJ Jx A → W.heap.size ≤ D → A.heap[D]? = some (.deferred (some [])) → StepE K t JJ Jx (A.putObj D (.deferred none))) := Lib.hid fun A D h hD _ => by
      have hl := low_put (B := W.heap.size) A (.deferred none) hD
      rcases h with ⟨s', a1, a2, a3, a4, a5⟩ | h
      · exact .inl ⟨s', a1, a2, a3, HJ.out _ _ _ _ a4 (Out.of_low hl), SwS.low a5 hl Hlow.out⟩
      · exact .inr (HJx.out _ _ h hl)
    clear hv
    rcases hz with ⟨⟨hjx, hbx, hr⟩ | ⟨hag, hj, hjj, hsw, hbx, hr⟩ | ⟨hag, hj, hjj, hsw, hbx, hr⟩⟩
    · refine ⟨_, hr.1, ?_⟩
      have hlow := low_put (B := W.heap.size) Z (.loop (R .exhausted (some .ret))) (show W.heap.size ≤ A2.heap.size + 1 by omega)
      have Hbx := Lib.hid (hbx.loop (r' := R .exhausted (some .ret)) hr.1)
      have Hrec := Lib.hid (hr.put (r' := R .exhausted (some .ret)) (by omega))
      have HE : Hid (StepE K t JJ Jx (Z.putObj (A2.heap.size + 1) (.loop (R .exhausted (some .ret))))) := Lib.hid (.inr (HJx.out _ _ hjx hlow))
      generalize Z.putObj (A2.heap.size + 1) (.loop (R .exhausted (some .ret))) = Z2 at *
      clear hlow hbx hr hjx
      gi_wp2_with fail
      refine ⟨by simp, .inl ⟨_, _, rfl, run_takeDeferred Hrec.out.2, ?_⟩⟩
      exact leaves_marks (B0 := W.heap.size) (StepE K t JJ Jx) HStep.out (fun A h => ⟨_, results_none rfl _ _ _, ⟨_, rfl⟩, h⟩) ds _ Hbx.out.nd (fun D hD => ⟨(Hbx.out.ms D hD).1, (World.putObj_heap_other (fun e => HDs.out (by rw [← e]; exact hD))).trans (Hbx.out.ms D hD).2⟩) (HStep.out _ _ HE.out (by omega) Hrec.out.2)
    · refine ⟨_, hr.1, ?_⟩
      have hlow := low_put (B := W.heap.size) Z (.loop (R .exhausted (some .ret))) (show W.heap.size ≤ A2.heap.size + 1 by omega)
      have Hbx := Lib.hid (hbx.loop (r' := R .exhausted (some .ret)) hr.1)
      have Hrec := Lib.hid (hr.put (r' := R .exhausted (some .ret)) (by omega))
      have HE : Hid (StepE K t JJ Jx (Z.putObj (A2.heap.size + 1) (.loop (R .exhausted (some .ret))))) := Lib.hid (.inl ⟨s, Hok.out, hj, hag, HJ.out _ _ _ _ hjj (Out.of_low hlow), SwS.low hsw hlow Hlow.out⟩)
      generalize Z.putObj (A2.heap.size + 1) (.loop (R .exhausted (some .ret))) = Z2 at *
      clear hlow hbx hr hag hjj hsw
      gi_wp2_with fail
      refine ⟨by simp, .inl ⟨_, _, rfl, run_takeDeferred Hrec.out.2, ?_⟩⟩
      exact leaves_marks (B0 := W.heap.size) (StepE K t JJ Jx) HStep.out (fun A h => ⟨_, results_none rfl _ _ _, ⟨_, rfl⟩, h⟩) ds _ Hbx.out.nd (fun D hD => ⟨(Hbx.out.ms D hD).1, (World.putObj_heap_other (fun e => HDs.out (by rw [← e]; exact hD))).trans (Hbx.out.ms D hD).2⟩) (HStep.out _ _ HE.out (by omega) Hrec.out.2)
    · refine ⟨_, hr.1, ?_⟩
      have hlow := low_put (B := W.heap.size) Z (.loop (R .exhausted (some (.exit 1)))) (show W.heap.size ≤ A2.heap.size + 1 by omega)
      have hrec := hr.put (r' := R .exhausted (some (.exit 1))) (by omega)
      have Hbx := Lib.hid ((hbx.loop (r' := R .exhausted (some (.exit 1))) hr.1).mark hrec.2 (by omega) HDs.out)
      have HJn := Lib.hid (HN.out s _ Hok.out hj hag (HJ.out _ _ _ _ hjj (Out.of_low hlow)))
      have HSn : Hid (SwS (Z.putObj (A2.heap.size + 1) (.loop (R .exhausted (some (.exit 1))))) K ((s.n : Int) - s.n) (lst K.R s.xs s.f) ((s.next K.R).j : Int) (s.next K.R).xs (s.next K.R).ys) := Lib.hid (by
        have := SwS.low hsw hlow Hlow.out
        have e : (((s.next K.R).j : Nat) : Int) = (s.j : Int) + 1 := by show ((s.j + 1 : Nat) : Int) = _; omega
        rw [e]
        exact this)
      have HOk : Hid ((s.next K.R).Ok K.R t) := Lib.hid ⟨Hok.out.lap.next HR.out hag, by show s.j + 1 ≤ 100; omega⟩
      generalize Z.putObj (A2.heap.size + 1) (.loop (R .exhausted (some (.exit 1)))) = Z2 at *
      clear hlow hbx hr hag hjj hsw hrec
      gi_wp2_with fail
      exact Handed.intro (101 - (s.j + 1)) (by omega) (HJ'.out _ _ _ ⟨s.next K.R, A2.heap.size :: ds, _, _, _, _, _, _, _, _, _, _, _, _, _, _, _, _, _, _, _, _, _, _, _, _, _, _, _, _, _, _, _, _, _, _, rfl, rfl, HOk.out, HJn.out, HSn.out, Hbx.out⟩)
set_option maxHeartbeats 8000000 in
set_option maxRecDepth 100000 in
theorem steps_gives1 (n : Nat) (K : Cfg) (hpl : K.pl = 1) (hp : 2 ≤ K.p) (hp8 : K.p ≤ 8) (hn1 : (K.n1 : Int) = 2 * K.p) (t : Int) (l : Nat) (JJ : Stg → Nat → World → Prop) (Jx : World → Prop) (W : World) (s0 : Stg) (ha la : Int)
    (hS : SwS W K ha la 0 s0.xs s0.ys) (hfi : K.fi = s0.f) (hs0 : s0.Ok K.R t) (hj0 : s0.j = 0)
    (hJ : ∀ s i A Z, JJ s i A → Out W.heap.size K A Z → JJ s i Z)
    (hJx : ∀ A Z, Jx A → Below W.heap.size A Z → Jx Z)
    (hY : ∀ s i A, s.Ok K.R t → i < s.n → JJ s i A → StW A K s (i + 1) (K.R.at s.f i) → YieldAt Fence.wide (n - 1 - 1 - 1) Try.prog l #[.int .i64 (K.R.at s.f i)] A fun e Z =>
      (e = .returned (.bool true) ∧ s.j < 100 ∧ JJ s (i + 1) Z ∧ StW Z K s (i + 1) (K.R.at s.f i) ∧ Above W.heap.size A Z) ∨ (e = .returned (.bool false) ∧ Jx Z ∧ Above W.heap.size A Z))
    (hN : ∀ s A, s.Ok K.R t → s.j < 100 → agn K.R s.xs s.f = true → JJ s s.n A → JJ (s.next K.R) 0 A)
    (h0 : JJ s0 0 W) :
    CallsIn Fence.wide n Try.prog 88 #[.pointer (some ⟨K.b, 0, none⟩), .func (.yield l) #[] #[]] W fun e Z => (∃ v, e = .returned v) ∧ StepE K t JJ Jx Z := by
  have hlow : K.b < W.heap.size ∧ K.g1 < W.heap.size ∧ K.g2 < W.heap.size := ⟨hS.lt, hS.h1, hS.h2⟩
  have hb := hlow.1
  have q10 := hS.q10
  have HS := Lib.hid hS
  have HJ := Lib.hid hJ
  have HJx := Lib.hid hJx
  have HY := Lib.hid hY
  have HN := Lib.hid hN
  have H0 := Lib.hid h0
  have Hs0 := Lib.hid hs0
  have Hfi := Lib.hid hfi
  have Hj0 := Lib.hid hj0
  have Hpl := Lib.hid hpl
  have Hn1 := Lib.hid hn1
  have Hlow := Lib.hid hlow
  clear hS hJ hJx hY hN h0 hs0 hfi hj0 hpl hn1 hlow
  refine callsIn_of_wp_marks Try.func88 rfl trivial ?_ rfl
  simp only [Try.ntmps88, List.size_toArray, List.length_cons, List.length_nil, Nat.reduceAdd, Nat.reduceSub, Array.replicate_succ, Array.replicate_zero, List.push_toArray, List.append_toArray, List.nil_append, List.cons_append]
  gi_wp2_with fail
  refine wpIn_scope ?_
  gi_wp2_with fail
  refine wpIn_label ?_
  gi_wp2_with fail
  have hB0 : Below W.heap.size W (((W.alloc (.cells #[.pointer (some ⟨K.b, 0, none⟩)] 119)).alloc (.cells #[.func (.yield l) #[] #[]] 101)).alloc (.cells #[.int .i64 K.fi] 2)) := (((Below.refl _ _).alloc (Nat.le_refl _) _).alloc (by simp) _).alloc (by simp; omega) _
  have HX0 : Hid (BxS W.heap.size K.b l K.fi [] (((W.alloc (.cells #[.pointer (some ⟨K.b, 0, none⟩)] 119)).alloc (.cells #[.func (.yield l) #[] #[]] 101)).alloc (.cells #[.int .i64 K.fi] 2))) :=
    Lib.hid ⟨by simp, by go_simp, by go_simp, by go_simp, by go_simp, (fun D hD => by cases hD), List.nodup_nil⟩
  generalize ((W.alloc (.cells #[.pointer (some ⟨K.b, 0, none⟩)] 119)).alloc (.cells #[.func (.yield l) #[] #[]] 101)).alloc (.cells #[.int .i64 K.fi] 2) = W1 at *
  have HB0 := Lib.hid hB0
  clear hB0 q10
  refine wpIn_loop_ghost_k (fun g a A => ∃ (s : Stg) (ds : List Nat) (ha2 la2 : Int) (v5 v6 v11 v12 v13 v14 v15 v16 v17 v18 v19 v20 v21 v22 v23 v24 v25 v26 v27 v28 v29 v30 v31 v32 v33 v34 v35 v36 v37 v38 v39 v40 : Value), a = { tmps := #[.pointer (some ⟨K.b, 0, none⟩), .func (.yield l) #[] #[], .pointer (some ⟨W.heap.size, 0, none⟩), .pointer (some ⟨W.heap.size + 1, 0, none⟩), .pointer (some ⟨W.heap.size + 1 + 1, 0, none⟩), v5, v6, .pointer (some ⟨K.b, 0, none⟩), .pointer (some ⟨K.b, 0, none⟩), .pointer (some ⟨K.b, 10, none⟩), .int .i64 K.fi, v11, v12, v13, v14, v15, v16, v17, v18, v19, v20, v21, v22, v23, v24, v25, v26, v27, v28, v29, v30, v31, v32, v33, v34, v35, v36, v37, v38, v39, v40], defers := ds.map mk } ∧ g = 101 - s.j ∧ s.Ok K.R t ∧ JJ s 0 A ∧ SwS A K ha2 la2 s.j s.xs s.ys ∧ BxS W.heap.size K.b l s.f ds A)
    101 ⟨s0, [], ha, la, _, _, _, _, _, _, _, _, _, _, _, _, _, _, _, _, _, _, _, _, _, _, _, _, _, _, _, _, _, _, _, _, rfl, by rw [Hj0.out], Hs0.out, HJ.out _ _ _ _ H0.out (Out.of_low HB0.out), by rw [Hj0.out]; exact HS.out.low HB0.out Hlow.out, by rw [← Hfi.out]; exact HX0.out⟩ ?_
  rintro g a A ⟨s, ds, ha2, la2, v5, v6, v11, v12, v13, v14, v15, v16, v17, v18, v19, v20, v21, v22, v23, v24, v25, v26, v27, v28, v29, v30, v31, v32, v33, v34, v35, v36, v37, v38, v39, v40, rfl, rfl, hok, hjj, hsw, hbx⟩ J' K' hJ' hK'
  have HJ' := Lib.hid hJ'
  clear hJ' HX0 HS HB0 H0 Hs0
  obtain ⟨F, hF⟩ : ∃ F : Nat, s.f = F := ⟨s.f.toNat, by have := hok.lap.f0; omega⟩
  have hRp : K.R.p = K.p := rfl
  have hF1 : (F : Int) < 2 * K.p := by have := hok.lap.f1; rw [hRp, hF] at this; exact this
  have hFn : F < K.n1 := by have := Hn1.out; omega
  have hn1000 : K.n1 ≤ 1000 := by have := Hn1.out; omega
  have hR : K.R.Fit := ⟨hp, hp8, by show K.pl = 0 ∨ K.pl = 1; rw [Hpl.out]; simp⟩
  have hAt : ∀ k, plc K.p 1 K.st K.sk F k = K.R.at s.f k := fun k => by rw [← hF]; show _ = plc K.p K.pl K.st K.sk s.f k; rw [Hpl.out]
  have hnum := hok.lap.num
  have hnpos := hok.lap.num_pos
  have hnle := hok.lap.num_le
  have hmid := fun k => (hok.lap.mid hR k)
  rw [hF] at hbx
  have hx0 : cx K.R s.xs s.f 0 = s.xs.set F 0 := by show x0 s.xs s.f = _; unfold x0; rw [hF, Int.toNat_natCast]
  have hj100 : (0 : Int) ≤ s.j ∧ (s.j : Int) ≤ 1000 := ⟨by omega, by have := hok.hi; omega⟩
  have HF := Lib.hid hF
  have HR := Lib.hid hR
  have HAt := Lib.hid hAt
  have Hok := Lib.hid hok
  have Hmid := Lib.hid hmid
  have Hx0 := Lib.hid hx0
  have Hnum := Lib.hid hnum
  have Hsw := Lib.hid hsw
  have Hjj := Lib.hid hjj
  have Hbx := Lib.hid hbx
  have hBA : W.heap.size + 3 ≤ A.heap.size := hbx.lt
  have hHn : s.n = cnt s.xs s.f := rfl
  obtain ⟨-, cw, cv, cp, fp, -, -⟩ := hbx
  clear hF hRp hR hAt hmid hx0 hok hsw hjj hnum
  gi_wp2_with fail
  refine ⟨trivial, wide_room, ?_⟩
  refine CallsIn.mono (callsIn_wide.2 (take_any K F ha2 la2 s.j s.xs s.ys A Hsw.out hFn hj100.1 hj100.2 hn1000)) ?_
  rintro e A1 ⟨⟨v13', rfl⟩, hsw1, hch1⟩
  have hab1 := Above.of_ch (B := W.heap.size) hch1 Hlow.out
  have HB1 := Lib.hid (Hbx.out.above hab1)
  have HJ1 := Lib.hid (HJ.out _ _ _ _ Hjj.out (Out.of_ch hch1 (by omega)))
  have HS1 : Hid (StW A1 K s 0 la2) := by
    have h1 : s.xs.getD F 0 = (s.n : Int) - ((0 : Nat) : Int) := by
      have := Hnum.out
      rw [HF.out, Int.toNat_natCast] at this
      rw [hHn, HF.out, this]
      simp
    rw [h1] at hsw1
    show Hid (SwS _ _ _ _ _ (cx K.R s.xs s.f 0) _)
    rw [Hx0.out]
    exact Lib.hid hsw1
  obtain ⟨-, cw, cv, cp, fp, -, -⟩ := HB1.out
  obtain ⟨-, q0, q1, q2, q3, q4, q5, q6, q7, q8, q9, -⟩ := hsw1
  rw [Hpl.out] at q9
  have hBA1 : W.heap.size + 3 ≤ A1.heap.size := HB1.out.lt
  clear hch1 hab1 Hsw Hjj Hbx hBA
  gi_wp2_with fail
  gi_quiet ((fail))
  gi_wp2_with fail
  have hd2 := below_dn (Below.refl W.heap.size A1) nq
  have HB2 := Lib.hid (HB1.out.above (Above.of_below (below_dn (Below.refl _ A1) nq)))
  have HJ2 := Lib.hid (HJ.out _ _ _ _ HJ1.out (Out.of_low hd2))
  have HS2 : Hid (StW (A1.drewN nq) K s 0 la2) := Lib.hid (SwS.low HS1.out hd2 Hlow.out)
  clear HB1 HJ1 HS1 cw cv cp fp q0 q1 q2 q3 q4 q5 q6 q7 q8 q9 hBA1 hd2
  generalize A1.drewN nq = A2 at *
  have hBA2 : W.heap.size + 3 ≤ A2.heap.size := HB2.out.lt
  refine range_stmt (gf := 103) (fb := #[.agg #[.int .i64 K.p, .int .i64 K.s, .bool K.st, .bool K.sk, .bool K.re, .bool K.fe, .bool K.ag, .int .i64 K.c, .int .i64 K.l, .int .i64 1, .int .i64 F]]) (cb := #[]) rfl (enters_of Try.func103 (by kernel_rfl) rfl) ?_
  intro fn R hRR
  have hb23 : Below A2.heap.size A2 ((A2.alloc (.deferred (some []))).alloc (.loop (R .ready none))) := ((Below.refl _ A2).alloc (Nat.le_refl _) _).alloc (by simp) _
  have hrc : RecAt ((A2.alloc (.deferred (some []))).alloc (.loop (R .ready none))) (A2.heap.size + 1) A2.heap.size (R .ready none) := laid_loop A2 _
  have hsz3 : ((A2.alloc (.deferred (some []))).alloc (.loop (R .ready none))).heap.size = A2.heap.size + 1 + 1 := by simp
  have HB3 := Lib.hid (HB2.out.above (Above.of_below hb23))
  have HJ3 := Lib.hid (HJ.out _ _ _ _ HJ2.out (Out.of_low (low_below hb23 (by omega))))
  have HS3 : Hid (StW ((A2.alloc (.deferred (some []))).alloc (.loop (R .ready none))) K s 0 la2) := Lib.hid (SwS.low HS2.out (low_below hb23 (by omega)) Hlow.out)
  generalize (A2.alloc (.deferred (some []))).alloc (.loop (R .ready none)) = A3 at *
  have HRR := Lib.hid hRR
  have Hrc := Lib.hid hrc
  have Hsz3 := Lib.hid hsz3
  have hDs : A2.heap.size ∉ ds := fun hm => by
    have := (HB2.out.ms _ hm).2
    have := (Array.getElem?_eq_some_iff.1 this).1
    omega
  have HDs := Lib.hid hDs
  clear hb23 hrc hsz3 hRR HB2 HJ2 HS2 hDs
  refine (places_gives1 (n - 1) K.p K.s K.c K.l K.st K.sk K.re K.fe K.ag F hp hp8 (by omega) hF1 A3.heap.size (A2.heap.size + 1) s.n
    (LapJ W.heap.size K l F ds s JJ (A2.heap.size + 1) A2.heap.size R) (LapX W.heap.size K l F ds s JJ Jx (A2.heap.size + 1) A2.heap.size R)
    A3 (Nat.le_refl _) ?_ ?_ ⟨HJ3.out, ⟨la2, HS3.out⟩, HB3.out, Hrc.out, fun h => absurd h (by omega)⟩ (by omega)).mono ?_
  · rintro k A Z ⟨h1, ⟨lx, h2⟩, h3, h4, h5⟩ hb
    have hlow := low_below (B := W.heap.size) hb (by have := h3.lt; omega)
    exact ⟨HJ.out _ _ _ _ h1 (Out.of_low hlow), ⟨lx, SwS.low h2 hlow Hlow.out⟩, h3.above (Above.of_below hb), h4.below hb, h5⟩
  · rintro k A hk ⟨h1, ⟨lx, h2⟩, h3, h4, h5⟩
    rw [HAt.out k]
    refine round_yield HRR.out h4.1 rfl ?_
    intro K0 hK0
    gi_wp2
    refine ⟨h4.1, ?_⟩
    have hlow4 := low_put (B := W.heap.size) A (.loop (R .busy none)) (show W.heap.size ≤ A2.heap.size + 1 by omega)
    have hrec4 := h4.put (r' := R .busy none) (by omega)
    have hbx4 := h3.loop (r' := R .busy none) h4.1
    have hab4 := Above.putObj (B := A3.heap.size) (A := A) (r := A2.heap.size + 1) (.loop (R .busy none)) (by rw [Hsz3.out]; omega)
    have hjj4 := HJ.out _ _ _ _ h1 (Out.of_low hlow4)
    have hsw4 := SwS.low h2 hlow4 Hlow.out
    generalize A.putObj (A2.heap.size + 1) (.loop (R .busy none)) = A4 at *
    have Hrec4 := Lib.hid hrec4
    have Hbx4 := Lib.hid hbx4
    have Hab4 := Lib.hid hab4
    have Hjj4 := Lib.hid hjj4
    have Hsw4 := Lib.hid hsw4
    have hB4 : W.heap.size + 3 ≤ A4.heap.size := hbx4.lt
    obtain ⟨-, cw, cv, cp, fp, -, -⟩ := hbx4
    clear h1 h2 h3 h4 h5 hlow4 hrec4 hab4 hjj4 hsw4
    gi_wp2_with fail
    refine ⟨trivial, wide_room, ?_⟩
    refine CallsIn.mono (CallsIn.inRound _ (callsIn_wide.2 (put_any K (K.R.at s.f k) _ _ _ _ _ A4 (by rw [Hpl.out]; simp) Hsw4.out ?_ ?_ ?_ ?_ hn1000 ?_))) ?_
    · have : s.n = cnt s.xs s.f := rfl
      omega
    · have : s.n = cnt s.xs s.f := rfl
      omega
    · exact (Hok.out.lap.at_bd HR.out k).1
    · have := (Hok.out.lap.at_bd HR.out k).2
      have h2 := Hn1.out
      have h3 : K.R.p = K.p := rfl
      omega
    · intro i
      have h1 := (Hmid.out k).bd i
      have h2 := Hok.out.lap.hi
      have h3 : s.n = cnt s.xs s.f := rfl
      omega
    rintro e A5 ⟨rfl, hsw5, hch5⟩
    generalize hrl : rlb K.re (cx K.R s.xs s.f k) (K.R.at s.f k) = rl
    have Hrl := Lib.hid hrl
    have hab5 := Above.of_ch (B := W.heap.size) hch5 Hlow.out
    have Hbx5 := Lib.hid (Hbx4.out.above hab5)
    have Hjj5 := Lib.hid (HJ.out _ _ _ _ Hjj4.out (Out.of_ch hch5 (by omega)))
    have Hrec5 := Lib.hid (Hrec4.out.above hab5 (by omega) (by omega))
    have Hab5 := Lib.hid (Hab4.out.trans (hab5.mono (by have := Hsz3.out; omega)))
    have HS5 : Hid (StW A5 K s (k + 1) (K.R.at s.f k)) := Lib.hid (by
      have e1 : (s.n : Int) - k - 1 = (s.n : Int) - ((k + 1 : Nat) : Int) := by omega
      rw [e1] at hsw5
      exact hsw5)
    have hq := HY.out s k A5 Hok.out hk Hjj5.out HS5.out
    obtain ⟨fn2, tmps2, assign2, body2, hy2, hR2⟩ := hq
    obtain ⟨-, cw, cv, cp, fp, -, -⟩ := Hbx5.out
    clear hrl hsw5 hch5 hab5
    gi_wp2_with fail
    refine ⟨wide_room, RoundIn.mono (show RoundIn (Fence.wide.inRound (A2.heap.size + 1)) (n - 1 - 1 - 1) Try.prog l fn2 tmps2 assign2 body2 A5 _ from hR2) ?_⟩
    rintro e Z (⟨rfl, hj6, hjj6, hsw6, hab6⟩ | ⟨rfl, hjx6, hab6⟩)
    · have Hbx6 := Lib.hid (Hbx5.out.above hab6)
      have Hrec6 := Lib.hid (Hrec5.out.above hab6 (by omega) (by omega))
      have Hab6 := Lib.hid (Hab5.out.trans (hab6.mono (by have := Hsz3.out; omega)))
      have Hjj6 := Lib.hid hjj6
      have Hsw6 := Lib.hid hsw6
      have hB6 : W.heap.size + 3 ≤ Z.heap.size := Hbx6.out.lt
      obtain ⟨-, cw, cv, cp, fp, -, -⟩ := Hbx6.out
      have q11 := hsw6.q11
      clear hjj6 hsw6 hab6 hR2 hy2 Hbx4 Hbx5 Hjj4 Hjj5 Hsw4 HS5 Hrec4 Hrec5
      by_cases hlast : k + 1 < s.n
      · have hpos : decide (0 < (s.n : Int) - ((k + 1 : Nat) : Int)) = true := by simp; omega
        have p1 : 0 < (s.n : Int) - ((k + 1 : Nat) : Int) := by omega
        generalize (s.n : Int) - ((k + 1 : Nat) : Int) = hd at *
        gi_wp2_with fail
        have hlowr := low_put (B := W.heap.size) Z (.loop (R .ready none)) (show W.heap.size ≤ A2.heap.size + 1 by omega)
        exact ⟨Hrec6.out.1, .inl ⟨rfl, hlast, ⟨HJ.out _ _ _ _ Hjj6.out (Out.of_low hlowr), ⟨_, SwS.low Hsw6.out hlowr Hlow.out⟩, Hbx6.out.loop Hrec6.out.1, Hrec6.out.put (by omega), fun _ => hj6⟩, Hab6.out.trans (Above.putObj _ (by have := Hsz3.out; omega))⟩⟩
      · have hend : k + 1 = s.n := by omega
        have hneg : decide (0 < (s.n : Int) - ((k + 1 : Nat) : Int)) = false := by simp; omega
        have p1 : ¬ 0 < (s.n : Int) - ((k + 1 : Nat) : Int) := by omega
        have hag : agn K.R s.xs s.f = rl := by rw [← Hrl.out]; exact (rlb_agn hend).symm
        have hls : K.R.at s.f k = lst K.R s.xs s.f := by
          have h3 : s.n = cnt s.xs s.f := rfl
          unfold lst
          rw [show cnt s.xs s.f - 1 = k by omega]
        have HSe : Hid (StW Z K s s.n (lst K.R s.xs s.f)) := Lib.hid (by rw [← hend, ← hls]; exact Hsw6.out)
        have HJe : Hid (JJ s s.n Z) := Lib.hid (by rw [← hend]; exact Hjj6.out)
        have Hag := Lib.hid hag
        have Hls := Lib.hid hls
        clear hag hls hend Hrl Hjj6 Hsw6
        generalize (s.n : Int) - ((k + 1 : Nat) : Int) = hd at *
        cases rl
        · gi_wp2_with fail
          have hlowr := low_put (B := W.heap.size) Z (.loop (R .done (some .ret))) (show W.heap.size ≤ A2.heap.size + 1 by omega)
          exact ⟨Hrec6.out.1, .inr ⟨rfl, ⟨.inr (.inl ⟨Hag.out, hj6, HJ.out _ _ _ _ HJe.out (Out.of_low hlowr), SwS.low HSe.out hlowr Hlow.out, Hbx6.out.loop Hrec6.out.1, Hrec6.out.put (by omega)⟩)⟩⟩⟩
        · gi_wp2_with fail
          have hls1 := low_set (B := W.heap.size) Z (q := ⟨W.heap.size + 1 + 1, 0, none⟩) (by simp; omega) (.int .i64 (K.R.at s.f k))
          have hrecs := Hrec6.out.setCell cp (.int .i64 (K.R.at s.f k))
          have hlowr := hls1.trans (low_put (B := W.heap.size) _ (.loop (R .done (some (.exit 1)))) (show W.heap.size ≤ A2.heap.size + 1 by omega))
          refine ⟨hrecs.1, .inr ⟨rfl, ⟨.inr (.inr ⟨Hag.out, hj6, HJ.out _ _ _ _ HJe.out (Out.of_low hlowr), SwS.low HSe.out hlowr Hlow.out, ?_, hrecs.put (by omega)⟩)⟩⟩⟩
          rw [← Hls.out]
          exact (Hbx6.out.setP _).loop hrecs.1
    · have Hbx6 := Lib.hid (Hbx5.out.above hab6)
      have Hrec6 := Lib.hid (Hrec5.out.above hab6 (by omega) (by omega))
      have Hjx6 := Lib.hid hjx6
      clear hjx6 hab6 hR2 hy2
      gi_wp2_with fail
      exact ⟨Hrec6.out.1, .inr ⟨rfl, ⟨.inl ⟨HJx.out _ _ Hjx6.out (low_put (B := W.heap.size) Z _ (by omega)), Hbx6.out.loop Hrec6.out.1, Hrec6.out.put (by omega)⟩⟩⟩⟩
  · rintro e Z ⟨hv, hz⟩
    refine ⟨hv, .inr ?_⟩
    have HStep : Hid (∀ A D, StepE K t JJ Jx A → W.heap.size ≤ D → A.heap[D]? = some (.deferred (some [])) → StepE K t JJ Jx (A.putObj D (.deferred none))) := Lib.hid fun A D h hD _ => by
      have hl := low_put (B := W.heap.size) A (.deferred none) hD
      rcases h with ⟨s', a1, a2, a3, a4, a5⟩ | h
      · exact .inl ⟨s', a1, a2, a3, HJ.out _ _ _ _ a4 (Out.of_low hl), SwS.low a5 hl Hlow.out⟩
      · exact .inr (HJx.out _ _ h hl)
    clear hv
    rcases hz with ⟨⟨hjx, hbx, hr⟩ | ⟨hag, hj, hjj, hsw, hbx, hr⟩ | ⟨hag, hj, hjj, hsw, hbx, hr⟩⟩
    · refine ⟨_, hr.1, ?_⟩
      have hlow := low_put (B := W.heap.size) Z (.loop (R .exhausted (some .ret))) (show W.heap.size ≤ A2.heap.size + 1 by omega)
      have Hbx := Lib.hid (hbx.loop (r' := R .exhausted (some .ret)) hr.1)
      have Hrec := Lib.hid (hr.put (r' := R .exhausted (some .ret)) (by omega))
      have HE : Hid (StepE K t JJ Jx (Z.putObj (A2.heap.size + 1) (.loop (R .exhausted (some .ret))))) := Lib.hid (.inr (HJx.out _ _ hjx hlow))
      generalize Z.putObj (A2.heap.size + 1) (.loop (R .exhausted (some .ret))) = Z2 at *
      clear hlow hbx hr hjx
      gi_wp2_with fail
      refine ⟨by simp, .inl ⟨_, _, rfl, run_takeDeferred Hrec.out.2, ?_⟩⟩
      exact leaves_marks (B0 := W.heap.size) (StepE K t JJ Jx) HStep.out (fun A h => ⟨_, results_none rfl _ _ _, ⟨_, rfl⟩, h⟩) ds _ Hbx.out.nd (fun D hD => ⟨(Hbx.out.ms D hD).1, (World.putObj_heap_other (fun e => HDs.out (by rw [← e]; exact hD))).trans (Hbx.out.ms D hD).2⟩) (HStep.out _ _ HE.out (by omega) Hrec.out.2)
    · refine ⟨_, hr.1, ?_⟩
      have hlow := low_put (B := W.heap.size) Z (.loop (R .exhausted (some .ret))) (show W.heap.size ≤ A2.heap.size + 1 by omega)
      have Hbx := Lib.hid (hbx.loop (r' := R .exhausted (some .ret)) hr.1)
      have Hrec := Lib.hid (hr.put (r' := R .exhausted (some .ret)) (by omega))
      have HE : Hid (StepE K t JJ Jx (Z.putObj (A2.heap.size + 1) (.loop (R .exhausted (some .ret))))) := Lib.hid (.inl ⟨s, Hok.out, hj, hag, HJ.out _ _ _ _ hjj (Out.of_low hlow), SwS.low hsw hlow Hlow.out⟩)
      generalize Z.putObj (A2.heap.size + 1) (.loop (R .exhausted (some .ret))) = Z2 at *
      clear hlow hbx hr hag hjj hsw
      gi_wp2_with fail
      refine ⟨by simp, .inl ⟨_, _, rfl, run_takeDeferred Hrec.out.2, ?_⟩⟩
      exact leaves_marks (B0 := W.heap.size) (StepE K t JJ Jx) HStep.out (fun A h => ⟨_, results_none rfl _ _ _, ⟨_, rfl⟩, h⟩) ds _ Hbx.out.nd (fun D hD => ⟨(Hbx.out.ms D hD).1, (World.putObj_heap_other (fun e => HDs.out (by rw [← e]; exact hD))).trans (Hbx.out.ms D hD).2⟩) (HStep.out _ _ HE.out (by omega) Hrec.out.2)
    · refine ⟨_, hr.1, ?_⟩
      have hlow := low_put (B := W.heap.size) Z (.loop (R .exhausted (some (.exit 1)))) (show W.heap.size ≤ A2.heap.size + 1 by omega)
      have hrec := hr.put (r' := R .exhausted (some (.exit 1))) (by omega)
      have Hbx := Lib.hid ((hbx.loop (r' := R .exhausted (some (.exit 1))) hr.1).mark hrec.2 (by omega) HDs.out)
      have HJn := Lib.hid (HN.out s _ Hok.out hj hag (HJ.out _ _ _ _ hjj (Out.of_low hlow)))
      have HSn : Hid (SwS (Z.putObj (A2.heap.size + 1) (.loop (R .exhausted (some (.exit 1))))) K ((s.n : Int) - s.n) (lst K.R s.xs s.f) ((s.next K.R).j : Int) (s.next K.R).xs (s.next K.R).ys) := Lib.hid (by
        have := SwS.low hsw hlow Hlow.out
        have e : (((s.next K.R).j : Nat) : Int) = (s.j : Int) + 1 := by show ((s.j + 1 : Nat) : Int) = _; omega
        rw [e]
        exact this)
      have HOk : Hid ((s.next K.R).Ok K.R t) := Lib.hid ⟨Hok.out.lap.next HR.out hag, by show s.j + 1 ≤ 100; omega⟩
      generalize Z.putObj (A2.heap.size + 1) (.loop (R .exhausted (some (.exit 1)))) = Z2 at *
      clear hlow hbx hr hag hjj hsw hrec
      gi_wp2_with fail
      exact Handed.intro (101 - (s.j + 1)) (by omega) (HJ'.out _ _ _ ⟨s.next K.R, A2.heap.size :: ds, _, _, _, _, _, _, _, _, _, _, _, _, _, _, _, _, _, _, _, _, _, _, _, _, _, _, _, _, _, _, _, _, _, _, rfl, rfl, HOk.out, HJn.out, HSn.out, Hbx.out⟩)
end Go.Proofs.Ytdhkfkfoibddnaa
