/- Rep8, Rep9, RpO, Et8, Game2d, Et9, EtS, RinP, Lg8, one after the other (what the laws reach of them). No conditions. -/
import Derived.Test.YtmngmbpdiaocjaaVz6
namespace Go.Proofs.Ytmngmbpdiaocjaa
open Go.Joins Go.ChangeShapes Go.WideShapes Go.ChangeAt Go.RowKit Go.Deep
set_option linter.unusedVariables false
set_option maxHeartbeats 8000000
set_option maxRecDepth 100000
/- Rep8 -/
def cntP (bp : Int) (nx ny : List Int) (ps : List Ps) : Nat := ps.countP (fun y => sameB y.xs nx y.ys ny y.pl bp)
theorem cntP_le (bp : Int) (nx ny : List Int) (ps : List Ps) : cntP bp nx ny ps ≤ ps.length := List.countP_le_length
theorem cntP_snoc (bp : Int) (nx ny : List Int) (ps : List Ps) (y : Ps) : cntP bp nx ny (ps ++ [y]) = cntP bp nx ny ps + (if sameB y.xs nx y.ys ny y.pl bp = true then 1 else 0) := by
 unfold cntP
 rw [List.countP_append]
 cases h : sameB y.xs nx y.ys ny y.pl bp <;> simp [h]
theorem cntP_next {bp : Int} {nx ny : List Int} {ps : List Ps} {k : Nat} {y : Ps} (h : ps[k]? = some y) {sb : Bool} (hs : sameB y.xs nx y.ys ny y.pl bp = sb) : cntP bp nx ny (ps.take (k + 1)) = cntP bp nx ny (ps.take k) + (if sb = true then 1 else 0) := by
 rw [List.take_add_one, h, ← hs]
 exact cntP_snoc _ _ _ _ _
def repV (f : Ps → Int → Option R7) (q : Ps) (ms : List Int) (bp : Int) (nx ny : List Int) : Int :=
 match runO f q ms with
 | none => 0
 | some rs => (cntP bp nx ny (q :: rs.map R7.ps) : Int)
theorem l08Rep_any (Jp Js Jc Jl : Int) (Jst Jsk Jre Jfe Jag : Bool) (Ja1 Ja2 : Option Addr) (Jan1 Jac1 Jan2 Jac2 : Nat) (Jap : Int) (Jm : Option Addr) (Jmn Jmc : Nat) (Jb1 Jb2 : Option Addr) (Jbn1 Jbc1 Jbn2 Jbc2 : Nat) (Jbp Jrg : Int) (sx sy ms nx ny : List Int) (gb : Nat) (w : World) (hg : GmAt w gb Jp Js Jc Jl Jst Jsk Jre Jfe Jag Ja1 Ja2 Jan1 Jac1 Jan2 Jac2 Jap Jm Jmn Jmc Jb1 Jb2 Jbn1 Jbc1 Jbn2 Jbc2 Jbp Jrg) (h : GamR w Ja1 Ja2 Jan1 Jan2 Jm Jmn Jb1 Jb2 Jbn1 Jbn2 sx sy ms nx ny) (hok : okG Jp Js Jc Jl Jst Jsk Jre Jfe Jag Jan1 Jan2 Jap sx sy ms Jbp nx ny Jrg = true) :
  Calls Try.prog 45 #[.pointer (some ⟨gb, 0, none⟩)] w (BelP (.int .i64 (repV (stp Jp Jc Jl Jst Jsk Jre Jfe Jag) ⟨Jap, sx, sy⟩ ms Jbp nx ny)) w) := by
 unfold okG at hok
 simp only [Bool.and_eq_true, decide_eq_true_eq] at hok
 obtain ⟨⟨⟨hk, h120⟩, -⟩, hrb⟩ := hok
 obtain ⟨-, -, e2, -, -⟩ := okP_parts hk
 subst e2
 have HOk := Lib.hid (show OkQ Jp Js Jc Jl Jst Jag Jan1 ⟨Jap, sx, sy⟩ from ⟨hk, h.s.l1, h.s.l2⟩)
 have Hlm := Lib.hid h.lm
 have h12 : Jmn ≤ 120 := by have := Hlm.out; omega
 have H := Lib.hid h
 have HS := Lib.hid (show GmB w gb Jp Js Jc Jl Jst Jsk Jre Jfe Jag Ja1 Ja2 Jan1 Jac1 2 Jac2 Jap Jm Jmn Jmc Jb1 Jb2 Jbn1 Jbc1 Jbn2 Jbc2 Jbp Jrg w from ⟨hg, Below.refl _ _⟩)
 obtain ⟨rs, hro⟩ : ∃ rs, runO (stp Jp Jc Jl Jst Jsk Jre Jfe Jag) ⟨Jap, sx, sy⟩ ms = some rs := by
  unfold runB at hrb
  cases e : runO (stp Jp Jc Jl Jst Jsk Jre Jfe Jag) ⟨Jap, sx, sy⟩ ms with
  | none => rw [e] at hrb; cases hrb
  | some rs => exact ⟨rs, rfl⟩
 have hV : repV (stp Jp Jc Jl Jst Jsk Jre Jfe Jag) ⟨Jap, sx, sy⟩ ms Jbp nx ny = (cntP Jbp nx ny ((⟨Jap, sx, sy⟩ : Ps) :: rs.map R7.ps) : Int) := by unfold repV; rw [hro]
 rw [hV]
 have Hro := Lib.hid hro
 clear hV hro hk h hg hrb
 have HRn : Hid (∀ u, GmB w gb Jp Js Jc Jl Jst Jsk Jre Jfe Jag Ja1 Ja2 Jan1 Jac1 2 Jac2 Jap Jm Jmn Jmc Jb1 Jb2 Jbn1 Jbc1 Jbn2 Jbc2 Jbp Jrg u → Calls Try.prog 41 #[.pointer (some ⟨gb, 0, none⟩), .pointer (some ⟨gb, 9, none⟩), .slice Jm Jmn Jmc] u (RunP (stp Jp Jc Jl Jst Jsk Jre Jfe Jag) ⟨Jap, sx, sy⟩ ms u)) := Lib.hid (fun u hu => l08Run_any Jp Js Jc Jl Jst Jsk Jre Jfe Jag Ja1 Ja2 Jan1 Jac1 Jac2 Jap sx sy ms gb Jm Jmn Jmc u hu.1.ru hu.1.p9 (H.out.s.below hu.2) (H.out.m.below hu.2) Hlm.out (by omega) HOk.out)
 have HTT : Hid (∀ u : World, GmB w gb Jp Js Jc Jl Jst Jsk Jre Jfe Jag Ja1 Ja2 Jan1 Jac1 2 Jac2 Jap Jm Jmn Jmc Jb1 Jb2 Jbn1 Jbc1 Jbn2 Jbc2 Jbp Jrg u → (gb < u.heap.size ∧ u.cell? ⟨gb, 12, none⟩ = some (.slice Jm Jmn Jmc)) ∧ Below w.heap.size w u) := Lib.hid (fun u h => gm_mv h)
 go_enter Try.func45, Try.ntmps45
 go_upto_region 1 with fail
 go_region_held3 (fun u => (gb < u.heap.size ∧ u.cell? ⟨gb, 12, none⟩ = some (.slice Jm Jmn Jmc)) ∧ Below w.heap.size w u) (first | with_reducible exact HTT.out _ HS.out | with_reducible exact HTT.out _ HS.out.drew)
  ((go_at_call 41; (with_reducible refine (HRn.out _ ?_).mono ?_); (first | with_reducible exact HS.out | with_reducible exact HS.out.drew); rintro e w6 ⟨v1, v2, L, gs, rfl, hL, hgn, hll, hle, hR, hb⟩; (first | with_reducible have HS := Lib.hid (HS.out.below hb) | with_reducible have HS := Lib.hid (HS.out.drew.below hb)); have HL := Lib.hid hL; have Hgn := Lib.hid hgn; have HR := Lib.hid (And.intro hR (And.intro hll hle)); clear hL hgn hR hb hll hle))
 obtain ⟨a2, c2, rfl⟩ := slice_own Hgn.out
 obtain ⟨g1, cp1, rfl⟩ := slice_some HL.out.own (by have := HR.out.2.1; omega)
 obtain ⟨hR, hll, hle⟩ := HR.out
 have hnL : L.length ≤ 121 := by have := Hlm.out; omega
 unfold RunR at hR
 rw [Hro.out] at hR
 obtain ⟨hR1, -⟩ := hR
 have HR1 := Lib.hid hR1
 obtain ⟨N, hN⟩ : ∃ N, N = L.length := ⟨_, rfl⟩
 have HN := Lib.hid hN
 rw [← hN] at hnL
 rw [← hN]
 generalize gs.length = n2 at *
 clear hll hle hR1 hN HR HRn HTT
 go_wp2_with fail
 go_loopw [5, 6] (fun n i wr => ∃ k : Nat, i = .int .i64 k ∧ n = .int .i64 (cntP Jbp nx ny ((L.map Prod.fst).take k)) ∧ k ≤ N ∧ Below w6.heap.size w6 wr) (fun _ i _ => N - (intOf i).toNat)
 case atStart => exact ⟨0, rfl, rfl, Nat.zero_le _, by first | exact Below.refl _ _ | exact below_dn (Below.refl _ _) _ | exact (Below.refl _ _).drew⟩
 case round =>
  obtain ⟨k, rfl, rfl, hkN, hbw⟩ := hrel
  have HSr := Lib.hid (HS.out.below hbw)
  have HLr := Lib.hid (HL.out.below hbw)
  have Hbw := Lib.hid hbw
  have hc1 : cntP Jbp nx ny ((L.map Prod.fst).take k) ≤ 121 := Nat.le_trans (cntP_le _ _ _ _) (by rw [List.length_take]; omega)
  clear hbw
  by_cases hlt : k < N
  ·obtain ⟨x, hx⟩ : ∃ x, L[k]? = some x := ⟨L[k]'(by rw [← HN.out]; exact hlt), List.getElem?_eq_getElem _⟩
   have HC := Lib.hid (fun o (ho : o < 3) => HLr.out.cell hx ho)
   have HI := Lib.hid (HLr.out.it x (List.mem_of_getElem? hx))
   have hx1 : (L.map Prod.fst)[k]? = some x.1 := by rw [List.getElem?_map, hx]; rfl
   have HSm : Hid (∀ q o, o = k * 3 → Calls Try.prog 48 #[.pointer (some ⟨g1, o, none⟩), .pointer (some ⟨gb, 13, none⟩)] (wr.drewN q) (Still (.bool (sameB x.1.xs nx x.1.ys ny x.1.pl Jbp)) (wr.drewN q))) := Lib.hid (fun q o ho => by
    subst ho
    have hgl : g1 < wr.heap.size := (own_lt HLr.out.own g1 rfl).2
    have kb := below_dn (Below.refl wr.heap.size wr) q
    exact l04SameO_any (some ⟨x.2.g1, 0, none⟩) (some ⟨x.2.g2, 0, none⟩) x.2.n1 x.2.k1 2 x.2.k2 x.1.pl Jb1 Jb2 Jbn1 Jbc1 Jbn2 Jbc2 Jbp x.1.xs x.1.ys nx ny g1 (k * 3) gb (wr.drewN q) (PoO.below (v := wr.drewN q) (u := wr) ⟨hgl, HC.out 0 (by omega), HC.out 1 (by omega), HC.out 2 (by omega)⟩ kb) (HSr.out.below kb).1.s13 (HI.out.o.r.drewN q) ((H.out.n.below HSr.out.2).drewN q))
   obtain ⟨sb, hsb⟩ : ∃ sb, sameB x.1.xs nx x.1.ys ny x.1.pl Jbp = sb := ⟨_, rfl⟩
   rw [hsb] at HSm
   have HNx := Lib.hid (cntP_next hx1 hsb)
   obtain ⟨cn, hcn⟩ : ∃ cn, cntP Jbp nx ny ((L.map Prod.fst).take k) = cn := ⟨_, rfl⟩
   rw [hcn] at HNx hc1
   rw [hcn]
   have k0 : (0 : Int) ≤ (k : Int) := by omega
   have kq : (k : Int) < (N : Int) := by omega
   have c0 : (0 : Int) ≤ (cn : Int) := by omega
   have cq : (cn : Int) ≤ 121 := by omega
   clear hx hx1 hsb hcn
   cases sb
   all_goals
    go_wp2_with fail
    go_quiet ((go_at_call 48; with_reducible exact quiet_s (HSm.out _ _ (by simp)) ⟨_, rfl⟩))
    go_wp2_with fail
    go_roundw
    case rel => exact ⟨k + 1, by go_num, by rw [HNx.out]; go_num, by omega, by first | exact Hbw.out | exact below_dn Hbw.out _⟩
    case measure => simp [intOf]; omega
  ·obtain rfl : k = N := by omega
   rw [List.take_of_length_le (by rw [List.length_map, ← HN.out]; exact Nat.le_refl _)] at hc1
   rw [List.take_of_length_le (by rw [List.length_map, ← HN.out]; exact Nat.le_refl _)]
   obtain ⟨cn, hcn⟩ : ∃ cn : Int, (cntP Jbp nx ny (L.map Prod.fst) : Int) = cn := ⟨_, rfl⟩
   rw [hcn]
   go_wp2_with fail
   go_ret
   exact ⟨by rw [← HR1.out, hcn]; rfl, by first | exact HSr.out.2 | exact below_dn HSr.out.2 _⟩
/- Rep9 -/
section
variable {w u v : World} {pb : Nat} {p s c l : Int} {st sk re fe ag : Bool} {n1 b1 e1 b2 e2 : Nat} {sp : Int} {sx sy : List Int} {v1 v2 : Value} {ms : List Int} {L : List (T21 × Q21)} {h1 d1 h2 d2 : Nat} {q : Ps} {rg : Int} {R : List (Nat × List Int)}
theorem PlK.rgL {g n cap : Nat} (h : PlK w pb p s c l st sk re fe ag n1 b1 e1 b2 e2 sp sx sy v1 (.slice (some ⟨g, 0, none⟩) n cap) ms L h1 d1 h2 d2 q rg R u) {i : Nat} {x : T21 × Q21} (hi : L[i]? = some x) : u.rangeAt g (i * 21) (cells21 p s c l st sk re fe ag n1 x) := by
 intro j y hj
 have hj21 : j < 21 := (List.getElem?_eq_some_iff.1 hj).1
 obtain ⟨h1, ⟨e, -⟩ | ⟨g', cap', cur, hv, hb, hg, hn, hc, hs, ht⟩⟩ := h.tu
 ·cases e
 ·simp only [Value.slice.injEq, Option.some.injEq, Addr.mk.injEq] at hv
  obtain ⟨⟨rfl, -⟩, -, rfl⟩ := hv
  have e := flat21_at (p := p) (s := s) (c := c) (l := l) (st := st) (sk := sk) (re := re) (fe := fe) (ag := ag) (n1 := n1) L i x hi j hj21
  rw [← ht, List.getElem?_take] at e
  have hL : i < L.length := (List.getElem?_eq_some_iff.1 hi).1
  rw [if_pos (by omega), hj] at e
  rw [← e]
  simp [World.cell?, hg]
theorem PlK.bef (h : PlK w pb p s c l st sk re fe ag n1 b1 e1 b2 e2 sp sx sy v1 v2 ms L h1 d1 h2 d2 q rg R u) {x : T21 × Q21} (hx : x ∈ L) : PosR u (some ⟨x.2.a1, 0, none⟩) (some ⟨x.2.a2, 0, none⟩) n1 2 x.1.q.xs x.1.q.ys := by
 have i := h.it x hx
 exact ⟨(h.rws _ i.a1).o.row, (h.rws _ i.a2).o.row, i.l1, i.l2⟩
end
def B21 (w : World) (M : Nat) (a1 : Option Addr) (n1 ca1 : Nat) (a2 : Option Addr) (ca2 : Nat) (pl : Int) (u : World) : Prop := M < u.heap.size ∧ u.cell? ⟨M, 14, none⟩ = some (.slice a1 n1 ca1) ∧ u.cell? ⟨M, 15, none⟩ = some (.slice a2 2 ca2) ∧ u.cell? ⟨M, 16, none⟩ = some (.int .i64 pl)
theorem B21.below {w u v : World} {M : Nat} {a1 : Option Addr} {n1 ca1 : Nat} {a2 : Option Addr} {ca2 : Nat} {pl : Int} (h : B21 w M a1 n1 ca1 a2 ca2 pl u) (k : Below u.heap.size u v) : B21 w M a1 n1 ca1 a2 ca2 pl v := by
 obtain ⟨h0, h1, h2, h3⟩ := h
 exact ⟨Nat.lt_of_lt_of_le h0 k.size, (k.cell (p := ⟨M, 14, none⟩) h0).trans h1, (k.cell (p := ⟨M, 15, none⟩) h0).trans h2, (k.cell (p := ⟨M, 16, none⟩) h0).trans h3⟩
theorem b21_put {wr X : World} (p s c l : Int) (st sk re fe ag : Bool) {n1 : Nat} {x : T21 × Q21} (T : TypeId) (hX : X = (wr.alloc (.cells zero21.toArray T)).setCells wr.heap.size 0 (cells21 p s c l st sk re fe ag n1 x)) :
  B21 wr wr.heap.size (some ⟨x.2.a1, 0, none⟩) n1 x.2.ca1 (some ⟨x.2.a2, 0, none⟩) x.2.ca2 x.1.q.pl X ∧ Below wr.heap.size wr X := by
 have hr := World.rangeAt_setCells_same (wr.alloc (.cells zero21.toArray T)) wr.heap.size 0 (cells21 p s c l st sk re fe ag n1 x) (thN_new wr T).th
 rw [← hX] at hr
 exact ⟨⟨by rw [hX, size_scg]; simp, hr 14 _ rfl, hr 15 _ rfl, hr 16 _ rfl⟩, by rw [hX]; exact below_scg wr.heap.size (Nat.le_refl _) _ 0 (al1 wr _)⟩
theorem repeats_any {w : World} {pb : Nat} (p s c l : Int) (st sk re fe ag : Bool) {n1 b1 e1 b2 e2 : Nat} {sp : Int} {sx sy : List Int} {v1 v2 : Value} {ms : List Int} {L : List (T21 × Q21)} {h1 d1 h2 d2 : Nat} {q : Ps} {rg : Int} {R : List (Nat × List Int)} (u : World) (h : PlK w pb p s c l st sk re fe ag n1 b1 e1 b2 e2 sp sx sy v1 v2 ms L h1 d1 h2 d2 q rg R u) (hl : L.length ≤ 120) :
  Calls Try.prog 46 #[.pointer (some ⟨pb, 0, none⟩)] u (BelP (.int .i64 (1 + (cntP q.pl q.xs q.ys (L.map (fun x => x.1.q)) : Int))) u) := by
 obtain ⟨ta, tc, hv2⟩ := slice_own h.tu
 subst hv2
 have HP := Lib.hid h
 have t17 := h.tv
 obtain ⟨N, hN⟩ : ∃ N, N = L.length := ⟨_, rfl⟩
 have HN := Lib.hid hN
 rw [← hN] at hl t17
 clear h hN
 go_enter Try.func46, Try.ntmps46
 go_wp2_with fail
 go_loopw [3, 11] (fun n i wr => ∃ k : Nat, i = .int .i64 k ∧ n = .int .i64 (1 + (cntP q.pl q.xs q.ys ((L.map (fun x => x.1.q)).take k) : Int)) ∧ k ≤ N ∧ Below u.heap.size u wr) (fun _ i _ => N - (intOf i).toNat)
 case atStart => exact ⟨0, rfl, rfl, Nat.zero_le _, by first | exact Below.refl _ _ | exact below_dn (Below.refl _ _) _ | exact (Below.refl _ _).drew⟩
 case round =>
  obtain ⟨k, rfl, rfl, hkN, hbw⟩ := hrel
  have HPr := Lib.hid (HP.out.below hbw)
  have Hbw := Lib.hid hbw
  have hc1 : cntP q.pl q.xs q.ys ((L.map (fun x => x.1.q)).take k) ≤ 120 := Nat.le_trans (cntP_le _ _ _ _) (by rw [List.length_take]; omega)
  clear hbw t17
  by_cases hlt : k < N
  ·obtain ⟨x, hx⟩ : ∃ x, L[k]? = some x := ⟨L[k]'(by rw [← HN.out]; exact hlt), List.getElem?_eq_getElem _⟩
   obtain ⟨g, c', hg⟩ := slice_some HPr.out.tu (by have := HN.out; omega)
   simp only [Value.slice.injEq] at hg
   obtain ⟨rfl, -, rfl⟩ := hg
   have hx1 : (L.map (fun x => x.1.q))[k]? = some x.1.q := by rw [List.getElem?_map, hx]; rfl
   have HRg : Hid (∀ o, o = k * 21 → wr.rangeAt g o (cells21 p s c l st sk re fe ag n1 x)) := Lib.hid (fun o ho => by rw [ho]; exact HPr.out.rgL hx)
   have HOne := Lib.hid (all_oneCell_toArray (cells21_one (p := p) (s := s) (c := c) (l := l) (st := st) (sk := sk) (re := re) (fe := fe) (ag := ag) (n1 := n1) x))
   have HTh := Lib.hid (thN_new wr 79)
   have HBf := Lib.hid (List.mem_of_getElem? hx)
   obtain ⟨sb, hsb⟩ : ∃ sb, sameB x.1.q.xs q.xs x.1.q.ys q.ys x.1.q.pl q.pl = sb := ⟨_, rfl⟩
   have HNx := Lib.hid (cntP_next hx1 hsb)
   have Hsb := Lib.hid hsb
   obtain ⟨cn, hcn⟩ : ∃ cn, cntP q.pl q.xs q.ys ((L.map (fun x => x.1.q)).take k) = cn := ⟨_, rfl⟩
   rw [hcn] at HNx hc1
   rw [hcn]
   have k0 : (0 : Int) ≤ (k : Int) := by omega
   have kq : (k : Int) < (N : Int) := by omega
   have c0 : (0 : Int) ≤ (cn : Int) := by omega
   have cq : (cn : Int) ≤ 120 := by omega
   clear hx hx1 hsb hcn
   go_upto_region 5 with (first | (refine wpList_load_mid rfl 79 _ rfl g _ rfl _ _ (HRg.out _ (by simp)) Try.underlying79 rfl (by kernel_rfl) ?_) | (refine wpList_store_mid rfl 79 _ _ rfl wr.heap.size 0 (cells21 p s c l st sk re fe ag n1 x).toArray rfl rfl HTh.out.th (by kernel_rfl) HOne.out ?_))
   generalize hX : World.setCells _ _ _ _ = X
   have hM := b21_put _ _ _ _ _ _ _ _ _ 79 hX.symm
   have HM := Lib.hid hM.1
   have HPX := Lib.hid (HPr.out.below hM.2)
   have HBX := Lib.hid (Below.trans Hbw.out (hM.2.mono Hbw.out.size))
   generalize wr.heap.size = M at *
   clear hX hM
   have HTT : Hid (∀ v : World, B21 wr M (some ⟨x.2.a1, 0, none⟩) n1 x.2.ca1 (some ⟨x.2.a2, 0, none⟩) x.2.ca2 x.1.q.pl v → PlK w pb p s c l st sk re fe ag n1 b1 e1 b2 e2 sp sx sy v1 (.slice (some ⟨g, 0, none⟩) L.length tc) ms L h1 d1 h2 d2 q rg R v → (M < v.heap.size ∧ v.cell? ⟨M, 14, none⟩ = some (.slice (some ⟨x.2.a1, 0, none⟩) n1 x.2.ca1) ∧ v.cell? ⟨M, 15, none⟩ = some (.slice (some ⟨x.2.a2, 0, none⟩) 2 x.2.ca2) ∧ v.cell? ⟨M, 16, none⟩ = some (.int .i64 x.1.q.pl)) ∧ (pb < v.heap.size ∧ v.cell? ⟨pb, 13, none⟩ = some (.slice (some ⟨h1, 0, none⟩) n1 d1) ∧ v.cell? ⟨pb, 14, none⟩ = some (.slice (some ⟨h2, 0, none⟩) 2 d2) ∧ v.cell? ⟨pb, 15, none⟩ = some (.int .i64 q.pl))) := Lib.hid (fun v h k => ⟨h, k.now⟩)
   have HSm : Hid (∀ v : World, PlK w pb p s c l st sk re fe ag n1 b1 e1 b2 e2 sp sx sy v1 (.slice (some ⟨g, 0, none⟩) L.length tc) ms L h1 d1 h2 d2 q rg R v → Calls Try.prog 52 #[.agg #[.slice (some ⟨x.2.a1, 0, none⟩) n1 x.2.ca1, .slice (some ⟨x.2.a2, 0, none⟩) 2 x.2.ca2, .int .i64 x.1.q.pl], .agg #[.slice (some ⟨h1, 0, none⟩) n1 d1, .slice (some ⟨h2, 0, none⟩) 2 d2, .int .i64 q.pl]] v fun e w' => e = .returned (.bool sb) ∧ Below v.heap.size v w') := Lib.hid (fun v k => by rw [← Hsb.out]; exact implSame_any _ _ _ _ _ _ _ _ _ _ _ _ _ _ _ _ _ _ v (k.bef HBf.out) k.nr)
   cases sb
   all_goals
    go_region_held3 (fun v => (M < v.heap.size ∧ v.cell? ⟨M, 14, none⟩ = some (.slice (some ⟨x.2.a1, 0, none⟩) n1 x.2.ca1) ∧ v.cell? ⟨M, 15, none⟩ = some (.slice (some ⟨x.2.a2, 0, none⟩) 2 x.2.ca2) ∧ v.cell? ⟨M, 16, none⟩ = some (.int .i64 x.1.q.pl)) ∧ (pb < v.heap.size ∧ v.cell? ⟨pb, 13, none⟩ = some (.slice (some ⟨h1, 0, none⟩) n1 d1) ∧ v.cell? ⟨pb, 14, none⟩ = some (.slice (some ⟨h2, 0, none⟩) 2 d2) ∧ v.cell? ⟨pb, 15, none⟩ = some (.int .i64 q.pl))) (first | with_reducible exact HTT.out _ HM.out HPX.out | with_reducible exact HTT.out _ (HM.out.below (Below.refl _ _).drew) HPX.out.drew)
     ((go_at_call 52; (with_reducible refine (HSm.out _ ?_).mono ?_); (first | with_reducible exact HPX.out | with_reducible exact HPX.out.drew); rintro e w6 ⟨rfl, hb⟩; (first | with_reducible have HM := Lib.hid (HM.out.below hb) | with_reducible have HM := Lib.hid ((HM.out.below (Below.refl _ _).drew).below hb)); (first | with_reducible have HPX := Lib.hid (HPX.out.below hb) | with_reducible have HPX := Lib.hid (HPX.out.drew.below hb)); (first | with_reducible have HBX := Lib.hid (Below.trans HBX.out (hb.mono HBX.out.size)) | with_reducible have HBX := Lib.hid (Below.trans HBX.out.drew (hb.mono HBX.out.drew.size))); clear hb))
    go_wp2_with fail
    go_roundw
    case rel => exact ⟨k + 1, by go_num, by rw [HNx.out]; go_num, by omega, HBX.out⟩
    case measure => simp [intOf]; omega
  ·obtain rfl : k = N := by omega
   rw [List.take_of_length_le (by rw [List.length_map, ← HN.out]; exact Nat.le_refl _)] at hc1
   rw [List.take_of_length_le (by rw [List.length_map, ← HN.out]; exact Nat.le_refl _)]
   obtain ⟨cn, hcn⟩ : ∃ cn : Int, (cntP q.pl q.xs q.ys (L.map (fun x => x.1.q)) : Int) = cn := ⟨_, rfl⟩
   rw [hcn]
   go_wp2_with fail
   go_ret
   exact ⟨by rw [hcn]; rfl, by first | exact Hbw.out | exact below_dn Hbw.out _⟩
/- RpO -/
theorem PlK.move {w u : World} {pb : Nat} {p s c l : Int} {st sk re fe ag : Bool} {n1 b1 e1 b2 e2 : Nat} {sp : Int} {sx sy : List Int} {v1 v2 : Value} {ms : List Int} {L : List (T21 × Q21)} {h1 d1 h2 d2 : Nat} {q : Ps} {rg : Int} {R : List (Nat × List Int)}
  (h : PlK w pb p s c l st sk re fe ag n1 b1 e1 b2 e2 sp sx sy v1 v2 ms L h1 d1 h2 d2 q rg R u) (T : TypeId) (X : World) (hX : X = (u.alloc (.cells #[.int .i64 0, .int .i64 0, .bool false, .bool false, .bool false, .bool false, .bool false, .int .i64 0, .int .i64 0, .slice none 0 0, .slice none 0 0, .int .i64 0, .slice none 0 0, .slice none 0 0, .slice none 0 0, .int .i64 0, .int .i64 0, .slice none 0 0] T)).setCells u.heap.size 0 (vals18 p s c l st sk re fe ag n1 b1 e1 b2 e2 sp v1 v2 h1 d1 h2 d2 q.pl rg)) :
  PlK w u.heap.size p s c l st sk re fe ag n1 b1 e1 b2 e2 sp sx sy v1 v2 ms L h1 d1 h2 d2 q rg R X ∧ Below u.heap.size u X := by
 have hr := World.rangeAt_setCells_same (u.alloc (.cells #[.int .i64 0, .int .i64 0, .bool false, .bool false, .bool false, .bool false, .bool false, .int .i64 0, .int .i64 0, .slice none 0 0, .slice none 0 0, .int .i64 0, .slice none 0 0, .slice none 0 0, .slice none 0 0, .int .i64 0, .int .i64 0, .slice none 0 0] T)) u.heap.size 0 (vals18 p s c l st sk re fe ag n1 b1 e1 b2 e2 sp v1 v2 h1 d1 h2 d2 q.pl rg) (there18 u T)
 rw [← hX] at hr
 have hbe : Below u.heap.size u X := by rw [hX]; exact below_scg u.heap.size (Nat.le_refl _) _ 0 (al1 u _)
 have hsz : X.heap.size = u.heap.size + 1 := by rw [hX, size_scg]; simp
 have hfr : ∀ o, X.frozen? ⟨u.heap.size, o, none⟩ = false := fun o => by rw [hX, fr_sc]; go_simp
 refine ⟨⟨⟨by omega, hr 0 _ rfl, hr 1 _ rfl, hr 2 _ rfl, hr 3 _ rfl, hr 4 _ rfl, hr 5 _ rfl, hr 6 _ rfl, hr 7 _ rfl, hr 8 _ rfl, hr 9 _ rfl, hr 10 _ rfl, hr 11 _ rfl, hr 12 _ rfl, hr 13 _ rfl, hr 14 _ rfl, hr 15 _ rfl, hr 16 _ rfl, hfr⟩, hr 17 _ rfl, own_keepS h.mo hbe, own_keepS h.tu hbe, fun y hy => ?_, h.sv, fun i hi => ?_, fun i hi => ?_, h.it, h.s1, h.s2, h.y1, h.y2, h.di, h.m1, h.m2, h.m3, h.m4, h.k1, h.k2, h.k3, h.k4, h.be.size, h.be.trans (hbe.mono h.be.size)⟩, hbe⟩
 ·have r := h.rws y hy
  have := r.lt
  exact ⟨r.o.below hbe, by omega, by omega, r.n1, r.n2⟩
 ·have := (own_lt h.mo i hi).2
  omega
 ·have := (own_lt h.tu i hi).2
  omega
theorem sameB_parts {xs nx ys ny : List Int} {pl bp : Int} (h : sameB xs nx ys ny pl bp = true) : xs = nx ∧ ys = ny ∧ pl = bp := by
 unfold sameB at h
 simp only [Bool.and_eq_true, decide_eq_true_eq, beq_iff_eq] at h
 exact ⟨h.1.1, h.1.2, h.2⟩
theorem okG_parts {p s c l : Int} {st sk re fe ag : Bool} {n1 n2 : Nat} {pp : Int} {xs ys ms : List Int} {bp : Int} {nx ny : List Int} {rg : Int} (h : okG p s c l st sk re fe ag n1 n2 pp xs ys ms bp nx ny rg = true) :
  okP (okR p s c l st ag) p n1 n2 pp xs ys = true ∧ ms.length ≤ 120 ∧ (-1 ≤ rg ∧ rg ≤ 1) ∧ ∃ rs, runO (stp p c l st sk re fe ag) ⟨pp, xs, ys⟩ ms = some rs ∧ (lastP ⟨pp, xs, ys⟩ rs).xs = nx ∧ (lastP ⟨pp, xs, ys⟩ rs).ys = ny ∧ (lastP ⟨pp, xs, ys⟩ rs).pl = bp := by
 unfold okG at h
 simp only [Bool.and_eq_true, decide_eq_true_eq] at h
 obtain ⟨⟨⟨h1, h2⟩, h3⟩, h4⟩ := h
 refine ⟨h1, h2, h3, ?_⟩
 unfold runB at h4
 cases e : runO (stp p c l st sk re fe ag) ⟨pp, xs, ys⟩ ms with
 | none => rw [e] at h4; cases h4
 | some rs =>
  rw [e] at h4
  exact ⟨rs, rfl, sameB_parts h4⟩
theorem rep_eq {p s c l : Int} {st sk re fe ag : Bool} {n1 n2 : Nat} {pp : Int} {xs ys ms : List Int} {bp : Int} {nx ny : List Int} {rg : Int} {rs : List R7} {q : Ps} {qs : List Ps} (h : okG p s c l st sk re fe ag n1 n2 pp xs ys ms bp nx ny rg = true) (hro : runO (stp p c l st sk re fe ag) ⟨pp, xs, ys⟩ ms = some rs) (hq : q = lastP ⟨pp, xs, ys⟩ rs) (hL : qs ++ [q] = (⟨pp, xs, ys⟩ : Ps) :: rs.map R7.ps) :
  repV (stp p c l st sk re fe ag) ⟨pp, xs, ys⟩ ms bp nx ny = 1 + (cntP q.pl q.xs q.ys qs : Int) := by
 obtain ⟨-, -, -, rs', e1, e2, e3, e4⟩ := okG_parts h
 rw [hro] at e1
 cases e1
 rw [← hq] at e2 e3 e4
 unfold repV
 rw [hro]
 show ((cntP bp nx ny (_ :: rs.map R7.ps) : Nat) : Int) = _
 rw [← hL, ← e2, ← e3, ← e4, cntP_snoc, if_pos (by unfold sameB; simp)]
 omega
def RpO (p s c l : Int) (st sk re fe ag : Bool) (n1 n2 : Nat) (pp : Int) (xs ys ms : List Int) (bp : Int) (nx ny : List Int) (rg : Int) : Value :=
 .tuple #[.int .i64 (if okG p s c l st sk re fe ag n1 n2 pp xs ys ms bp nx ny rg = true then repV (stp p c l st sk re fe ag) ⟨pp, xs, ys⟩ ms bp nx ny else 0), .int .i64 (if okG p s c l st sk re fe ag n1 n2 pp xs ys ms bp nx ny rg = true then 0 else 1)]
theorem specRO_any (Jp Js Jc Jl : Int) (Jst Jsk Jre Jfe Jag : Bool) (Ja1 Ja2 : Option Addr) (Jan1 Jac1 Jan2 Jac2 : Nat) (Jap : Int) (Jm : Option Addr) (Jmn Jmc : Nat) (Jb1 Jb2 : Option Addr) (Jbn1 Jbc1 Jbn2 Jbc2 : Nat) (Jbp Jrg : Int) (sx sy ms nx ny : List Int) (w : World) (h : GamR w Ja1 Ja2 Jan1 Jan2 Jm Jmn Jb1 Jb2 Jbn1 Jbn2 sx sy ms nx ny) :
  Calls Try.prog 29 #[.agg #[.int .i64 Jp, .int .i64 Js, .bool Jst, .bool Jsk, .bool Jre, .bool Jfe, .bool Jag, .int .i64 Jc, .int .i64 Jl, .slice Ja1 Jan1 Jac1, .slice Ja2 Jan2 Jac2, .int .i64 Jap, .slice Jm Jmn Jmc, .slice Jb1 Jbn1 Jbc1, .slice Jb2 Jbn2 Jbc2, .int .i64 Jbp, .int .i64 Jrg]] w (BelP (RpO Jp Js Jc Jl Jst Jsk Jre Jfe Jag Jan1 Jan2 Jap sx sy ms Jbp nx ny Jrg) w) := by
 have HB := Lib.hid (gmb_new Jp Js Jc Jl Jst Jsk Jre Jfe Jag Ja1 Ja2 Jan1 Jac1 Jan2 Jac2 Jap Jm Jmn Jmc Jb1 Jb2 Jbn1 Jbc1 Jbn2 Jbc2 Jbp Jrg w 34)
 have HC := Lib.hid (l08Ok_any Jp Js Jc Jl Jst Jsk Jre Jfe Jag Ja1 Ja2 Jan1 Jac1 Jan2 Jac2 Jap Jm Jmn Jmc Jb1 Jb2 Jbn1 Jbc1 Jbn2 Jbc2 Jbp Jrg sx sy ms nx ny w.heap.size _ HB.out.1 (h.below HB.out.2))
 have H := Lib.hid h
 unfold RpO
 clear h
 cases hok : okG Jp Js Jc Jl Jst Jsk Jre Jfe Jag Jan1 Jan2 Jap sx sy ms Jbp nx ny Jrg
 ·rw [hok] at HC
  clear hok
  go_enter Try.func29, Try.ntmps29
  go_wp2_with fail
  refine HC.out.mono ?_
  rintro e u ⟨rfl, hb⟩
  have HB := Lib.hid (HB.out.below hb)
  clear hb
  go_wp2_with fail
  go_ret2
  exact ⟨rfl, HB.out.2⟩
 ·rw [hok] at HC
  have Hok := Lib.hid hok
  clear hok
  go_enter Try.func29, Try.ntmps29
  go_wp2_with fail
  refine HC.out.mono ?_
  rintro e u ⟨rfl, hb⟩
  have HB := Lib.hid (HB.out.below hb)
  clear hb
  go_wp2_with fail
  refine (l08Rep_any Jp Js Jc Jl Jst Jsk Jre Jfe Jag Ja1 Ja2 Jan1 Jac1 Jan2 Jac2 Jap Jm Jmn Jmc Jb1 Jb2 Jbn1 Jbc1 Jbn2 Jbc2 Jbp Jrg sx sy ms nx ny w.heap.size u HB.out.1 (H.out.below HB.out.2) Hok.out).mono ?_
  rintro e u2 ⟨rfl, hb⟩
  have HB := Lib.hid (HB.out.below hb)
  clear hb
  go_wp2_with fail
  go_ret2
  exact ⟨rfl, HB.out.2⟩
theorem implRO_any (Jp Js Jc Jl : Int) (Jst Jsk Jre Jfe Jag : Bool) (Ja1 Ja2 : Option Addr) (Jan1 Jac1 Jan2 Jac2 : Nat) (Jap : Int) (Jm : Option Addr) (Jmn Jmc : Nat) (Jb1 Jb2 : Option Addr) (Jbn1 Jbc1 Jbn2 Jbc2 : Nat) (Jbp Jrg : Int) (sx sy ms nx ny : List Int) (w : World) (h : GamR w Ja1 Ja2 Jan1 Jan2 Jm Jmn Jb1 Jb2 Jbn1 Jbn2 sx sy ms nx ny) :
  Calls Try.prog 30 #[.agg #[.int .i64 Jp, .int .i64 Js, .bool Jst, .bool Jsk, .bool Jre, .bool Jfe, .bool Jag, .int .i64 Jc, .int .i64 Jl, .slice Ja1 Jan1 Jac1, .slice Ja2 Jan2 Jac2, .int .i64 Jap, .slice Jm Jmn Jmc, .slice Jb1 Jbn1 Jbc1, .slice Jb2 Jbn2 Jbc2, .int .i64 Jbp, .int .i64 Jrg]] w (BelP (RpO Jp Js Jc Jl Jst Jsk Jre Jfe Jag Jan1 Jan2 Jap sx sy ms Jbp nx ny Jrg) w) := by
 have HB := Lib.hid (gmb_new Jp Js Jc Jl Jst Jsk Jre Jfe Jag Ja1 Ja2 Jan1 Jac1 Jan2 Jac2 Jap Jm Jmn Jmc Jb1 Jb2 Jbn1 Jbc1 Jbn2 Jbc2 Jbp Jrg w 34)
 have HRg := Lib.hid (GmAt.range HB.out.1)
 have HC := Lib.hid (replay_any Jp Js Jc Jl Jst Jsk Jre Jfe Jag Ja1 Ja2 Jan1 Jac1 Jan2 Jac2 Jap Jm Jmn Jmc Jb1 Jb2 Jbn1 Jbc1 Jbn2 Jbc2 Jbp Jrg sx sy ms nx ny _ (h.below HB.out.2))
 unfold RpO
 clear h
 cases hok : okG Jp Js Jc Jl Jst Jsk Jre Jfe Jag Jan1 Jan2 Jap sx sy ms Jbp nx ny Jrg
 ·rw [hok] at HC
  clear hok
  go_enter Try.func30, Try.ntmps30
  go_wp2_with (refine wpList_load_mid rfl 34 _ rfl w.heap.size 0 rfl _ _ HRg.out Try.underlying34 rfl (by kernel_rfl) ?_)
  refine HC.out.mono ?_
  intro e u hq
  obtain ⟨cs, hc1, hc2, rfl, hb⟩ := hq.d
  have HCs := Lib.hid (And.intro hc1 hc2)
  have HB := Lib.hid (HB.out.below hb)
  clear hq hb hc1 hc2 HRg
  go_wp2_with (refine wpList_store_mid rfl 58 _ _ rfl u.heap.size 0 cs.toArray rfl rfl (by rw [show cs.toArray.size = 18 from by simpa using HCs.out.1]; exact there18 u 58) (by rw [show cs.toArray.size = 18 from by simpa using HCs.out.1]; kernel_rfl) HCs.out.2 ?_)
  go_ret2
  exact ⟨rfl, OnW.of9 HB.out.2 (below_scg u.heap.size (Nat.le_refl _) cs 0 (al1 u _))⟩
 ·rw [hok] at HC
  have Hok := Lib.hid hok
  clear hok
  go_enter Try.func30, Try.ntmps30
  go_wp2_with (refine wpList_load_mid rfl 34 _ rfl w.heap.size 0 rfl _ _ HRg.out Try.underlying34 rfl (by kernel_rfl) ?_)
  refine HC.out.mono ?_
  intro e u hq
  unfold RpP at hq
  rw [if_pos rfl] at hq
  obtain ⟨pb, b1, e1, b2, e2, v1, v2, L, h1, d1, h2, d2, q, R, rs, rfl, hP, hro, hq1, hL1, hL2⟩ := hq
  have HE := Lib.hid (rep_eq Hok.out hro hq1 hL2)
  obtain ⟨va, vc, rfl⟩ := slice_own hP.mo
  obtain ⟨ta, tc, rfl⟩ := slice_own hP.tu
  have hLn : L.length ≤ 120 := by
   have e1 := runO_len hro
   have e2 := congrArg List.length hL1
   rw [List.length_map] at e2
   have e3 := (okG_parts Hok.out).2.1
   omega
  have HLn := Lib.hid hLn
  have HP := Lib.hid hP
  have HB := Lib.hid (HB.out.2.trans (hP.be.mono HB.out.2.size))
  obtain ⟨cs, hcs⟩ : ∃ cs, cs = vals18 Jp Js Jc Jl Jst Jsk Jre Jfe Jag Jan1 b1 e1 b2 e2 Jap (.slice va ms.length vc) (.slice ta L.length tc) h1 d1 h2 d2 q.pl Jrg := ⟨_, rfl⟩
  have HCs := Lib.hid (show cs.length = 18 ∧ cs.toArray.all (·.oneCell') = true from by rw [hcs]; exact ⟨rfl, vals18_one _ _ _ _ _ _ _ _ _ _ _ _ _ _ _ _ _ _ _ _ _ _ _ _ _ _ _⟩)
  rw [← hcs]
  have Hcs := Lib.hid hcs
  clear hcs
  clear hP hro hq1 hL1 hL2 hLn HRg HC
  go_wp2_with (refine wpList_store_mid rfl 58 _ _ rfl u.heap.size 0 cs.toArray rfl rfl (by rw [show cs.toArray.size = 18 from by simpa using HCs.out.1]; exact there18 u 58) (by rw [show cs.toArray.size = 18 from by simpa using HCs.out.1]; kernel_rfl) HCs.out.2 ?_)
  generalize hX : World.setCells _ _ _ _ = X
  have hM := HP.out.move 58 X (by rw [← Hcs.out]; exact hX.symm)
  have HM := Lib.hid hM.1
  have HBX := Lib.hid (OnW.of9 HB.out hM.2)
  have HRp := Lib.hid (repeats_any _ _ _ _ _ _ _ _ _ X hM.1 HLn.out)
  generalize u.heap.size = M at *
  clear hX hM HP HB HM Hcs HCs
  refine HRp.out.mono ?_
  rintro e u2 ⟨rfl, hb⟩
  have HBX := Lib.hid (OnW.of9 HBX.out hb)
  clear hb
  go_wp2_with fail
  go_ret2
  exact ⟨by rw [HE.out]; rfl, HBX.out⟩
/- Et8 -/
theorem nvs_take (xs : List Int) {k : Nat} {y : Int} (h : xs[k]? = some y) : nvs (xs.take (k + 1)) = nvs (xs.take k) ++ nvs [y] := by
 rw [List.take_add_one, h, nvs_app]
 rfl
theorem run_all {p s c l : Int} {st sk re fe ag : Bool} {n1 : Nat} : ∀ {ms : List Int} {q : Ps} {rs : List R7}, OkQ p s c l st ag n1 q → runO (stp p c l st sk re fe ag) q ms = some rs → ∀ y ∈ q :: rs.map R7.ps, OkQ p s c l st ag n1 y
 | [], q, rs, h, hr => by
  cases hr
  intro y hy
  simp only [List.map_nil, List.mem_cons, List.not_mem_nil, or_false] at hy
  rw [hy]
  exact h
 | a :: ms, q, rs, h, hr => by
  unfold runO at hr
  cases hf : stp p c l st sk re fe ag q a with
  | none => rw [hf] at hr; cases hr
  | some r =>
   rw [hf] at hr
   simp only at hr
   cases hr2 : runO (stp p c l st sk re fe ag) r.ps ms with
   | none => rw [hr2] at hr; cases hr
   | some rs2 =>
    rw [hr2] at hr
    cases hr
    intro y hy
    rcases List.mem_cons.1 hy with rfl | hy
    ·exact h
    ·exact run_all (stp_ok h hf) hr2 y hy
theorem run_gn {p c l : Int} {st sk re fe ag : Bool} : ∀ {ms : List Int} {q : Ps} {rs : List R7}, runO (stp p c l st sk re fe ag) q ms = some rs → ∀ (i : Nat) (r : R7) (y : Ps), rs[i]? = some r → (q :: rs.map R7.ps)[i]? = some y → r.gn = r.ys.getD y.pl.toNat 0 - y.ys.getD y.pl.toNat 0
 | [], q, rs, hr => by
  cases hr
  intro i r y h
  cases h
 | a :: ms, q, rs, hr => by
  unfold runO at hr
  cases hf : stp p c l st sk re fe ag q a with
  | none => rw [hf] at hr; cases hr
  | some r0 =>
   rw [hf] at hr
   simp only at hr
   cases hr2 : runO (stp p c l st sk re fe ag) r0.ps ms with
   | none => rw [hr2] at hr; cases hr
   | some rs2 =>
    rw [hr2] at hr
    cases hr
    intro i r y h1 h2
    cases i with
    | zero =>
     cases h1
     cases h2
     unfold stp at hf
     cases hl : lgV c l p q.pl fe q.xs (mvV true p q.pl st sk re q.xs q.ys a) with
     | none => rw [hl] at hf; cases hf
     | some m =>
      rw [hl] at hf
      cases hf
      rfl
    | succ i => exact run_gn hr2 i r y (by simpa using h1) (by simpa using h2)
def EtP (f : T21 × Q21 → Int) (g : Ps → Int → Option R7) (q0 : Ps) (ms : List Int) (ok : Bool) (w : World) (e : Ending) (w' : World) : Prop :=
 if ok = true then ∃ (v : Value) (L : List (T21 × Q21)) (q : Ps) (rs : List R7), e = .returned (.tuple #[v, .int .i64 0]) ∧ w'.ownsRow w.heap.size 2 1 v L.length (nvs (L.map f)) ∧ runO g q0 ms = some rs ∧ L.map (fun x => x.1.r) = rs ∧ L.map (fun x => x.1.q) ++ [q] = q0 :: rs.map R7.ps ∧ Below w.heap.size w w'
 else e = .returned (.tuple #[.slice none 0 0, .int .i64 1]) ∧ Below w.heap.size w w'
theorem b21_rg {wr X : World} (p s c l : Int) (st sk re fe ag : Bool) {n1 : Nat} {x : T21 × Q21} (T : TypeId) (hX : X = (wr.alloc (.cells zero21.toArray T)).setCells wr.heap.size 0 (cells21 p s c l st sk re fe ag n1 x)) :
  X.rangeAt wr.heap.size 0 (cells21 p s c l st sk re fe ag n1 x) ∧ Below wr.heap.size wr X := by
 have hr := World.rangeAt_setCells_same (wr.alloc (.cells zero21.toArray T)) wr.heap.size 0 (cells21 p s c l st sk re fe ag n1 x) (thN_new wr T).th
 rw [← hX] at hr
 exact ⟨hr, by rw [hX]; exact below_scg wr.heap.size (Nat.le_refl _) _ 0 (al1 wr _)⟩
theorem each_gain (f : T21 × Q21 → Int) (Jp Js Jc Jl : Int) (Jst Jsk Jre Jfe Jag : Bool) (Ja1 Ja2 : Option Addr) (Jan1 Jac1 Jan2 Jac2 : Nat) (Jap : Int) (Jm : Option Addr) (Jmn Jmc : Nat) (Jb1 Jb2 : Option Addr) (Jbn1 Jbc1 Jbn2 Jbc2 : Nat) (Jbp Jrg : Int) (sx sy ms nx ny : List Int) (w : World) (h : GamR w Ja1 Ja2 Jan1 Jan2 Jm Jmn Jb1 Jb2 Jbn1 Jbn2 sx sy ms nx ny)
  (hf : ∀ (w0 v : World) (pb b1 e1 b2 e2 : Nat) (sp : Int) (sx sy : List Int) (v1 v2 : Value) (ms : List Int) (L : List (T21 × Q21)) (h1 d1 h2 d2 : Nat) (q : Ps) (rg : Int) (R : List (Nat × List Int)) (x : T21 × Q21), PlK w0 pb Jp Js Jc Jl Jst Jsk Jre Jfe Jag Jan1 b1 e1 b2 e2 sp sx sy v1 v2 ms L h1 d1 h2 d2 q rg R v → x ∈ L → OkQ Jp Js Jc Jl Jst Jag Jan1 x.1.q → OkQ Jp Js Jc Jl Jst Jag Jan1 x.1.r.ps → Calls Try.prog 44 #[.agg (cells21 Jp Js Jc Jl Jst Jsk Jre Jfe Jag Jan1 x).toArray] v (BelP (.int .i64 (f x)) v)) :
  Calls Try.prog 42 #[.agg #[.int .i64 Jp, .int .i64 Js, .bool Jst, .bool Jsk, .bool Jre, .bool Jfe, .bool Jag, .int .i64 Jc, .int .i64 Jl, .slice Ja1 Jan1 Jac1, .slice Ja2 Jan2 Jac2, .int .i64 Jap, .slice Jm Jmn Jmc, .slice Jb1 Jbn1 Jbc1, .slice Jb2 Jbn2 Jbc2, .int .i64 Jbp, .int .i64 Jrg], .func (.func 44) #[] #[]] w (EtP f (stp Jp Jc Jl Jst Jsk Jre Jfe Jag) ⟨Jap, sx, sy⟩ ms (okG Jp Js Jc Jl Jst Jsk Jre Jfe Jag Jan1 Jan2 Jap sx sy ms Jbp nx ny Jrg) w) := by
 have HB := Lib.hid (gmb_new Jp Js Jc Jl Jst Jsk Jre Jfe Jag Ja1 Ja2 Jan1 Jac1 Jan2 Jac2 Jap Jm Jmn Jmc Jb1 Jb2 Jbn1 Jbc1 Jbn2 Jbc2 Jbp Jrg w 34)
 have HRg := Lib.hid (GmAt.range HB.out.1)
 have HC := Lib.hid (replay_any Jp Js Jc Jl Jst Jsk Jre Jfe Jag Ja1 Ja2 Jan1 Jac1 Jan2 Jac2 Jap Jm Jmn Jmc Jb1 Jb2 Jbn1 Jbc1 Jbn2 Jbc2 Jbp Jrg sx sy ms nx ny _ (h.below HB.out.2))
 have H := Lib.hid h
 have HF := Lib.hid hf
 obtain ⟨i1, hi1, hy0, hy1, hy2⟩ := info_parts infoN
 clear h hf
 cases hok : okG Jp Js Jc Jl Jst Jsk Jre Jfe Jag Jan1 Jan2 Jap sx sy ms Jbp nx ny Jrg
 ·rw [hok] at HC
  clear hok hi1 hy0 hy1 hy2
  go_enter Try.func42, Try.ntmps42
  go_wp2_with (refine wpList_load_mid rfl 34 _ rfl w.heap.size 0 rfl _ _ HRg.out Try.underlying34 rfl (by kernel_rfl) ?_)
  refine HC.out.mono ?_
  intro e u hq
  obtain ⟨cs, hc1, hc2, rfl, hb⟩ := hq.d
  have HCs := Lib.hid (And.intro hc1 hc2)
  have HB := Lib.hid (HB.out.below hb)
  clear hq hb hc1 hc2 HRg
  go_wp2_with (refine wpList_store_mid rfl 58 _ _ rfl u.heap.size 0 cs.toArray rfl rfl (by rw [show cs.toArray.size = 18 from by simpa using HCs.out.1]; exact there18 u 58) (by rw [show cs.toArray.size = 18 from by simpa using HCs.out.1]; kernel_rfl) HCs.out.2 ?_)
  go_ret2
  unfold EtP
  rw [if_neg (by decide)]
  exact ⟨rfl, OnW.of9 HB.out.2 (below_scg u.heap.size (Nat.le_refl _) cs 0 (al1 u _))⟩
 ·rw [hok] at HC
  have Hok := Lib.hid hok
  clear hok
  go_enter Try.func42, Try.ntmps42
  go_wp2_with (refine wpList_load_mid rfl 34 _ rfl w.heap.size 0 rfl _ _ HRg.out Try.underlying34 rfl (by kernel_rfl) ?_)
  refine HC.out.mono ?_
  intro e u hq
  unfold RpP at hq
  rw [if_pos rfl] at hq
  obtain ⟨pb, b1, e1, b2, e2, v1, v2, L, h1, d1, h2, d2, q, R, rs, rfl, hP, hro, hq1, hL1, hL2⟩ := hq
  obtain ⟨hk, h120, -, -⟩ := okG_parts Hok.out
  obtain ⟨-, -, hn2, -, -⟩ := okP_parts hk
  have hall := run_all (s := Js) (n1 := Jan1) ⟨hn2 ▸ hk, H.out.s.l1, H.out.s.l2.trans hn2⟩ hro
  have HQ : Hid (∀ x ∈ L, OkQ Jp Js Jc Jl Jst Jag Jan1 x.1.q ∧ OkQ Jp Js Jc Jl Jst Jag Jan1 x.1.r.ps) := Lib.hid (fun x hx => ⟨hall _ (by rw [← hL2]; exact List.mem_append_left _ (List.mem_map_of_mem hx)), hall _ (List.mem_cons_of_mem _ (List.mem_map_of_mem (by rw [← hL1]; exact List.mem_map_of_mem hx)))⟩)
  have HE := Lib.hid (And.intro hro (And.intro hL1 hL2))
  obtain ⟨va, vc, rfl⟩ := slice_own hP.mo
  obtain ⟨ta, tc, rfl⟩ := slice_own hP.tu
  have hLn : L.length ≤ 120 := by
   have e1 := runO_len hro
   have e2 := congrArg List.length hL1
   rw [List.length_map] at e2
   omega
  have HP := Lib.hid hP
  have HB := Lib.hid (HB.out.2.trans (hP.be.mono HB.out.2.size))
  obtain ⟨cs, hcs⟩ : ∃ cs, cs = vals18 Jp Js Jc Jl Jst Jsk Jre Jfe Jag Jan1 b1 e1 b2 e2 Jap (.slice va ms.length vc) (.slice ta L.length tc) h1 d1 h2 d2 q.pl Jrg := ⟨_, rfl⟩
  have HCs := Lib.hid (show cs.length = 18 ∧ cs.toArray.all (·.oneCell') = true from by rw [hcs]; exact ⟨rfl, vals18_one _ _ _ _ _ _ _ _ _ _ _ _ _ _ _ _ _ _ _ _ _ _ _ _ _ _ _⟩)
  rw [← hcs]
  have Hcs := Lib.hid hcs
  clear hcs hP hro hq1 hL1 hL2 HRg HC hall hk h120 hn2
  go_upto_region 2 with (refine wpList_store_mid rfl 58 _ _ rfl u.heap.size 0 cs.toArray rfl rfl (by rw [show cs.toArray.size = 18 from by simpa using HCs.out.1]; exact there18 u 58) (by rw [show cs.toArray.size = 18 from by simpa using HCs.out.1]; kernel_rfl) HCs.out.2 ?_)
  generalize hX : World.setCells _ _ _ _ = X
  have hM := HP.out.move 58 X (by rw [← Hcs.out]; exact hX.symm)
  have HP := Lib.hid hM.1
  have HB := Lib.hid (OnW.of9 HB.out hM.2)
  have t17 := hM.1.tv
  obtain ⟨N, hN⟩ : ∃ N, N = L.length := ⟨_, rfl⟩
  have HN := Lib.hid hN
  rw [← hN] at hLn t17
  have hpl : u.heap.size < X.heap.size := hM.1.g.lt
  generalize u.heap.size = M at *
  clear hX hM Hcs HCs hN
  go_wp2_with fail
  have HBX := Lib.hid (show OnW w X from HB.out)
  clear HB
  go_loopw [8, 22] (fun v8 i wr => ∃ k : Nat, i = .int .i64 k ∧ k ≤ N ∧ Below X.heap.size X wr ∧ wr.ownsRow X.heap.size 2 1 v8 k (nvs ((L.map f).take k))) (fun _ i _ => N - (intOf i).toNat)
  case atStart => exact ⟨0, rfl, Nat.zero_le _, Below.refl _ _, World.ownsRow_nil _ _ _ _⟩
  case round =>
   obtain ⟨k, rfl, hkN, hbw, hown⟩ := hrel
   have HPr := Lib.hid (HP.out.below hbw)
   have Hbw := Lib.hid hbw
   have Hown := Lib.hid hown
   clear hbw hown t17
   by_cases hlt : k < N
   ·obtain ⟨x, hx⟩ : ∃ x, L[k]? = some x := ⟨L[k]'(by rw [← HN.out]; exact hlt), List.getElem?_eq_getElem _⟩
    obtain ⟨g, c', hg⟩ := slice_some HPr.out.tu (by have := HN.out; omega)
    simp only [Value.slice.injEq] at hg
    obtain ⟨rfl, -, rfl⟩ := hg
    have hx1 : (L.map f)[k]? = some (f x) := by rw [List.getElem?_map, hx]; rfl
    have HNx := Lib.hid (nvs_take (L.map f) hx1)
    have HRg : Hid (∀ o, o = k * 21 → wr.rangeAt g o (cells21 Jp Js Jc Jl Jst Jsk Jre Jfe Jag Jan1 x)) := Lib.hid (fun o ho => by rw [ho]; exact HPr.out.rgL hx)
    have HOne := Lib.hid (all_oneCell_toArray (cells21_one (p := Jp) (s := Js) (c := Jc) (l := Jl) (st := Jst) (sk := Jsk) (re := Jre) (fe := Jfe) (ag := Jag) (n1 := Jan1) x))
    have HTh := Lib.hid (thN_new wr 79)
    have HBf := Lib.hid (List.mem_of_getElem? hx)
    have HQx := Lib.hid (HQ.out x HBf.out)
    obtain ⟨y, hy⟩ : ∃ y, f x = y := ⟨_, rfl⟩
    rw [hy] at HNx
    have HFx : Hid (∀ w0 v, PlK w0 M Jp Js Jc Jl Jst Jsk Jre Jfe Jag Jan1 b1 e1 b2 e2 Jap sx sy (.slice va ms.length vc) (.slice (some ⟨g, 0, none⟩) L.length tc) ms L h1 d1 h2 d2 q Jrg R v → Calls Try.prog 44 #[.agg (cells21 Jp Js Jc Jl Jst Jsk Jre Jfe Jag Jan1 x).toArray] v (BelP (.int .i64 y) v)) := Lib.hid (fun w0 v k => by rw [← hy]; exact HF.out _ _ _ _ _ _ _ _ _ _ _ _ _ _ _ _ _ _ _ _ _ x k HBf.out HQx.out.1 HQx.out.2)
    clear hy
    have k0 : (0 : Int) ≤ (k : Int) := by omega
    have kq : (k : Int) < (N : Int) := by omega
    clear hx hx1
    go_upto_region 8 with (first | (refine wpList_load_mid rfl 79 _ rfl g _ rfl _ _ (HRg.out _ (by simp)) Try.underlying79 rfl (by kernel_rfl) ?_) | (refine wpList_store_mid rfl 79 _ _ rfl wr.heap.size 0 (cells21 Jp Js Jc Jl Jst Jsk Jre Jfe Jag Jan1 x).toArray rfl rfl HTh.out.th (by kernel_rfl) HOne.out ?_))
    generalize hX2 : World.setCells _ _ _ _ = X2
    have hM := b21_rg _ _ _ _ _ _ _ _ _ 79 hX2.symm
    have HRm := Lib.hid hM.1
    have HP2 := Lib.hid (HPr.out.below hM.2)
    have HB2 := Lib.hid (Below.trans Hbw.out (hM.2.mono Hbw.out.size))
    have Hown2 := Lib.hid (own_keepS Hown.out hM.2)
    generalize wr.heap.size = M2 at *
    clear hX2 hM
    go_wp2_with (refine wpList_load_mid rfl 79 _ rfl M2 0 rfl _ _ HRm.out Try.underlying79 rfl (by kernel_rfl) ?_)
    refine (HFx.out _ _ HP2.out).mono ?_
    rintro e w7 ⟨rfl, hb⟩
    have HB7 := Lib.hid (Below.trans HB2.out (hb.mono HB2.out.size))
    have Hown7 := Lib.hid (own_keepS Hown2.out hb)
    have hbase7 := HB7.out.size
    have hk120 : k < 120 := by omega
    clear hb
    go_wp2_with (at_builtin; refine wpList_append_lies _ rfl _ _ 24 rfl X.heap.size 2 i1 (.int .i64 0) 1 8 Try.underlying24 hi1 hy0 hy1 hy2 rfl (by decide) u8 k (nvs ((L.map f).take k)) rfl (own_keepS Hown7.out (al1 _ _)) ⟨w7.heap.size, 0, none⟩ 1 1 (nvs [y]) rfl (by simp [nvs]) (row_news (row_oneL w7 y 2)) (nvs_cell _) (by decide) (by unfold maxLen; omega) (by omega) (by simp; omega) _ rfl ?_; intro g' cap' w9 hown9 hgrow9 hat9 hlt9)
    have HB9 := Lib.hid ((Below.alloc HB7.out HB7.out.size (.cells #[.int .i64 y] 2)).grown hgrow9 (by simp; omega) (fun j hj => (own_lt Hown7.out j hj).1))
    have Hown9 := Lib.hid hown9
    clear hown9 hgrow9 hat9 hlt9
    go_wp2_with fail
    go_roundw
    case rel => exact ⟨k + 1, by go_num, by omega, HB9.out, by rw [HNx.out]; exact Hown9.out⟩
    case measure => simp [intOf]; omega
   ·obtain rfl : k = N := by omega
    rw [List.take_of_length_le (by rw [List.length_map, ← HN.out]; exact Nat.le_refl _)] at Hown
    obtain ⟨va8, vc8, rfl⟩ := slice_own Hown.out
    go_wp2_with fail
    go_ret2
    unfold EtP
    rw [if_pos rfl]
    have hz := HBX.out.size
    refine ⟨_, L, q, rs, rfl, ?_, HE.out.1, HE.out.2.1, HE.out.2.2, Below.trans HBX.out (Hbw.out.mono hz)⟩
    rw [← HN.out]
    exact own_lower Hown.out hz
theorem each_mover (f : T21 × Q21 → Int) (Jp Js Jc Jl : Int) (Jst Jsk Jre Jfe Jag : Bool) (Ja1 Ja2 : Option Addr) (Jan1 Jac1 Jan2 Jac2 : Nat) (Jap : Int) (Jm : Option Addr) (Jmn Jmc : Nat) (Jb1 Jb2 : Option Addr) (Jbn1 Jbc1 Jbn2 Jbc2 : Nat) (Jbp Jrg : Int) (sx sy ms nx ny : List Int) (w : World) (h : GamR w Ja1 Ja2 Jan1 Jan2 Jm Jmn Jb1 Jb2 Jbn1 Jbn2 sx sy ms nx ny)
  (hf : ∀ (w0 v : World) (pb b1 e1 b2 e2 : Nat) (sp : Int) (sx sy : List Int) (v1 v2 : Value) (ms : List Int) (L : List (T21 × Q21)) (h1 d1 h2 d2 : Nat) (q : Ps) (rg : Int) (R : List (Nat × List Int)) (x : T21 × Q21), PlK w0 pb Jp Js Jc Jl Jst Jsk Jre Jfe Jag Jan1 b1 e1 b2 e2 sp sx sy v1 v2 ms L h1 d1 h2 d2 q rg R v → x ∈ L → OkQ Jp Js Jc Jl Jst Jag Jan1 x.1.q → OkQ Jp Js Jc Jl Jst Jag Jan1 x.1.r.ps → Calls Try.prog 43 #[.agg (cells21 Jp Js Jc Jl Jst Jsk Jre Jfe Jag Jan1 x).toArray] v (BelP (.int .i64 (f x)) v)) :
  Calls Try.prog 42 #[.agg #[.int .i64 Jp, .int .i64 Js, .bool Jst, .bool Jsk, .bool Jre, .bool Jfe, .bool Jag, .int .i64 Jc, .int .i64 Jl, .slice Ja1 Jan1 Jac1, .slice Ja2 Jan2 Jac2, .int .i64 Jap, .slice Jm Jmn Jmc, .slice Jb1 Jbn1 Jbc1, .slice Jb2 Jbn2 Jbc2, .int .i64 Jbp, .int .i64 Jrg], .func (.func 43) #[] #[]] w (EtP f (stp Jp Jc Jl Jst Jsk Jre Jfe Jag) ⟨Jap, sx, sy⟩ ms (okG Jp Js Jc Jl Jst Jsk Jre Jfe Jag Jan1 Jan2 Jap sx sy ms Jbp nx ny Jrg) w) := by
 have HB := Lib.hid (gmb_new Jp Js Jc Jl Jst Jsk Jre Jfe Jag Ja1 Ja2 Jan1 Jac1 Jan2 Jac2 Jap Jm Jmn Jmc Jb1 Jb2 Jbn1 Jbc1 Jbn2 Jbc2 Jbp Jrg w 34)
 have HRg := Lib.hid (GmAt.range HB.out.1)
 have HC := Lib.hid (replay_any Jp Js Jc Jl Jst Jsk Jre Jfe Jag Ja1 Ja2 Jan1 Jac1 Jan2 Jac2 Jap Jm Jmn Jmc Jb1 Jb2 Jbn1 Jbc1 Jbn2 Jbc2 Jbp Jrg sx sy ms nx ny _ (h.below HB.out.2))
 have H := Lib.hid h
 have HF := Lib.hid hf
 obtain ⟨i1, hi1, hy0, hy1, hy2⟩ := info_parts infoN
 clear h hf
 cases hok : okG Jp Js Jc Jl Jst Jsk Jre Jfe Jag Jan1 Jan2 Jap sx sy ms Jbp nx ny Jrg
 ·rw [hok] at HC
  clear hok hi1 hy0 hy1 hy2
  go_enter Try.func42, Try.ntmps42
  go_wp2_with (refine wpList_load_mid rfl 34 _ rfl w.heap.size 0 rfl _ _ HRg.out Try.underlying34 rfl (by kernel_rfl) ?_)
  refine HC.out.mono ?_
  intro e u hq
  obtain ⟨cs, hc1, hc2, rfl, hb⟩ := hq.d
  have HCs := Lib.hid (And.intro hc1 hc2)
  have HB := Lib.hid (HB.out.below hb)
  clear hq hb hc1 hc2 HRg
  go_wp2_with (refine wpList_store_mid rfl 58 _ _ rfl u.heap.size 0 cs.toArray rfl rfl (by rw [show cs.toArray.size = 18 from by simpa using HCs.out.1]; exact there18 u 58) (by rw [show cs.toArray.size = 18 from by simpa using HCs.out.1]; kernel_rfl) HCs.out.2 ?_)
  go_ret2
  unfold EtP
  rw [if_neg (by decide)]
  exact ⟨rfl, OnW.of9 HB.out.2 (below_scg u.heap.size (Nat.le_refl _) cs 0 (al1 u _))⟩
 ·rw [hok] at HC
  have Hok := Lib.hid hok
  clear hok
  go_enter Try.func42, Try.ntmps42
  go_wp2_with (refine wpList_load_mid rfl 34 _ rfl w.heap.size 0 rfl _ _ HRg.out Try.underlying34 rfl (by kernel_rfl) ?_)
  refine HC.out.mono ?_
  intro e u hq
  unfold RpP at hq
  rw [if_pos rfl] at hq
  obtain ⟨pb, b1, e1, b2, e2, v1, v2, L, h1, d1, h2, d2, q, R, rs, rfl, hP, hro, hq1, hL1, hL2⟩ := hq
  obtain ⟨hk, h120, -, -⟩ := okG_parts Hok.out
  obtain ⟨-, -, hn2, -, -⟩ := okP_parts hk
  have hall := run_all (s := Js) (n1 := Jan1) ⟨hn2 ▸ hk, H.out.s.l1, H.out.s.l2.trans hn2⟩ hro
  have HQ : Hid (∀ x ∈ L, OkQ Jp Js Jc Jl Jst Jag Jan1 x.1.q ∧ OkQ Jp Js Jc Jl Jst Jag Jan1 x.1.r.ps) := Lib.hid (fun x hx => ⟨hall _ (by rw [← hL2]; exact List.mem_append_left _ (List.mem_map_of_mem hx)), hall _ (List.mem_cons_of_mem _ (List.mem_map_of_mem (by rw [← hL1]; exact List.mem_map_of_mem hx)))⟩)
  have HE := Lib.hid (And.intro hro (And.intro hL1 hL2))
  obtain ⟨va, vc, rfl⟩ := slice_own hP.mo
  obtain ⟨ta, tc, rfl⟩ := slice_own hP.tu
  have hLn : L.length ≤ 120 := by
   have e1 := runO_len hro
   have e2 := congrArg List.length hL1
   rw [List.length_map] at e2
   omega
  have HP := Lib.hid hP
  have HB := Lib.hid (HB.out.2.trans (hP.be.mono HB.out.2.size))
  obtain ⟨cs, hcs⟩ : ∃ cs, cs = vals18 Jp Js Jc Jl Jst Jsk Jre Jfe Jag Jan1 b1 e1 b2 e2 Jap (.slice va ms.length vc) (.slice ta L.length tc) h1 d1 h2 d2 q.pl Jrg := ⟨_, rfl⟩
  have HCs := Lib.hid (show cs.length = 18 ∧ cs.toArray.all (·.oneCell') = true from by rw [hcs]; exact ⟨rfl, vals18_one _ _ _ _ _ _ _ _ _ _ _ _ _ _ _ _ _ _ _ _ _ _ _ _ _ _ _⟩)
  rw [← hcs]
  have Hcs := Lib.hid hcs
  clear hcs hP hro hq1 hL1 hL2 HRg HC hall hk h120 hn2
  go_upto_region 2 with (refine wpList_store_mid rfl 58 _ _ rfl u.heap.size 0 cs.toArray rfl rfl (by rw [show cs.toArray.size = 18 from by simpa using HCs.out.1]; exact there18 u 58) (by rw [show cs.toArray.size = 18 from by simpa using HCs.out.1]; kernel_rfl) HCs.out.2 ?_)
  generalize hX : World.setCells _ _ _ _ = X
  have hM := HP.out.move 58 X (by rw [← Hcs.out]; exact hX.symm)
  have HP := Lib.hid hM.1
  have HB := Lib.hid (OnW.of9 HB.out hM.2)
  have t17 := hM.1.tv
  obtain ⟨N, hN⟩ : ∃ N, N = L.length := ⟨_, rfl⟩
  have HN := Lib.hid hN
  rw [← hN] at hLn t17
  have hpl : u.heap.size < X.heap.size := hM.1.g.lt
  generalize u.heap.size = M at *
  clear hX hM Hcs HCs hN
  go_wp2_with fail
  have HBX := Lib.hid (show OnW w X from HB.out)
  clear HB
  go_loopw [8, 22] (fun v8 i wr => ∃ k : Nat, i = .int .i64 k ∧ k ≤ N ∧ Below X.heap.size X wr ∧ wr.ownsRow X.heap.size 2 1 v8 k (nvs ((L.map f).take k))) (fun _ i _ => N - (intOf i).toNat)
  case atStart => exact ⟨0, rfl, Nat.zero_le _, Below.refl _ _, World.ownsRow_nil _ _ _ _⟩
  case round =>
   obtain ⟨k, rfl, hkN, hbw, hown⟩ := hrel
   have HPr := Lib.hid (HP.out.below hbw)
   have Hbw := Lib.hid hbw
   have Hown := Lib.hid hown
   clear hbw hown t17
   by_cases hlt : k < N
   ·obtain ⟨x, hx⟩ : ∃ x, L[k]? = some x := ⟨L[k]'(by rw [← HN.out]; exact hlt), List.getElem?_eq_getElem _⟩
    obtain ⟨g, c', hg⟩ := slice_some HPr.out.tu (by have := HN.out; omega)
    simp only [Value.slice.injEq] at hg
    obtain ⟨rfl, -, rfl⟩ := hg
    have hx1 : (L.map f)[k]? = some (f x) := by rw [List.getElem?_map, hx]; rfl
    have HNx := Lib.hid (nvs_take (L.map f) hx1)
    have HRg : Hid (∀ o, o = k * 21 → wr.rangeAt g o (cells21 Jp Js Jc Jl Jst Jsk Jre Jfe Jag Jan1 x)) := Lib.hid (fun o ho => by rw [ho]; exact HPr.out.rgL hx)
    have HOne := Lib.hid (all_oneCell_toArray (cells21_one (p := Jp) (s := Js) (c := Jc) (l := Jl) (st := Jst) (sk := Jsk) (re := Jre) (fe := Jfe) (ag := Jag) (n1 := Jan1) x))
    have HTh := Lib.hid (thN_new wr 79)
    have HBf := Lib.hid (List.mem_of_getElem? hx)
    have HQx := Lib.hid (HQ.out x HBf.out)
    obtain ⟨y, hy⟩ : ∃ y, f x = y := ⟨_, rfl⟩
    rw [hy] at HNx
    have HFx : Hid (∀ w0 v, PlK w0 M Jp Js Jc Jl Jst Jsk Jre Jfe Jag Jan1 b1 e1 b2 e2 Jap sx sy (.slice va ms.length vc) (.slice (some ⟨g, 0, none⟩) L.length tc) ms L h1 d1 h2 d2 q Jrg R v → Calls Try.prog 43 #[.agg (cells21 Jp Js Jc Jl Jst Jsk Jre Jfe Jag Jan1 x).toArray] v (BelP (.int .i64 y) v)) := Lib.hid (fun w0 v k => by rw [← hy]; exact HF.out _ _ _ _ _ _ _ _ _ _ _ _ _ _ _ _ _ _ _ _ _ x k HBf.out HQx.out.1 HQx.out.2)
    clear hy
    have k0 : (0 : Int) ≤ (k : Int) := by omega
    have kq : (k : Int) < (N : Int) := by omega
    clear hx hx1
    go_upto_region 8 with (first | (refine wpList_load_mid rfl 79 _ rfl g _ rfl _ _ (HRg.out _ (by simp)) Try.underlying79 rfl (by kernel_rfl) ?_) | (refine wpList_store_mid rfl 79 _ _ rfl wr.heap.size 0 (cells21 Jp Js Jc Jl Jst Jsk Jre Jfe Jag Jan1 x).toArray rfl rfl HTh.out.th (by kernel_rfl) HOne.out ?_))
    generalize hX2 : World.setCells _ _ _ _ = X2
    have hM := b21_rg _ _ _ _ _ _ _ _ _ 79 hX2.symm
    have HRm := Lib.hid hM.1
    have HP2 := Lib.hid (HPr.out.below hM.2)
    have HB2 := Lib.hid (Below.trans Hbw.out (hM.2.mono Hbw.out.size))
    have Hown2 := Lib.hid (own_keepS Hown.out hM.2)
    generalize wr.heap.size = M2 at *
    clear hX2 hM
    go_wp2_with (refine wpList_load_mid rfl 79 _ rfl M2 0 rfl _ _ HRm.out Try.underlying79 rfl (by kernel_rfl) ?_)
    refine (HFx.out _ _ HP2.out).mono ?_
    rintro e w7 ⟨rfl, hb⟩
    have HB7 := Lib.hid (Below.trans HB2.out (hb.mono HB2.out.size))
    have Hown7 := Lib.hid (own_keepS Hown2.out hb)
    have hbase7 := HB7.out.size
    have hk120 : k < 120 := by omega
    clear hb
    go_wp2_with (at_builtin; refine wpList_append_lies _ rfl _ _ 24 rfl X.heap.size 2 i1 (.int .i64 0) 1 8 Try.underlying24 hi1 hy0 hy1 hy2 rfl (by decide) u8 k (nvs ((L.map f).take k)) rfl (own_keepS Hown7.out (al1 _ _)) ⟨w7.heap.size, 0, none⟩ 1 1 (nvs [y]) rfl (by simp [nvs]) (row_news (row_oneL w7 y 2)) (nvs_cell _) (by decide) (by unfold maxLen; omega) (by omega) (by simp; omega) _ rfl ?_; intro g' cap' w9 hown9 hgrow9 hat9 hlt9)
    have HB9 := Lib.hid ((Below.alloc HB7.out HB7.out.size (.cells #[.int .i64 y] 2)).grown hgrow9 (by simp; omega) (fun j hj => (own_lt Hown7.out j hj).1))
    have Hown9 := Lib.hid hown9
    clear hown9 hgrow9 hat9 hlt9
    go_wp2_with fail
    go_roundw
    case rel => exact ⟨k + 1, by go_num, by omega, HB9.out, by rw [HNx.out]; exact Hown9.out⟩
    case measure => simp [intOf]; omega
   ·obtain rfl : k = N := by omega
    rw [List.take_of_length_le (by rw [List.length_map, ← HN.out]; exact Nat.le_refl _)] at Hown
    obtain ⟨va8, vc8, rfl⟩ := slice_own Hown.out
    go_wp2_with fail
    go_ret2
    unfold EtP
    rw [if_pos rfl]
    have hz := HBX.out.size
    refine ⟨_, L, q, rs, rfl, ?_, HE.out.1, HE.out.2.1, HE.out.2.2, Below.trans HBX.out (Hbw.out.mono hz)⟩
    rw [← HN.out]
    exact own_lower Hown.out hz
/- Game2d -/
def GamP2 (p s c l : Int) (st sk re fe ag : Bool) (an1 an2 : Nat) (ap : Int) (mn bn1 bn2 : Nat) (bp rg : Int) (sx sy ms nx ny : List Int) (w : World) (e : Ending) (w' : World) : Prop :=
 ∃ g1 g2 g3 g4 g5, e = .returned (.agg #[.int .i64 p, .int .i64 s, .bool st, .bool sk, .bool re, .bool fe, .bool ag, .int .i64 c, .int .i64 l, .slice (some ⟨g1, 0, none⟩) an1 an1, .slice (some ⟨g2, 0, none⟩) an2 an2, .int .i64 ap, .slice (some ⟨g3, 0, none⟩) mn mn, .slice (some ⟨g4, 0, none⟩) bn1 bn1, .slice (some ⟨g5, 0, none⟩) bn2 bn2, .int .i64 bp, .int .i64 rg]) ∧ GamO w' w.heap.size (some ⟨g1, 0, none⟩) (some ⟨g2, 0, none⟩) g1 g2 an1 an2 (some ⟨g3, 0, none⟩) g3 mn (some ⟨g4, 0, none⟩) (some ⟨g5, 0, none⟩) g4 g5 bn1 bn2 sx sy ms nx ny ∧ (g1 < w'.heap.size ∧ g2 < w'.heap.size ∧ g3 < w'.heap.size ∧ g4 < w'.heap.size ∧ g5 < w'.heap.size) ∧ GamD w' g1 g2 g3 g4 g5 ∧ Below w.heap.size w w'
theorem toG2_any (Jp Js Jc Jl : Int) (Jst Jsk Jre Jfe Jag : Bool) (Ja1 Ja2 : Option Addr) (Jan1 Jac1 Jan2 Jac2 : Nat) (Jap : Int) (Jm : Option Addr) (Jmn Jmc : Nat) (Jb1 Jb2 : Option Addr) (Jbn1 Jbc1 Jbn2 Jbc2 : Nat) (Jbp Jrg : Int) (sx sy ms nx ny : List Int) (w : World) (h : GamR w Ja1 Ja2 Jan1 Jan2 Jm Jmn Jb1 Jb2 Jbn1 Jbn2 sx sy ms nx ny) :
  Calls Try.prog 10 #[.agg #[.int .i64 Jp, .int .i64 Js, .bool Jst, .bool Jsk, .bool Jre, .bool Jfe, .bool Jag, .int .i64 Jc, .int .i64 Jl, .slice Ja1 Jan1 Jac1, .slice Ja2 Jan2 Jac2, .int .i64 Jap, .slice Jm Jmn Jmc, .slice Jb1 Jbn1 Jbc1, .slice Jb2 Jbn2 Jbc2, .int .i64 Jbp, .int .i64 Jrg]] w (GamP2 Jp Js Jc Jl Jst Jsk Jre Jfe Jag Jan1 Jan2 Jap Jmn Jbn1 Jbn2 Jbp Jrg sx sy ms nx ny w) := by
 have H := Lib.hid h
 clear h
 have HS := Lib.hid (tgm_new Jp Js Jc Jl Jst Jsk Jre Jfe Jag Ja1 Ja2 Jan1 Jac1 Jan2 Jac2 Jap Jm Jmn Jmc Jb1 Jb2 Jbn1 Jbc1 Jbn2 Jbc2 Jbp Jrg w 28 34)
 go_enter Try.func10, Try.ntmps10
 go_wp2_with fail
 refine (toRules_any Jp Js Jc Jl Jst Jsk Jre Jfe Jag _).mono ?_
 rintro e u1 ⟨rfl, b1⟩
 have HS := Lib.hid (HS.out.below b1)
 clear b1
 have lz1 := HS.out.z.lt
 obtain ⟨⟨_, d0, d1, d2, d3, d4, d5, d6, d7, d8, d9, d10, d11, d12, d13, d14, d15, d16⟩, -, ⟨_, z0, z1, z2, z3, z4, z5, z6, z7, z8, z9, z10, z11, z12, z13, z14, z15, z16, zf⟩, -⟩ := HS.out
 go_wp2_with fail
 refine (toPos_any Ja1 Ja2 Jan1 Jac1 Jan2 Jac2 Jap sx sy _ (H.out.s.below ((HS.out.setR (.int .i64 Jp) (.int .i64 Js) (.bool Jst) (.bool Jsk) (.bool Jre) (.bool Jfe) (.bool Jag) (.int .i64 Jc) (.int .i64 Jl)).b))).mono ?_
 rintro e u2 ⟨g1, g2, rfl, o2, l1, l2, b2⟩
 have e1 : w.heap.size + 1 + 1 < g1 := by have := o2.o1.new; simp at this; omega
 have e2 : w.heap.size + 1 + 1 < g2 := by have := o2.o2.new; simp at this; omega
 have O2 := Lib.hid (o2.lower (C := w.heap.size) (by simp; omega))
 have HS := Lib.hid ((HS.out.setR (.int .i64 Jp) (.int .i64 Js) (.bool Jst) (.bool Jsk) (.bool Jre) (.bool Jfe) (.bool Jag) (.int .i64 Jc) (.int .i64 Jl)).below b2)
 clear b2 o2 d0 z0 d1 z1 d2 z2 d3 z3 d4 z4 d5 z5 d6 z6 d7 z7 d8 z8 d9 z9 d10 z10 d11 z11 d12 z12 d13 z13 d14 z14 d15 z15 d16 z16 zf
 have lz2 := HS.out.z.lt
 obtain ⟨⟨_, d0, d1, d2, d3, d4, d5, d6, d7, d8, d9, d10, d11, d12, d13, d14, d15, d16⟩, -, ⟨_, z0, z1, z2, z3, z4, z5, z6, z7, z8, z9, z10, z11, z12, z13, z14, z15, z16, zf⟩, -⟩ := HS.out
 go_wp2_with fail
 refine (toRow_any Jm Jmc Jmn ms _ H.out.lm (H.out.m.below ((HS.out.setS (.slice (some ⟨g1, 0, none⟩) Jan1 Jan1) (.slice (some ⟨g2, 0, none⟩) Jan2 Jan2) (.int .i64 Jap)).b))).mono ?_
 rintro e u3 ⟨g3, rfl, o3, l3, b3⟩
 have e3 : w.heap.size + 1 + 1 < g3 := by have := o3.new; simp at this; omega
 have n3 : u2.heap.size ≤ g3 := by have := o3.new; simpa using this
 have O3 := Lib.hid (o3.lower (C := w.heap.size) (by simp; omega))
 have O2 := Lib.hid ((O2.out.but (but_setS (w.heap.size + 1 + 1) u2 (.slice (some ⟨g1, 0, none⟩) Jan1 Jan1) (.slice (some ⟨g2, 0, none⟩) Jan2 Jan2) (.int .i64 Jap)) (by omega) (by omega)).below b3)
 have HS := Lib.hid ((HS.out.setS (.slice (some ⟨g1, 0, none⟩) Jan1 Jan1) (.slice (some ⟨g2, 0, none⟩) Jan2 Jan2) (.int .i64 Jap)).below b3)
 have s3 := b3.size
 simp at s3
 clear b3 o3 d0 z0 d1 z1 d2 z2 d3 z3 d4 z4 d5 z5 d6 z6 d7 z7 d8 z8 d9 z9 d10 z10 d11 z11 d12 z12 d13 z13 d14 z14 d15 z15 d16 z16 zf
 have lz3 := HS.out.z.lt
 obtain ⟨⟨_, d0, d1, d2, d3, d4, d5, d6, d7, d8, d9, d10, d11, d12, d13, d14, d15, d16⟩, -, ⟨_, z0, z1, z2, z3, z4, z5, z6, z7, z8, z9, z10, z11, z12, z13, z14, z15, z16, zf⟩, -⟩ := HS.out
 go_wp2_with fail
 refine (toPos_any Jb1 Jb2 Jbn1 Jbc1 Jbn2 Jbc2 Jbp nx ny _ (H.out.n.below ((HS.out.setM (.slice (some ⟨g3, 0, none⟩) Jmn Jmn)).b))).mono ?_
 rintro e u4 ⟨g4, g5, rfl, o4, l4, l5, b4⟩
 have n4 : u3.heap.size ≤ g4 := by have := o4.o1.new; simpa using this
 have n5 : u3.heap.size ≤ g5 := by have := o4.o2.new; simpa using this
 have e4 : w.heap.size + 1 + 1 < g4 := by have := o4.o1.new; simp at this; omega
 have e5 : w.heap.size + 1 + 1 < g5 := by have := o4.o2.new; simp at this; omega
 have O4 := Lib.hid (o4.lower (C := w.heap.size) (by simp; omega))
 have O3 := Lib.hid ((O3.out.but (but_setM (w.heap.size + 1 + 1) u3 (.slice (some ⟨g3, 0, none⟩) Jmn Jmn)) (by omega)).below b4)
 have O2 := Lib.hid ((O2.out.but (but_setM (w.heap.size + 1 + 1) u3 (.slice (some ⟨g3, 0, none⟩) Jmn Jmn)) (by omega) (by omega)).below b4)
 have HS := Lib.hid ((HS.out.setM (.slice (some ⟨g3, 0, none⟩) Jmn Jmn)).below b4)
 have s4 := b4.size
 simp at s4
 clear b4 o4 d0 z0 d1 z1 d2 z2 d3 z3 d4 z4 d5 z5 d6 z6 d7 z7 d8 z8 d9 z9 d10 z10 d11 z11 d12 z12 d13 z13 d14 z14 d15 z15 d16 z16 zf
 have d16 := HS.out.a.2.2.2.2.2.2.2.2.2.2.2.2.2.2.2.2.2
 have z13 := HS.out.z.c13
 have z14 := HS.out.z.c14
 have z15 := HS.out.z.c15
 have z16 := HS.out.z.c16
 have zf := HS.out.z.fr
 have HE := Lib.hid ((HS.out.setN (.slice (some ⟨g4, 0, none⟩) Jbn1 Jbn1) (.slice (some ⟨g5, 0, none⟩) Jbn2 Jbn2) (.int .i64 Jbp)).setG (.int .i64 Jrg))
 go_upto_region 7 with fail
 go_step
 have hrg := TGm.rg HE.out.z
 have hth := HE.out.r.there
 refine wpList_load_mid rfl 34 (.tmp 3) rfl (w.heap.size + 1 + 1) 0 rfl _ _ hrg Try.underlying34 rfl (by kernel_rfl) ?_
 refine wpList_store_mid rfl 34 (.tmp 2) (.tmp 23) rfl (w.heap.size + 1) 0 (List.toArray [.int .i64 Jp, .int .i64 Js, .bool Jst, .bool Jsk, .bool Jre, .bool Jfe, .bool Jag, .int .i64 Jc, .int .i64 Jl, .slice (some ⟨g1, 0, none⟩) Jan1 Jan1, .slice (some ⟨g2, 0, none⟩) Jan2 Jan2, .int .i64 Jap, .slice (some ⟨g3, 0, none⟩) Jmn Jmn, .slice (some ⟨g4, 0, none⟩) Jbn1 Jbn1, .slice (some ⟨g5, 0, none⟩) Jbn2 Jbn2, .int .i64 Jbp, .int .i64 Jrg]) rfl rfl hth (by kernel_rfl) (gm_one _ _ _ _ _ _ _ _ _ _ _ _ _ _ _ _ _ _ _ _ _ _ _ _ _ _ _) ?_
 clear hrg hth
 simp only [Act.put, List.setIfInBounds_toArray, List.set_cons_zero, List.set_cons_succ]
 go_wp2_with fail
 have hrun := run_loadVar_mid (P := Try.prog) _ (w.heap.size + 1) 0 34 [.int .i64 Jp, .int .i64 Js, .bool Jst, .bool Jsk, .bool Jre, .bool Jfe, .bool Jag, .int .i64 Jc, .int .i64 Jl, .slice (some ⟨g1, 0, none⟩) Jan1 Jan1, .slice (some ⟨g2, 0, none⟩) Jan2 Jan2, .int .i64 Jap, .slice (some ⟨g3, 0, none⟩) Jmn Jmn, .slice (some ⟨g4, 0, none⟩) Jbn1 Jbn1, .slice (some ⟨g5, 0, none⟩) Jbn2 Jbn2, .int .i64 Jbp, .int .i64 Jrg] _ (World.rangeAt_setCells_same _ (w.heap.size + 1) 0 [.int .i64 Jp, .int .i64 Js, .bool Jst, .bool Jsk, .bool Jre, .bool Jfe, .bool Jag, .int .i64 Jc, .int .i64 Jl, .slice (some ⟨g1, 0, none⟩) Jan1 Jan1, .slice (some ⟨g2, 0, none⟩) Jan2 Jan2, .int .i64 Jap, .slice (some ⟨g3, 0, none⟩) Jmn Jmn, .slice (some ⟨g4, 0, none⟩) Jbn1 Jbn1, .slice (some ⟨g5, 0, none⟩) Jbn2 Jbn2, .int .i64 Jbp, .int .i64 Jrg] HE.out.r.there) Try.underlying34 rfl (by kernel_rfl)
 refine bodyPost_ret (v := .agg (List.toArray [.int .i64 Jp, .int .i64 Js, .bool Jst, .bool Jsk, .bool Jre, .bool Jfe, .bool Jag, .int .i64 Jc, .int .i64 Jl, .slice (some ⟨g1, 0, none⟩) Jan1 Jan1, .slice (some ⟨g2, 0, none⟩) Jan2 Jan2, .int .i64 Jap, .slice (some ⟨g3, 0, none⟩) Jmn Jmn, .slice (some ⟨g4, 0, none⟩) Jbn1 Jbn1, .slice (some ⟨g5, 0, none⟩) Jbn2 Jbn2, .int .i64 Jbp, .int .i64 Jrg])) ?_ rfl ⟨g1, g2, g3, g4, g5, rfl, ⟨?_, ?_, H.out.lm, ?_⟩, ?_, ?_, ?_⟩
 ·simp [results, Try.results10, asAddr, hrun]
 ·exact (((O2.out.but (but_setN (w.heap.size + 1 + 1) u4 (.slice (some ⟨g4, 0, none⟩) Jbn1 Jbn1) (.slice (some ⟨g5, 0, none⟩) Jbn2 Jbn2) (.int .i64 Jbp)) (by omega) (by omega)).but (but_setG (w.heap.size + 1 + 1) _ (.int .i64 Jrg)) (by omega) (by omega)).but (but_scg (w.heap.size + 1) [.int .i64 Jp, .int .i64 Js, .bool Jst, .bool Jsk, .bool Jre, .bool Jfe, .bool Jag, .int .i64 Jc, .int .i64 Jl, .slice (some ⟨g1, 0, none⟩) Jan1 Jan1, .slice (some ⟨g2, 0, none⟩) Jan2 Jan2, .int .i64 Jap, .slice (some ⟨g3, 0, none⟩) Jmn Jmn, .slice (some ⟨g4, 0, none⟩) Jbn1 Jbn1, .slice (some ⟨g5, 0, none⟩) Jbn2 Jbn2, .int .i64 Jbp, .int .i64 Jrg] 0 (But.refl _ _)) (by omega) (by omega))
 ·exact (((O3.out.but (but_setN (w.heap.size + 1 + 1) u4 (.slice (some ⟨g4, 0, none⟩) Jbn1 Jbn1) (.slice (some ⟨g5, 0, none⟩) Jbn2 Jbn2) (.int .i64 Jbp)) (by omega)).but (but_setG (w.heap.size + 1 + 1) _ (.int .i64 Jrg)) (by omega)).but (but_scg (w.heap.size + 1) [.int .i64 Jp, .int .i64 Js, .bool Jst, .bool Jsk, .bool Jre, .bool Jfe, .bool Jag, .int .i64 Jc, .int .i64 Jl, .slice (some ⟨g1, 0, none⟩) Jan1 Jan1, .slice (some ⟨g2, 0, none⟩) Jan2 Jan2, .int .i64 Jap, .slice (some ⟨g3, 0, none⟩) Jmn Jmn, .slice (some ⟨g4, 0, none⟩) Jbn1 Jbn1, .slice (some ⟨g5, 0, none⟩) Jbn2 Jbn2, .int .i64 Jbp, .int .i64 Jrg] 0 (But.refl _ _)) (by omega))
 ·exact (((O4.out.but (but_setN (w.heap.size + 1 + 1) u4 (.slice (some ⟨g4, 0, none⟩) Jbn1 Jbn1) (.slice (some ⟨g5, 0, none⟩) Jbn2 Jbn2) (.int .i64 Jbp)) (by omega) (by omega)).but (but_setG (w.heap.size + 1 + 1) _ (.int .i64 Jrg)) (by omega) (by omega)).but (but_scg (w.heap.size + 1) [.int .i64 Jp, .int .i64 Js, .bool Jst, .bool Jsk, .bool Jre, .bool Jfe, .bool Jag, .int .i64 Jc, .int .i64 Jl, .slice (some ⟨g1, 0, none⟩) Jan1 Jan1, .slice (some ⟨g2, 0, none⟩) Jan2 Jan2, .int .i64 Jap, .slice (some ⟨g3, 0, none⟩) Jmn Jmn, .slice (some ⟨g4, 0, none⟩) Jbn1 Jbn1, .slice (some ⟨g5, 0, none⟩) Jbn2 Jbn2, .int .i64 Jbp, .int .i64 Jrg] 0 (But.refl _ _)) (by omega) (by omega))
 ·rw [size_scg]
  simp
  omega
 ·constructor <;> first | omega | (rw [size_scg]; simp; omega)
 ·exact below_scg (w.heap.size + 1) (by omega) [.int .i64 Jp, .int .i64 Js, .bool Jst, .bool Jsk, .bool Jre, .bool Jfe, .bool Jag, .int .i64 Jc, .int .i64 Jl, .slice (some ⟨g1, 0, none⟩) Jan1 Jan1, .slice (some ⟨g2, 0, none⟩) Jan2 Jan2, .int .i64 Jap, .slice (some ⟨g3, 0, none⟩) Jmn Jmn, .slice (some ⟨g4, 0, none⟩) Jbn1 Jbn1, .slice (some ⟨g5, 0, none⟩) Jbn2 Jbn2, .int .i64 Jbp, .int .i64 Jrg] 0 HE.out.b
/- Et9 -/
theorem mover_any (p s c l : Int) (st sk re fe ag : Bool) (player : Int) (s1 s2 : Option Addr) (sn1 sc1 sn2 sc2 : Nat) (sp sq : Int) (p1 p2 : Option Addr) (pn1 pc1 pn2 pc2 : Nat) (pp : Int) (t1 t2 : Option Addr) (tn1 tc1 tn2 tc2 : Nat) (tp tq : Int) (w : World) : Calls Try.prog 43 #[.agg #[.int .i64 p, .int .i64 s, .bool st, .bool sk, .bool re, .bool fe, .bool ag, .int .i64 c, .int .i64 l, .int .i64 player, .slice s1 sn1 sc1, .slice s2 sn2 sc2, .int .i64 sp, .int .i64 sq, .slice p1 pn1 pc1, .slice p2 pn2 pc2, .int .i64 pp, .slice t1 tn1 tc1, .slice t2 tn2 tc2, .int .i64 tp, .int .i64 tq]] w (BelP (.int .i64 player) w) := by
 go_enter Try.func43, Try.ntmps43
 go_wp2_with fail
 go_ret
 exact ⟨rfl, al1 _ _⟩
theorem bd2 {xs ys : List Int} (h : seedB xs ys = true) (l2 : ys.length = 2) (j : Nat) : 0 ≤ ys.getD j 0 ∧ ys.getD j 0 ≤ 1000000 := by
 match ys, l2 with
 | [y0, y1], _ =>
  obtain ⟨q1, q2, q3⟩ := seedB_parts h
  have q4 := posB_tot q1
  simp only [posB, List.all_cons, List.all_nil, Bool.and_true, Bool.and_eq_true, decide_eq_true_eq] at q2
  have e : tot [y0, y1] = y0 + y1 := by simp [tot]
  rw [e] at q3
  match j with
  | 0 => simp; omega
  | 1 => simp; omega
  | n + 2 => simp
def RcP (ok : Bool) (ns : List Int) (w : World) (e : Ending) (w' : World) : Prop :=
 if ok = true then ∃ v, e = .returned (.tuple #[v, .int .i64 0]) ∧ w'.ownsRow w.heap.size 2 1 v ns.length (nvs ns) ∧ Below w.heap.size w w'
 else e = .returned (.tuple #[.slice none 0 0, .int .i64 1]) ∧ Below w.heap.size w w'
def gnsV (f : Ps → Int → Option R7) (q : Ps) (ms : List Int) : List Int := match runO f q ms with
 | none => []
 | some rs => rs.map R7.gn
def mvsV (f : Ps → Int → Option R7) (q : Ps) (ms : List Int) : List Int := match runO f q ms with
 | none => []
 | some rs => ((q :: rs.map R7.ps).take rs.length).map Ps.pl
theorem et_gains {p c l : Int} {st sk re fe ag : Bool} {q0 : Ps} {ms : List Int} {L : List (T21 × Q21)} {q : Ps} {rs : List R7} (h : runO (stp p c l st sk re fe ag) q0 ms = some rs) (h1 : L.map (fun x => x.1.r) = rs) (h2 : L.map (fun x => x.1.q) ++ [q] = q0 :: rs.map R7.ps) :
  L.map (fun x => x.1.r.ys.getD x.1.q.pl.toNat 0 - x.1.q.ys.getD x.1.q.pl.toNat 0) = gnsV (stp p c l st sk re fe ag) q0 ms := by
 unfold gnsV
 rw [h]
 refine List.ext_getElem? (fun i => ?_)
 rw [List.getElem?_map, List.getElem?_map]
 have e1 : rs[i]? = (L[i]?).map (fun x => x.1.r) := by rw [← h1, List.getElem?_map]
 rw [e1]
 cases hx : L[i]? with
 | none => rfl
 | some x =>
  have e2 : (q0 :: rs.map R7.ps)[i]? = some x.1.q := by
   rw [← h2, List.getElem?_append_left (by rw [List.length_map]; exact (List.getElem?_eq_some_iff.1 hx).1), List.getElem?_map, hx]
   rfl
  rw [hx] at e1
  have := run_gn h i x.1.r x.1.q e1 e2
  simp only [Option.map_some, this]
theorem et_movers {f : Ps → Int → Option R7} {q0 : Ps} {ms : List Int} {L : List (T21 × Q21)} {q : Ps} {rs : List R7} (h : runO f q0 ms = some rs) (h1 : L.map (fun x => x.1.r) = rs) (h2 : L.map (fun x => x.1.q) ++ [q] = q0 :: rs.map R7.ps) :
  L.map (fun x => x.1.q.pl) = mvsV f q0 ms := by
 unfold mvsV
 rw [h]
 have e : rs.length = (L.map (fun x => x.1.q)).length := by rw [← h1, List.length_map, List.length_map]
 show _ = ((q0 :: rs.map R7.ps).take rs.length).map Ps.pl
 rw [← h2, e]
 simp
theorem implGainsOf_any (Jp Js Jc Jl : Int) (Jst Jsk Jre Jfe Jag : Bool) (Ja1 Ja2 : Option Addr) (Jan1 Jac1 Jan2 Jac2 : Nat) (Jap : Int) (Jm : Option Addr) (Jmn Jmc : Nat) (Jb1 Jb2 : Option Addr) (Jbn1 Jbc1 Jbn2 Jbc2 : Nat) (Jbp Jrg : Int) (sx sy ms nx ny : List Int) (w : World) (h : GamR w Ja1 Ja2 Jan1 Jan2 Jm Jmn Jb1 Jb2 Jbn1 Jbn2 sx sy ms nx ny) :
  Calls Try.prog 28 #[.agg #[.int .i64 Jp, .int .i64 Js, .bool Jst, .bool Jsk, .bool Jre, .bool Jfe, .bool Jag, .int .i64 Jc, .int .i64 Jl, .slice Ja1 Jan1 Jac1, .slice Ja2 Jan2 Jac2, .int .i64 Jap, .slice Jm Jmn Jmc, .slice Jb1 Jbn1 Jbc1, .slice Jb2 Jbn2 Jbc2, .int .i64 Jbp, .int .i64 Jrg]] w (RcP (okG Jp Js Jc Jl Jst Jsk Jre Jfe Jag Jan1 Jan2 Jap sx sy ms Jbp nx ny Jrg) (gnsV (stp Jp Jc Jl Jst Jsk Jre Jfe Jag) ⟨Jap, sx, sy⟩ ms) w) := by
 have HB := Lib.hid (gmb_new Jp Js Jc Jl Jst Jsk Jre Jfe Jag Ja1 Ja2 Jan1 Jac1 Jan2 Jac2 Jap Jm Jmn Jmc Jb1 Jb2 Jbn1 Jbc1 Jbn2 Jbc2 Jbp Jrg w 34)
 have HRg := Lib.hid (GmAt.range HB.out.1)
 have HC := Lib.hid (each_gain (fun x => x.1.r.ys.getD x.1.q.pl.toNat 0 - x.1.q.ys.getD x.1.q.pl.toNat 0) Jp Js Jc Jl Jst Jsk Jre Jfe Jag Ja1 Ja2 Jan1 Jac1 Jan2 Jac2 Jap Jm Jmn Jmc Jb1 Jb2 Jbn1 Jbc1 Jbn2 Jbc2 Jbp Jrg sx sy ms nx ny _ (h.below HB.out.2) (fun w0 v pb b1 e1 b2 e2 sp sx sy v1 v2 ms L h1 d1 h2 d2 q rg R x hP hx hq hr => by
  obtain ⟨-, -, -, hpl, hsd⟩ := okP_parts hq.ok
  obtain ⟨-, -, -, -, hsd2⟩ := okP_parts hr.ok
  exact gain_any _ _ _ _ _ _ _ _ _ x.1.q.pl _ _ _ _ _ _ _ _ _ _ _ _ _ _ _ _ _ _ _ _ _ _ _ x.1.r.ys x.1.q.ys v (by omega) (hP.rws _ (hP.it x hx).g2).o.row (hP.rws _ (hP.it x hx).a2).o.row (hP.it x hx).l4 (hP.it x hx).l2 rfl rfl (bd2 hsd2 (hP.it x hx).l4 _) (bd2 hsd (hP.it x hx).l2 _)))
 generalize hok : okG Jp Js Jc Jl Jst Jsk Jre Jfe Jag Jan1 Jan2 Jap sx sy ms Jbp nx ny Jrg = ok at *
 clear h hok
 go_enter Try.func28, Try.ntmps28
 go_wp2_with (refine wpList_load_mid rfl 34 _ rfl w.heap.size 0 rfl _ _ HRg.out Try.underlying34 rfl (by kernel_rfl) ?_)
 refine HC.out.mono ?_
 intro e u hq
 unfold EtP at hq
 cases ok
 ·rw [if_neg (by decide)] at hq
  obtain ⟨rfl, hb⟩ := hq
  have HBe := Lib.hid (OnW.of9 HB.out.2 hb)
  clear hb HB HRg HC
  go_wp2_with fail
  go_ret2
  unfold RcP
  rw [if_neg (by decide)]
  exact ⟨rfl, HBe.out⟩
 ·rw [if_pos rfl] at hq
  obtain ⟨v, L, q, rs, rfl, hown, h0, h1, h2, hb⟩ := hq
  have HV := Lib.hid (et_gains h0 h1 h2)
  have HBe := Lib.hid (OnW.of9 HB.out.2 hb)
  have HO := Lib.hid (own_lower hown HB.out.2.size)
  clear hb hown h0 h1 h2 HB HRg HC
  go_wp2_with fail
  go_ret2
  unfold RcP
  rw [if_pos rfl]
  refine ⟨v, rfl, ?_, HBe.out⟩
  rw [← HV.out, List.length_map]
  exact HO.out
theorem implMoversOf_any (Jp Js Jc Jl : Int) (Jst Jsk Jre Jfe Jag : Bool) (Ja1 Ja2 : Option Addr) (Jan1 Jac1 Jan2 Jac2 : Nat) (Jap : Int) (Jm : Option Addr) (Jmn Jmc : Nat) (Jb1 Jb2 : Option Addr) (Jbn1 Jbc1 Jbn2 Jbc2 : Nat) (Jbp Jrg : Int) (sx sy ms nx ny : List Int) (w : World) (h : GamR w Ja1 Ja2 Jan1 Jan2 Jm Jmn Jb1 Jb2 Jbn1 Jbn2 sx sy ms nx ny) :
  Calls Try.prog 23 #[.agg #[.int .i64 Jp, .int .i64 Js, .bool Jst, .bool Jsk, .bool Jre, .bool Jfe, .bool Jag, .int .i64 Jc, .int .i64 Jl, .slice Ja1 Jan1 Jac1, .slice Ja2 Jan2 Jac2, .int .i64 Jap, .slice Jm Jmn Jmc, .slice Jb1 Jbn1 Jbc1, .slice Jb2 Jbn2 Jbc2, .int .i64 Jbp, .int .i64 Jrg]] w (RcP (okG Jp Js Jc Jl Jst Jsk Jre Jfe Jag Jan1 Jan2 Jap sx sy ms Jbp nx ny Jrg) (mvsV (stp Jp Jc Jl Jst Jsk Jre Jfe Jag) ⟨Jap, sx, sy⟩ ms) w) := by
 have HB := Lib.hid (gmb_new Jp Js Jc Jl Jst Jsk Jre Jfe Jag Ja1 Ja2 Jan1 Jac1 Jan2 Jac2 Jap Jm Jmn Jmc Jb1 Jb2 Jbn1 Jbc1 Jbn2 Jbc2 Jbp Jrg w 34)
 have HRg := Lib.hid (GmAt.range HB.out.1)
 have HC := Lib.hid (each_mover (fun x => x.1.q.pl) Jp Js Jc Jl Jst Jsk Jre Jfe Jag Ja1 Ja2 Jan1 Jac1 Jan2 Jac2 Jap Jm Jmn Jmc Jb1 Jb2 Jbn1 Jbc1 Jbn2 Jbc2 Jbp Jrg sx sy ms nx ny _ (h.below HB.out.2) (fun w0 v pb b1 e1 b2 e2 sp sx sy v1 v2 ms L h1 d1 h2 d2 q rg R x hP hx hq hr => by
  exact mover_any _ _ _ _ _ _ _ _ _ x.1.q.pl _ _ _ _ _ _ _ _ _ _ _ _ _ _ _ _ _ _ _ _ _ _ _ v))
 generalize hok : okG Jp Js Jc Jl Jst Jsk Jre Jfe Jag Jan1 Jan2 Jap sx sy ms Jbp nx ny Jrg = ok at *
 clear h hok
 go_enter Try.func23, Try.ntmps23
 go_wp2_with (refine wpList_load_mid rfl 34 _ rfl w.heap.size 0 rfl _ _ HRg.out Try.underlying34 rfl (by kernel_rfl) ?_)
 refine HC.out.mono ?_
 intro e u hq
 unfold EtP at hq
 cases ok
 ·rw [if_neg (by decide)] at hq
  obtain ⟨rfl, hb⟩ := hq
  have HBe := Lib.hid (OnW.of9 HB.out.2 hb)
  clear hb HB HRg HC
  go_wp2_with fail
  go_ret2
  unfold RcP
  rw [if_neg (by decide)]
  exact ⟨rfl, HBe.out⟩
 ·rw [if_pos rfl] at hq
  obtain ⟨v, L, q, rs, rfl, hown, h0, h1, h2, hb⟩ := hq
  have HV := Lib.hid (et_movers h0 h1 h2)
  have HBe := Lib.hid (OnW.of9 HB.out.2 hb)
  have HO := Lib.hid (own_lower hown HB.out.2.size)
  clear hb hown h0 h1 h2 HB HRg HC
  go_wp2_with fail
  go_ret2
  unfold RcP
  rw [if_pos rfl]
  refine ⟨v, rfl, ?_, HBe.out⟩
  rw [← HV.out, List.length_map]
  exact HO.out
/- EtS -/
theorem specGainsOf_any (Jp Js Jc Jl : Int) (Jst Jsk Jre Jfe Jag : Bool) (Ja1 Ja2 : Option Addr) (Jan1 Jac1 Jan2 Jac2 : Nat) (Jap : Int) (Jm : Option Addr) (Jmn Jmc : Nat) (Jb1 Jb2 : Option Addr) (Jbn1 Jbc1 Jbn2 Jbc2 : Nat) (Jbp Jrg : Int) (sx sy ms nx ny : List Int) (w : World) (h : GamR w Ja1 Ja2 Jan1 Jan2 Jm Jmn Jb1 Jb2 Jbn1 Jbn2 sx sy ms nx ny) :
  Calls Try.prog 27 #[.agg #[.int .i64 Jp, .int .i64 Js, .bool Jst, .bool Jsk, .bool Jre, .bool Jfe, .bool Jag, .int .i64 Jc, .int .i64 Jl, .slice Ja1 Jan1 Jac1, .slice Ja2 Jan2 Jac2, .int .i64 Jap, .slice Jm Jmn Jmc, .slice Jb1 Jbn1 Jbc1, .slice Jb2 Jbn2 Jbc2, .int .i64 Jbp, .int .i64 Jrg]] w (RcP (okG Jp Js Jc Jl Jst Jsk Jre Jfe Jag Jan1 Jan2 Jap sx sy ms Jbp nx ny Jrg) (gnsV (stp Jp Jc Jl Jst Jsk Jre Jfe Jag) ⟨Jap, sx, sy⟩ ms) w) := by
 have HB := Lib.hid (gmb_new Jp Js Jc Jl Jst Jsk Jre Jfe Jag Ja1 Ja2 Jan1 Jac1 Jan2 Jac2 Jap Jm Jmn Jmc Jb1 Jb2 Jbn1 Jbc1 Jbn2 Jbc2 Jbp Jrg w 34)
 have HC := Lib.hid (l08Ok_any Jp Js Jc Jl Jst Jsk Jre Jfe Jag Ja1 Ja2 Jan1 Jac1 Jan2 Jac2 Jap Jm Jmn Jmc Jb1 Jb2 Jbn1 Jbc1 Jbn2 Jbc2 Jbp Jrg sx sy ms nx ny w.heap.size _ HB.out.1 (h.below HB.out.2))
 have H := Lib.hid h
 clear h
 cases hok : okG Jp Js Jc Jl Jst Jsk Jre Jfe Jag Jan1 Jan2 Jap sx sy ms Jbp nx ny Jrg
 ·rw [hok] at HC
  clear hok
  go_enter Try.func27, Try.ntmps27
  go_wp2_with fail
  refine HC.out.mono ?_
  rintro e u ⟨rfl, hb⟩
  have HB := Lib.hid (HB.out.below hb)
  clear hb
  go_wp2_with fail
  go_ret2
  unfold RcP
  rw [if_neg (by decide)]
  exact ⟨rfl, HB.out.2⟩
 ·rw [hok] at HC
  obtain ⟨hk, h120, -, rs, hro, -⟩ := okG_parts hok
  obtain ⟨-, -, e2, -, -⟩ := okP_parts hk
  subst e2
  have HOk := Lib.hid (show OkQ Jp Js Jc Jl Jst Jag Jan1 ⟨Jap, sx, sy⟩ from ⟨hk, H.out.s.l1, H.out.s.l2⟩)
  have Hro := Lib.hid hro
  have hlm := H.out.lm
  have hmn : Jmn ≤ 1000000 := by omega
  clear hok hk h120 hro hlm
  go_enter Try.func27, Try.ntmps27
  go_wp2_with fail
  refine HC.out.mono ?_
  rintro e u ⟨rfl, hb⟩
  have HB := Lib.hid (HB.out.below hb)
  clear hb
  obtain ⟨hgb, m12⟩ := (gm_mv HB.out).1
  have HRn := Lib.hid (l08Run_any Jp Js Jc Jl Jst Jsk Jre Jfe Jag Ja1 Ja2 Jan1 Jac1 Jac2 Jap sx sy ms w.heap.size Jm Jmn Jmc u HB.out.1.ru HB.out.1.p9 (H.out.s.below HB.out.2) (H.out.m.below HB.out.2) H.out.lm hmn HOk.out)
  go_wp2_with fail
  refine HRn.out.mono ?_
  rintro e u2 ⟨v1, v2, L, gs, rfl, hL, hgn, hll, hle, hR, hb⟩
  unfold RunR at hR
  rw [Hro.out] at hR
  have HG := Lib.hid hR.2
  have Hgn := Lib.hid (own_lower hgn HB.out.2.size)
  have HBe := Lib.hid (HB.out.below hb)
  clear hL hgn hll hle hR hb HRn
  go_wp2_with fail
  go_ret2
  unfold RcP gnsV
  rw [if_pos rfl, Hro.out]
  refine ⟨v2, rfl, ?_, HBe.out.2⟩
  show World.ownsRow _ _ _ _ _ (rs.map R7.gn).length (nvs (rs.map R7.gn))
  rw [← HG.out]
  exact Hgn.out
theorem specMoversOf_any (Jp Js Jc Jl : Int) (Jst Jsk Jre Jfe Jag : Bool) (Ja1 Ja2 : Option Addr) (Jan1 Jac1 Jan2 Jac2 : Nat) (Jap : Int) (Jm : Option Addr) (Jmn Jmc : Nat) (Jb1 Jb2 : Option Addr) (Jbn1 Jbc1 Jbn2 Jbc2 : Nat) (Jbp Jrg : Int) (sx sy ms nx ny : List Int) (w : World) (h : GamR w Ja1 Ja2 Jan1 Jan2 Jm Jmn Jb1 Jb2 Jbn1 Jbn2 sx sy ms nx ny) :
  Calls Try.prog 22 #[.agg #[.int .i64 Jp, .int .i64 Js, .bool Jst, .bool Jsk, .bool Jre, .bool Jfe, .bool Jag, .int .i64 Jc, .int .i64 Jl, .slice Ja1 Jan1 Jac1, .slice Ja2 Jan2 Jac2, .int .i64 Jap, .slice Jm Jmn Jmc, .slice Jb1 Jbn1 Jbc1, .slice Jb2 Jbn2 Jbc2, .int .i64 Jbp, .int .i64 Jrg]] w (RcP (okG Jp Js Jc Jl Jst Jsk Jre Jfe Jag Jan1 Jan2 Jap sx sy ms Jbp nx ny Jrg) (mvsV (stp Jp Jc Jl Jst Jsk Jre Jfe Jag) ⟨Jap, sx, sy⟩ ms) w) := by
 have HB := Lib.hid (gmb_new Jp Js Jc Jl Jst Jsk Jre Jfe Jag Ja1 Ja2 Jan1 Jac1 Jan2 Jac2 Jap Jm Jmn Jmc Jb1 Jb2 Jbn1 Jbc1 Jbn2 Jbc2 Jbp Jrg w 34)
 have HC := Lib.hid (l08Ok_any Jp Js Jc Jl Jst Jsk Jre Jfe Jag Ja1 Ja2 Jan1 Jac1 Jan2 Jac2 Jap Jm Jmn Jmc Jb1 Jb2 Jbn1 Jbc1 Jbn2 Jbc2 Jbp Jrg sx sy ms nx ny w.heap.size _ HB.out.1 (h.below HB.out.2))
 have H := Lib.hid h
 obtain ⟨i1, hi1, hy0, hy1, hy2⟩ := info_parts infoN
 clear h
 cases hok : okG Jp Js Jc Jl Jst Jsk Jre Jfe Jag Jan1 Jan2 Jap sx sy ms Jbp nx ny Jrg
 ·rw [hok] at HC
  clear hok
  go_enter Try.func22, Try.ntmps22
  go_wp2_with fail
  refine HC.out.mono ?_
  rintro e u ⟨rfl, hb⟩
  have HB := Lib.hid (HB.out.below hb)
  clear hb
  go_wp2_with fail
  go_ret2
  unfold RcP
  rw [if_neg (by decide)]
  exact ⟨rfl, HB.out.2⟩
 ·rw [hok] at HC
  obtain ⟨hk, h120, -, rs, hro, -⟩ := okG_parts hok
  obtain ⟨-, -, e2, -, -⟩ := okP_parts hk
  subst e2
  have HOk := Lib.hid (show OkQ Jp Js Jc Jl Jst Jag Jan1 ⟨Jap, sx, sy⟩ from ⟨hk, H.out.s.l1, H.out.s.l2⟩)
  have Hro := Lib.hid hro
  have hlm := H.out.lm
  have hmn : Jmn ≤ 1000000 := by omega
  have hmx : Jmn ≤ 120 := by omega
  clear hok hk h120 hro hlm
  go_enter Try.func22, Try.ntmps22
  go_wp2_with fail
  refine HC.out.mono ?_
  rintro e u ⟨rfl, hb⟩
  have HB := Lib.hid (HB.out.below hb)
  clear hb
  obtain ⟨hgb, m12⟩ := (gm_mv HB.out).1
  have HRn := Lib.hid (l08Run_any Jp Js Jc Jl Jst Jsk Jre Jfe Jag Ja1 Ja2 Jan1 Jac1 Jac2 Jap sx sy ms w.heap.size Jm Jmn Jmc u HB.out.1.ru HB.out.1.p9 (H.out.s.below HB.out.2) (H.out.m.below HB.out.2) H.out.lm hmn HOk.out)
  go_wp2_with fail
  refine HRn.out.mono ?_
  rintro e u2 ⟨v1, v2, L, gs, rfl, hL, hgn, hll, hle, hR, hb⟩
  unfold RunR at hR
  rw [Hro.out] at hR
  obtain ⟨hR1, hR2⟩ := hR
  have hrl := runO_len Hro.out
  have hgl : gs.length = Jmn := by rw [hR2, List.length_map, hrl]; exact H.out.lm
  obtain ⟨g1, cp1, rfl⟩ := slice_some hL.own (by omega)
  obtain ⟨a2, c2, rfl⟩ := slice_own hgn
  have HL := Lib.hid hL
  have HM1 := Lib.hid (show L.map Prod.fst = (⟨Jap, sx, sy⟩ : Ps) :: rs.map R7.ps from hR1)
  have HLl := Lib.hid (show L.length = Jmn + 1 by omega)
  have HRl := Lib.hid (show rs.length = Jmn by rw [hrl]; exact H.out.lm)
  have HBe := Lib.hid (HB.out.below hb)
  generalize gs.length = n2 at *
  clear hL hgn hll hle hR1 hR2 hb HRn hrl hgl m12
  rw [HLl.out]
  go_upto_region 4 with fail
  have HO0 := Lib.hid (World.ownsRow_made (base := u2.heap.size) (e := 2) (size := 1) u2 #[] 0 (Nat.le_refl _) (by decide) rfl)
  have HX := Lib.hid (al1 u2 (.cells #[] 2))
  go_wp2_with fail
  generalize u2.alloc (.cells #[] 2) = X at *
  go_loopw [6, 7] (fun v8 i wr => ∃ k : Nat, i = .int .i64 k ∧ k ≤ Jmn ∧ Below u2.heap.size u2 wr ∧ wr.ownsRow u2.heap.size 2 1 v8 k (nvs (((L.map Prod.fst).map Ps.pl).take k))) (fun _ i _ => Jmn - (intOf i).toNat)
  case atStart => exact ⟨0, rfl, Nat.zero_le _, HX.out, HO0.out⟩
  case round =>
   obtain ⟨k, rfl, hkN, hbw, hown⟩ := hrel
   have HSr := Lib.hid (HBe.out.below hbw)
   have HLr := Lib.hid (HL.out.below hbw)
   have Hbw := Lib.hid hbw
   have Hown := Lib.hid hown
   have m12 := (gm_mv HSr.out).1.2
   clear hbw hown
   by_cases hlt : k < Jmn
   ·obtain ⟨x, hx⟩ : ∃ x, L[k]? = some x := ⟨L[k]'(by rw [HLl.out]; omega), List.getElem?_eq_getElem _⟩
    have t2 : wr.cell? ⟨g1, k * 3 + 2, none⟩ = some (.int .i64 x.1.pl) := HLr.out.cell hx (o := 2) (by omega)
    have hx1 : ((L.map Prod.fst).map Ps.pl)[k]? = some x.1.pl := by rw [List.getElem?_map, List.getElem?_map, hx]; rfl
    have HNx := Lib.hid (nvs_take _ hx1)
    generalize x.1.pl = y at *
    have k0 : (0 : Int) ≤ (k : Int) := by omega
    have kq : (k : Int) < (Jmn : Int) := by omega
    have kq2 : (k : Int) < ((Jmn + 1 : Nat) : Int) := by omega
    clear hx hx1
    have hbase := Hbw.out.size
    go_wp2_with (at_builtin; refine wpList_append_lies _ rfl _ _ 24 rfl u2.heap.size 2 i1 (.int .i64 0) 1 8 Try.underlying24 hi1 hy0 hy1 hy2 rfl (by decide) u6 k (nvs (((L.map Prod.fst).map Ps.pl).take k)) rfl (own_keepS Hown.out (al1 _ _)) ⟨wr.heap.size, 0, none⟩ 1 1 (nvs [y]) rfl (by simp [nvs]) (row_news (row_oneL wr y 2)) (nvs_cell _) (by decide) (by unfold maxLen; omega) (by omega) (by simp; omega) _ rfl ?_; intro g' cap' w9 hown9 hgrow9 hat9 hlt9)
    have HB9 := Lib.hid ((Below.alloc Hbw.out Hbw.out.size (.cells #[.int .i64 y] 2)).grown hgrow9 (by simp; omega) (fun j hj => (own_lt Hown.out j hj).1))
    have Hown9 := Lib.hid hown9
    clear hown9 hgrow9 hat9 hlt9 t2
    go_wp2_with fail
    go_roundw
    case rel => exact ⟨k + 1, by go_num, by omega, HB9.out, by rw [HNx.out]; exact Hown9.out⟩
    case measure => simp [intOf]; omega
   ·obtain rfl : k = Jmn := by omega
    obtain ⟨va8, vc8, rfl⟩ := slice_own Hown.out
    go_wp2_with fail
    go_ret2
    unfold RcP mvsV
    rw [if_pos rfl, Hro.out]
    refine ⟨_, rfl, ?_, HSr.out.2⟩
    have hns : ((((⟨Jap, sx, sy⟩ : Ps) :: rs.map R7.ps).take rs.length).map Ps.pl) = ((L.map Prod.fst).map Ps.pl).take k := by rw [← HM1.out, HRl.out, List.map_take]
    have hnl : (((L.map Prod.fst).map Ps.pl).take k).length = k := by rw [List.length_take, List.length_map, List.length_map, HLl.out]; omega
    show World.ownsRow _ _ _ _ _ (((((⟨Jap, sx, sy⟩ : Ps) :: rs.map R7.ps).take rs.length).map Ps.pl)).length (nvs ((((⟨Jap, sx, sy⟩ : Ps) :: rs.map R7.ps).take rs.length).map Ps.pl))
    rw [hns, hnl]
    exact own_lower Hown.out HBe.out.2.size
/- RinP -/
def RIn (u : World) (lo hi : Nat) (a : Option Addr) (b : Nat) (L : List Int) : Prop := OutN u lo a b L ∧ (L ≠ [] → b < hi) ∧ hi ≤ u.heap.size
section
variable {u v : World} {lo hi b c d : Nat} {a : Option Addr} {L : List Int}
theorem RIn.below (h : RIn u lo hi a b L) (k : Below u.heap.size u v) : RIn v lo hi a b L := ⟨h.1.below k, h.2.1, Nat.le_trans h.2.2 k.size⟩
theorem RIn.drew (h : RIn u lo hi a b L) : RIn u.drew lo hi a b L := h.below (Below.refl _ _).drew
theorem RIn.but2 (h : RIn u lo hi a b L) (k : But2 c d u v) (hc : hi ≤ c ∨ c < lo) (hd : hi ≤ d ∨ d < lo) : RIn v lo hi a b L := by
 obtain ⟨ho, hlt, hs⟩ := h
 refine ⟨?_, hlt, Nat.le_trans hs k.size⟩
 by_cases hne : L = []
 ·subst hne
  exact ⟨rowN_nil _ _, ho.at_b, ho.new, fun h => absurd rfl h⟩
 ·have h1 := hlt hne
  have h2 := ho.new
  exact ho.but2 k (by omega) (by omega)
end
theorem rin_own {u : World} {lo n : Nat} {v : Value} {L : List Int} (h : u.ownsRow lo 2 1 v n (nvs L)) (hn : L.length = n) (hle : n ≤ 1000000) : ∃ a c b, v = .slice a n c ∧ RIn u lo u.heap.size a b L := by
 by_cases hne : L = []
 ·subst hne
  obtain ⟨_, ⟨hv, h0⟩ | ⟨g, cap, cur, hv, hb, _⟩⟩ := h
  ·subst h0
   exact ⟨none, 0, lo, hv, ⟨rowN_nil _ _, (fun _ _ e => by cases e), Nat.le_refl _, fun h => absurd rfl h⟩, (fun h => absurd rfl h), Nat.le_refl _⟩
  ·exact ⟨_, cap, g, hv, ⟨rowN_nil _ _, (fun _ _ e => by cases e; rfl), hb, fun h => absurd rfl h⟩, (fun h => absurd rfl h), Nat.le_refl _⟩
 ·obtain ⟨c, b, hv, ho, hlt, _⟩ := outN_own h hn (by omega) hne
  exact ⟨_, c, b, hv, ho, (fun _ => hlt), Nat.le_refl _⟩
def XIn (u : World) (lo x1 x2 n1 n2 : Nat) (xs ys : List Int) : Prop := PosO u lo (some ⟨x1, 0, none⟩) (some ⟨x2, 0, none⟩) x1 x2 n1 n2 xs ys
theorem XIn.below {u v : World} {lo x1 x2 n1 n2 : Nat} {xs ys : List Int} (h : XIn u lo x1 x2 n1 n2 xs ys) (k : Below u.heap.size u v) : XIn v lo x1 x2 n1 n2 xs ys := PosO.below h k
theorem XIn.drew {u : World} {lo x1 x2 n1 n2 : Nat} {xs ys : List Int} (h : XIn u lo x1 x2 n1 n2 xs ys) : XIn u.drew lo x1 x2 n1 n2 xs ys := PosO.below h (Below.refl _ _).drew
def GIn (u : World) (lo : Nat) (a : Option Addr) (b n : Nat) : Prop := OutN u lo a b (marksN 1 n)
theorem GIn.below {u v : World} {lo b n : Nat} {a : Option Addr} (h : GIn u lo a b n) (k : Below u.heap.size u v) : GIn v lo a b n := OutN.below h k
theorem GIn.drew {u : World} {lo b n : Nat} {a : Option Addr} (h : GIn u lo a b n) : GIn u.drew lo a b n := OutN.below h (Below.refl _ _).drew
/- Lg8 -/
theorem RIn.but5 {u v : World} {lo hi b k1 k2 k3 k4 k5 : Nat} {a : Option Addr} {L : List Int} (h : RIn u lo hi a b L) (k : But5 k1 k2 k3 k4 k5 u v) (c1 : hi ≤ k1 ∨ k1 < lo) (c2 : hi ≤ k2 ∨ k2 < lo) (c3 : hi ≤ k3 ∨ k3 < lo) (c4 : hi ≤ k4 ∨ k4 < lo) (c5 : hi ≤ k5 ∨ k5 < lo) : RIn v lo hi a b L := by
 obtain ⟨ho, hlt, hs⟩ := h
 refine ⟨?_, hlt, Nat.le_trans hs k.size⟩
 by_cases hne : L = []
 ·subst hne
  exact ⟨rowN_nil _ _, ho.at_b, ho.new, fun h => absurd rfl h⟩
 ·have h1 := hlt hne
  have h2 := ho.new
  obtain ⟨h3, h4⟩ := ho.free hne
  have n1 : b ≠ k1 := by omega
  have n2 : b ≠ k2 := by omega
  have n3 : b ≠ k3 := by omega
  have n4 : b ≠ k4 := by omega
  have n5 : b ≠ k5 := by omega
  refine ⟨?_, ho.at_b, ho.new, fun _ => ⟨Nat.lt_of_lt_of_le h3 k.size, fun o => (World.frozen?_of_block (w := u) (k.block b h3 n1 n2 n3 n4 n5)).trans (h4 o)⟩⟩
  obtain ⟨hl, h | ⟨g, o, ha, hg, hx⟩⟩ := ho.row
  ·exact ⟨hl, .inl h⟩
  ·refine ⟨hl, .inr ⟨g, o, ha, Nat.lt_of_lt_of_le hg k.size, fun i s hs => ?_⟩⟩
   obtain rfl := ho.at_b g o ha
   rw [k.cell hg n1 n2 n3 n4 n5]
   exact hx i s hs
theorem GamD.below {u v : World} {k1 k2 k3 k4 k5 : Nat} (h : GamD u k1 k2 k3 k4 k5) (k : Below u.heap.size u v) : GamD v k1 k2 k3 k4 k5 :=
 ⟨Nat.lt_of_lt_of_le h.l1 k.size, Nat.lt_of_lt_of_le h.l2 k.size, Nat.lt_of_lt_of_le h.l3 k.size, Nat.lt_of_lt_of_le h.l4 k.size, Nat.lt_of_lt_of_le h.l5 k.size, h.n13, h.n23, h.n14, h.n24, h.n15, h.n25, h.n34, h.n35⟩
theorem GmB.but5 {w u v : World} {k1 k2 k3 k4 k5 : Nat} {Jp Js Jc Jl : Int} {Jst Jsk Jre Jfe Jag : Bool} {Ja1 Ja2 : Option Addr} {Jan1 Jac1 Jan2 Jac2 : Nat} {Jap : Int} {Jm : Option Addr} {Jmn Jmc : Nat} {Jb1 Jb2 : Option Addr} {Jbn1 Jbc1 Jbn2 Jbc2 : Nat} {Jbp Jrg : Int} (h : GmB w w.heap.size Jp Js Jc Jl Jst Jsk Jre Jfe Jag Ja1 Ja2 Jan1 Jac1 Jan2 Jac2 Jap Jm Jmn Jmc Jb1 Jb2 Jbn1 Jbc1 Jbn2 Jbc2 Jbp Jrg u) (k : But5 k1 k2 k3 k4 k5 u v) (c1 : w.heap.size < k1) (c2 : w.heap.size < k2) (c3 : w.heap.size < k3) (c4 : w.heap.size < k4) (c5 : w.heap.size < k5) : GmB w w.heap.size Jp Js Jc Jl Jst Jsk Jre Jfe Jag Ja1 Ja2 Jan1 Jac1 Jan2 Jac2 Jap Jm Jmn Jmc Jb1 Jb2 Jbn1 Jbc1 Jbn2 Jbc2 Jbp Jrg v :=
 ⟨h.1.but5 k (by omega) (by omega) (by omega) (by omega) (by omega), Below.trans h.2 (k.below h.2.size (by omega) (by omega) (by omega) (by omega) (by omega))⟩
def RowX (ok : Bool) (ns : List Int) : List Int := if ok = true then ns else []
theorem RcP.ex {ok : Bool} {ns : List Int} {w w' : World} {e : Ending} (h : RcP ok ns w e w') : ∃ v, e = .returned (.tuple #[v, .int .i64 (if ok = true then 0 else 1)]) ∧ w'.ownsRow w.heap.size 2 1 v (RowX ok ns).length (nvs (RowX ok ns)) ∧ Below w.heap.size w w' := by
 unfold RcP at h
 cases ok
 ·rw [if_neg (by decide)] at h
  exact ⟨_, h.1, World.ownsRow_nil _ _ _ _, h.2⟩
 ·rw [if_pos rfl] at h
  exact h
theorem gns_le (p s c l : Int) (st sk re fe ag : Bool) {n1 n2 : Nat} {pp : Int} {xs ys ms : List Int} {bp : Int} {nx ny : List Int} {rg : Int} : (RowX (okG p s c l st sk re fe ag n1 n2 pp xs ys ms bp nx ny rg) (gnsV (stp p c l st sk re fe ag) ⟨pp, xs, ys⟩ ms)).length ≤ 120 := by
 unfold RowX
 cases h : okG p s c l st sk re fe ag n1 n2 pp xs ys ms bp nx ny rg
 ·simp
 ·obtain ⟨-, h1, -, rs, h2, -⟩ := okG_parts h
  rw [if_pos rfl]
  unfold gnsV
  rw [h2]
  have := runO_len h2
  simp only [List.length_map]
  omega
theorem mvs_le (p s c l : Int) (st sk re fe ag : Bool) {n1 n2 : Nat} {pp : Int} {xs ys ms : List Int} {bp : Int} {nx ny : List Int} {rg : Int} : (RowX (okG p s c l st sk re fe ag n1 n2 pp xs ys ms bp nx ny rg) (mvsV (stp p c l st sk re fe ag) ⟨pp, xs, ys⟩ ms)).length ≤ 120 := by
 unfold RowX
 cases h : okG p s c l st sk re fe ag n1 n2 pp xs ys ms bp nx ny rg
 ·simp
 ·obtain ⟨-, h1, -, rs, h2, -⟩ := okG_parts h
  rw [if_pos rfl]
  unfold mvsV
  rw [h2]
  have := runO_len h2
  simp only [List.length_map, List.length_take, List.length_cons]
  omega
end Go.Proofs.Ytmngmbpdiaocjaa
