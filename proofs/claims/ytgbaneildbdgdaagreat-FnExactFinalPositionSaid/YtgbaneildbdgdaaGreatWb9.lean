/- Re9, End13, Fin9, RinP, Win9, Win9I, one after the other (what the laws reach of them). No conditions. -/
import Derived.Test.YtgbaneildbdgdaaGreatWb8
import Derived.Test.YtgbaneildbdgdaaGreatWb3
namespace Go.Proofs.YtgbaneildbdgdaaGreat
open Go.Joins Go.ChangeShapes Go.WideShapes Go.ChangeAt Go.RowKit Go.Deep
set_option linter.unusedVariables false
set_option maxHeartbeats 8000000
set_option maxRecDepth 100000
/- Re9 -/
def finC (p s c l : Int) (st sk re fe ag : Bool) (n1 n2 : Nat) (pp : Int) (xs ys ms : List Int) (bp : Int) (nx ny : List Int) (rg : Int) : Int := if okG p s c l st sk re fe ag n1 n2 pp xs ys ms bp nx ny rg = true then (if endG p s c l st sk re fe ag pp xs ys ms bp nx ny rg = 0 then 6 else 0) else 1
theorem finC_parts {p s c l : Int} {st sk re fe ag : Bool} {n1 n2 : Nat} {pp : Int} {xs ys ms : List Int} {bp : Int} {nx ny : List Int} {rg : Int} (h : finC p s c l st sk re fe ag n1 n2 pp xs ys ms bp nx ny rg = 0) : okG p s c l st sk re fe ag n1 n2 pp xs ys ms bp nx ny rg = true ∧ endG p s c l st sk re fe ag pp xs ys ms bp nx ny rg ≠ 0 := by
 unfold finC at h
 split at h
 ·rename_i h1
  split at h
  ·omega
  ·rename_i h2
   exact ⟨h1, h2⟩
 ·omega
def RpF (p s c l : Int) (st sk re fe ag : Bool) (n1 : Nat) (sp : Int) (sx sy ms : List Int) (bp : Int) (nx ny : List Int) (rg : Int) (cd : Int) (w : World) (e : Ending) (w' : World) : Prop :=
 if cd = 0 then
  ∃ pb b1 e1 b2 e2 va vc ta tc L h1 d1 h2 d2 R, e = .returned (.tuple #[.agg (vals18 p s c l st sk re fe ag n1 b1 e1 b2 e2 sp (.slice va ms.length vc) (.slice ta L.length tc) h1 d1 h2 d2 bp rg).toArray, .int .i64 0]) ∧ PlK w pb p s c l st sk re fe ag n1 b1 e1 b2 e2 sp sx sy (.slice va ms.length vc) (.slice ta L.length tc) ms L h1 d1 h2 d2 ⟨bp, nx, ny⟩ rg R w' ∧ OkQ p s c l st ag n1 ⟨bp, nx, ny⟩ ∧ (-1 ≤ rg ∧ rg ≤ 1)
 else e = .returned (.tuple #[.agg zero18.toArray, .int .i64 cd]) ∧ Below w.heap.size w w'
theorem q_eq {q : Ps} {bp : Int} {nx ny : List Int} (h1 : q.xs = nx) (h2 : q.ys = ny) (h3 : q.pl = bp) : q = ⟨bp, nx, ny⟩ := by
 cases q
 subst h1
 subst h2
 subst h3
 rfl
theorem replayE_any (Jp Js Jc Jl : Int) (Jst Jsk Jre Jfe Jag : Bool) (Ja1 Ja2 : Option Addr) (Jan1 Jac1 Jan2 Jac2 : Nat) (Jap : Int) (Jm : Option Addr) (Jmn Jmc : Nat) (Jb1 Jb2 : Option Addr) (Jbn1 Jbc1 Jbn2 Jbc2 : Nat) (Jbp Jrg : Int) (sx sy ms nx ny : List Int) (w : World) (h : GamR w Ja1 Ja2 Jan1 Jan2 Jm Jmn Jb1 Jb2 Jbn1 Jbn2 sx sy ms nx ny) :
  Calls Tryz.prog 64 #[.agg #[.int .i64 Jp, .int .i64 Js, .bool Jst, .bool Jsk, .bool Jre, .bool Jfe, .bool Jag, .int .i64 Jc, .int .i64 Jl, .slice Ja1 Jan1 Jac1, .slice Ja2 Jan2 Jac2, .int .i64 Jap, .slice Jm Jmn Jmc, .slice Jb1 Jbn1 Jbc1, .slice Jb2 Jbn2 Jbc2, .int .i64 Jbp, .int .i64 Jrg]] w (RpF Jp Js Jc Jl Jst Jsk Jre Jfe Jag Jan1 Jap sx sy ms Jbp nx ny Jrg (finC Jp Js Jc Jl Jst Jsk Jre Jfe Jag Jan1 Jan2 Jap sx sy ms Jbp nx ny Jrg) w) := by
 have HB := Lib.hid (rpb_new Jp Js Jc Jl Jst Jsk Jre Jfe Jag Ja1 Ja2 Jan1 Jac1 Jan2 Jac2 Jap Jm Jmn Jmc Jb1 Jb2 Jbn1 Jbc1 Jbn2 Jbc2 Jbp Jrg w 35 72)
 have HRg := Lib.hid (GmAt.range HB.out.1)
 have HC := Lib.hid (replay_any Jp Js Jc Jl Jst Jsk Jre Jfe Jag Ja1 Ja2 Jan1 Jac1 Jan2 Jac2 Jap Jm Jmn Jmc Jb1 Jb2 Jbn1 Jbc1 Jbn2 Jbc2 Jbp Jrg sx sy ms nx ny _ (h.below HB.out.2.2))
 have Hl := Lib.hid (And.intro h.s.l1 h.s.l2)
 obtain ⟨cd, hcd⟩ : ∃ cd, finC Jp Js Jc Jl Jst Jsk Jre Jfe Jag Jan1 Jan2 Jap sx sy ms Jbp nx ny Jrg = cd := ⟨_, rfl⟩
 rw [hcd]
 unfold finC at hcd
 clear h
 go_enter Tryz.func64, Tryz.ntmps64
 go_upto_region 1 with fail
 generalize (w.alloc (.cells #[.int .i64 Jp, .int .i64 Js, .bool Jst, .bool Jsk, .bool Jre, .bool Jfe, .bool Jag, .int .i64 Jc, .int .i64 Jl, .slice Ja1 Jan1 Jac1, .slice Ja2 Jan2 Jac2, .int .i64 Jap, .slice Jm Jmn Jmc, .slice Jb1 Jbn1 Jbc1, .slice Jb2 Jbn2 Jbc2, .int .i64 Jbp, .int .i64 Jrg] 35)).alloc (.cells #[.int .i64 0, .int .i64 0, .bool false, .bool false, .bool false, .bool false, .bool false, .int .i64 0, .int .i64 0, .slice none 0 0, .slice none 0 0, .int .i64 0, .slice none 0 0, .slice none 0 0, .slice none 0 0, .int .i64 0, .int .i64 0, .slice none 0 0] 72) = U at *
 cases hok : okG Jp Js Jc Jl Jst Jsk Jre Jfe Jag Jan1 Jan2 Jap sx sy ms Jbp nx ny Jrg
 ·rw [hok] at HC
  rw [hok, if_neg (by decide)] at hcd
  subst hcd
  clear hok
  go_wp2_with (refine wpList_load_mid rfl 35 _ rfl w.heap.size 0 rfl _ _ HRg.out Tryz.underlying35 rfl (by kernel_rfl) ?_)
  refine HC.out.mono ?_
  intro e u hq
  obtain ⟨cs, hc1, hc2, rfl, hb⟩ := hq.d
  have HCs := Lib.hid (And.intro hc1 hc2)
  have HB := Lib.hid (HB.out.below hb)
  have hsz := HB.out.2.1.lt
  clear hq hb hc1 hc2 HRg
  have HY := Lib.hid (HB.out.below (below_scg u.heap.size (Nat.le_refl _) cs 0 (al1 u (.cells #[.int .i64 0, .int .i64 0, .bool false, .bool false, .bool false, .bool false, .bool false, .int .i64 0, .int .i64 0, .slice none 0 0, .slice none 0 0, .int .i64 0, .slice none 0 0, .slice none 0 0, .slice none 0 0, .int .i64 0, .int .i64 0, .slice none 0 0] 72))))
  go_wp2_with (first | (refine wpList_store_mid rfl 72 _ _ rfl u.heap.size 0 cs.toArray rfl rfl (by rw [show cs.toArray.size = 18 from by simpa using HCs.out.1]; exact there18 u 72) (by rw [show cs.toArray.size = 18 from by simpa using HCs.out.1]; kernel_rfl) HCs.out.2 ?_) | (refine wpList_store_mid rfl 72 _ _ rfl (w.heap.size + 1) 0 zero18.toArray rfl rfl HY.out.2.1.th (by kernel_rfl) zero18_one ?_))
  have hrun := run_loadVar_mid (P := Tryz.prog) _ (w.heap.size + 1) 0 72 zero18 _ (World.rangeAt_setCells_same _ (w.heap.size + 1) 0 zero18 HY.out.2.1.th) Tryz.underlying72 rfl (by kernel_rfl)
  refine bodyPost_ret (v := .tuple #[.agg zero18.toArray, .int .i64 1]) ?_ rfl ?_
  ·simp [results, Tryz.results64, Result.andThen_ok, asAddr, hrun]
  ·unfold RpF
   rw [if_neg (by decide)]
   exact ⟨rfl, below_scg (w.heap.size + 1) (by omega) _ 0 HY.out.2.2⟩
 ·rw [hok] at HC
  have Hok := Lib.hid hok
  rw [hok, if_pos rfl] at hcd
  have Hcd := Lib.hid hcd
  clear hok hcd
  go_wp2_with (refine wpList_load_mid rfl 35 _ rfl w.heap.size 0 rfl _ _ HRg.out Tryz.underlying35 rfl (by kernel_rfl) ?_)
  refine HC.out.mono ?_
  intro e u hq
  unfold RpP at hq
  rw [if_pos rfl] at hq
  obtain ⟨pb, b1, e1, b2, e2, v1, v2, L, h1, d1, h2, d2, q, R, rs, rfl, hP, hro, hq1, hL1, hL2⟩ := hq
  have hee := end_eq Hok.out Hl.out.1 Hl.out.2 hro hq1 hL2
  obtain ⟨-, h120, hrg, rs', e1', e2', e3', e4'⟩ := okG_parts Hok.out
  rw [hro] at e1'
  cases e1'
  rw [← hq1] at e2' e3' e4'
  obtain rfl := q_eq e2' e3' e4'
  have HE := Lib.hid hee.2
  have HQ := Lib.hid (And.intro hee.1 hrg)
  obtain ⟨va, vc, rfl⟩ := slice_own hP.mo
  obtain ⟨ta, tc, rfl⟩ := slice_own hP.tu
  have hLe : L.length = ms.length := by
   have e1 := runO_len hro
   have e2 := congrArg List.length hL1
   rw [List.length_map] at e2
   omega
  have HLn := Lib.hid (And.intro hLe h120)
  have HP := Lib.hid hP
  have HB1 := HB
  have HB := Lib.hid (HB.out.below hP.be)
  obtain ⟨cs, hcs⟩ : ∃ cs, cs = vals18 Jp Js Jc Jl Jst Jsk Jre Jfe Jag Jan1 b1 e1 b2 e2 Jap (.slice va ms.length vc) (.slice ta L.length tc) h1 d1 h2 d2 Jbp Jrg := ⟨_, rfl⟩
  have HCs := Lib.hid (show cs.length = 18 ∧ cs.toArray.all (·.oneCell') = true from by rw [hcs]; exact ⟨rfl, vals18_one _ _ _ _ _ _ _ _ _ _ _ _ _ _ _ _ _ _ _ _ _ _ _ _ _ _ _⟩)
  rw [← hcs]
  have Hcs := Lib.hid hcs
  clear hcs
  clear hP hro hq1 hL1 hL2 hLe HRg HC hee e2' e3' e4' hrg
  go_upto_region 2 with (refine wpList_store_mid rfl 72 _ _ rfl u.heap.size 0 cs.toArray rfl rfl (by rw [show cs.toArray.size = 18 from by simpa using HCs.out.1]; exact there18 u 72) (by rw [show cs.toArray.size = 18 from by simpa using HCs.out.1]; kernel_rfl) HCs.out.2 ?_)
  generalize hX : World.setCells _ _ _ _ = X
  have hM := HP.out.move 72 X (by rw [← Hcs.out]; exact hX.symm)
  have HM := Lib.hid hM.1
  have HY := Lib.hid (HB.out.below hM.2)
  have HRp : Hid (Calls Tryz.prog 60 #[.pointer (some ⟨u.heap.size, 0, none⟩), .int .i64 1] X (BelP (.int .i64 (endG Jp Js Jc Jl Jst Jsk Jre Jfe Jag Jap sx sy ms Jbp nx ny Jrg)) X)) := Lib.hid (by
   have h9 := endFrom_any _ _ _ _ _ _ _ _ _ X hM.1 HQ.out.1 HLn.out.1 HLn.out.2 1 (.inl rfl)
   rw [if_pos rfl] at h9
   rw [HE.out]
   exact h9)
  have hUs := HB1.out.2.1.lt
  generalize u.heap.size = M at *
  clear hX hM HP HB
  go_wp2_with fail
  refine HRp.out.mono ?_
  rintro e u2 ⟨rfl, hb⟩
  have HM := Lib.hid (HM.out.below hb)
  have HY := Lib.hid (HY.out.below hb)
  have hsz := HY.out.2.1.lt
  clear hb HRp
  by_cases hz : endG Jp Js Jc Jl Jst Jsk Jre Jfe Jag Jap sx sy ms Jbp nx ny Jrg = 0
  ·obtain rfl : cd = 6 := by rw [← Hcd.out, if_pos hz]
   clear Hcd
   rw [hz]
   clear hz
   go_wp2_with (refine wpList_store_mid rfl 72 _ _ rfl (w.heap.size + 1) 0 zero18.toArray rfl rfl HY.out.2.1.th (by kernel_rfl) zero18_one ?_)
   have hrun := run_loadVar_mid (P := Tryz.prog) _ (w.heap.size + 1) 0 72 zero18 _ (World.rangeAt_setCells_same _ (w.heap.size + 1) 0 zero18 HY.out.2.1.th) Tryz.underlying72 rfl (by kernel_rfl)
   refine bodyPost_ret (v := .tuple #[.agg zero18.toArray, .int .i64 6]) ?_ rfl ?_
   ·simp [results, Tryz.results64, Result.andThen_ok, asAddr, hrun]
   ·unfold RpF
    rw [if_neg (by decide)]
    exact ⟨rfl, below_scg (w.heap.size + 1) (by omega) _ 0 HY.out.2.2⟩
  ·have dz : (endG Jp Js Jc Jl Jst Jsk Jre Jfe Jag Jap sx sy ms Jbp nx ny Jrg == 0) = false := by simpa using hz
   obtain rfl : cd = 0 := by rw [← Hcd.out, if_neg hz]
   clear Hcd
   generalize endG Jp Js Jc Jl Jst Jsk Jre Jfe Jag Jap sx sy ms Jbp nx ny Jrg = en at *
   clear hz
   have HRgP := Lib.hid (show u2.rangeAt M 0 cs from by rw [Hcs.out]; exact HM.out.rg18)
   go_wp2_with (first | (refine wpList_load_mid rfl 72 _ rfl M 0 rfl _ _ HRgP.out Tryz.underlying72 rfl (by rw [show cs.length = 18 from HCs.out.1]; kernel_rfl) ?_) | (refine wpList_store_mid rfl 72 _ _ rfl (w.heap.size + 1) 0 cs.toArray rfl rfl (by rw [show cs.toArray.size = 18 from by simpa using HCs.out.1]; exact HY.out.2.1.th) (by rw [show cs.toArray.size = 18 from by simpa using HCs.out.1]; kernel_rfl) HCs.out.2 ?_))
   have hrun := run_loadVar_mid (P := Tryz.prog) _ (w.heap.size + 1) 0 72 cs _ (World.rangeAt_setCells_same u2 (w.heap.size + 1) 0 cs (by have := HY.out.2.1.th; rw [show cs.length = 18 from HCs.out.1]; exact this)) Tryz.underlying72 rfl (by rw [show cs.length = 18 from HCs.out.1]; kernel_rfl)
   refine bodyPost_ret (v := .tuple #[.agg cs.toArray, .int .i64 0]) ?_ rfl ?_
   ·simp [results, Tryz.results64, Result.andThen_ok, asAddr, hrun]
   ·unfold RpF
    rw [if_pos rfl, Hcs.out]
    exact ⟨_, b1, e1, b2, e2, va, vc, ta, tc, L, h1, d1, h2, d2, R, rfl, HM.out.leave HB1.out.2.2 HB1.out.2.1.lt (by omega) (but_scg (w.heap.size + 1) _ 0 (But.refl _ _)), HQ.out.1, HQ.out.2⟩
/- End13 -/
structure Es13 (w : World) (rb pb : Nat) (p s c l : Int) (st sk re fe ag : Bool) (p1 p2 : Option Addr) (pn1 pc1 pn2 pc2 : Nat) (pp : Int) (s0 b5 c5 b6 c6 : Nat) (xs : List Int) (y0 y1 : Int) (u : World) : Prop where
 po : Po13 u pb p1 p2 pn1 pc1 pn2 pc2 pp
 ru : RuAt u rb p s c l st sk re fe ag
 z : ZeroP u w.heap.size
 s : PoAt u s0 (some ⟨b5, 0, none⟩) (some ⟨b6, 0, none⟩) pn1 c5 2 c6 pp
 o : PosO u (w.heap.size + 1) (some ⟨b5, 0, none⟩) (some ⟨b6, 0, none⟩) b5 b6 pn1 2 xs [y0, y1]
 l5 : b5 < u.heap.size
 l6 : b6 < u.heap.size
 k5 : pn1 ≤ c5
 k6 : 2 ≤ c6
 d5 : s0 ≠ b5
 d6 : s0 ≠ b6
 ms : w.heap.size + 1 ≤ s0
 hr : rb < w.heap.size
 hp : pb < w.heap.size
 be : Below w.heap.size w u
section
variable {w u v : World} {rb pb : Nat} {p s c l : Int} {st sk re fe ag : Bool} {p1 p2 : Option Addr} {pn1 pc1 pn2 pc2 : Nat} {pp : Int} {s0 b5 c5 b6 c6 : Nat} {xs : List Int} {y0 y1 : Int}
theorem Es13.below (h : Es13 w rb pb p s c l st sk re fe ag p1 p2 pn1 pc1 pn2 pc2 pp s0 b5 c5 b6 c6 xs y0 y1 u) (k : Below u.heap.size u v) : Es13 w rb pb p s c l st sk re fe ag p1 p2 pn1 pc1 pn2 pc2 pp s0 b5 c5 b6 c6 xs y0 y1 v :=
 ⟨h.po.below k, h.ru.below k, h.z.below k, h.s.below k, h.o.below k, Nat.lt_of_lt_of_le h.l5 k.size, Nat.lt_of_lt_of_le h.l6 k.size, h.k5, h.k6, h.d5, h.d6, h.ms, h.hr, h.hp, h.be.trans (k.mono h.be.size)⟩
theorem Es13.set0 (h : Es13 w rb pb p s c l st sk re fe ag p1 p2 pn1 pc1 pn2 pc2 pp s0 b5 c5 b6 c6 xs y0 y1 u) (y : Int) : Es13 w rb pb p s c l st sk re fe ag p1 p2 pn1 pc1 pn2 pc2 pp s0 b5 c5 b6 c6 xs y y1 (u.setCell ⟨b6, 0, none⟩ (.int .i64 y)) := by
 have hb : But b6 u (u.setCell ⟨b6, 0, none⟩ (.int .i64 y)) := (But.refl b6 u).setCell rfl _
 have h6 := h.o.o2.new
 have hm := h.ms
 have hr := h.hr
 have hp := h.hp
 exact ⟨h.po.but hb (by omega), h.ru.but hb (by omega), h.z.but hb (by omega), h.s.but hb h.d6, ⟨h.o.o1.but hb h.o.ne, h.o.o2.set (i := 0) (by simp) y, h.o.ne, h.o.l1, rfl⟩, by simpa using h.l5, by simpa using h.l6, h.k5, h.k6, h.d5, h.d6, h.ms, h.hr, h.hp, h.be.setCell (p := ⟨b6, 0, none⟩) (by show w.heap.size ≤ b6; omega) _⟩
theorem Es13.set1 (h : Es13 w rb pb p s c l st sk re fe ag p1 p2 pn1 pc1 pn2 pc2 pp s0 b5 c5 b6 c6 xs y0 y1 u) (y : Int) : Es13 w rb pb p s c l st sk re fe ag p1 p2 pn1 pc1 pn2 pc2 pp s0 b5 c5 b6 c6 xs y0 y (u.setCell ⟨b6, 1, none⟩ (.int .i64 y)) := by
 have hb : But b6 u (u.setCell ⟨b6, 1, none⟩ (.int .i64 y)) := (But.refl b6 u).setCell rfl _
 have h6 := h.o.o2.new
 have hm := h.ms
 have hr := h.hr
 have hp := h.hp
 exact ⟨h.po.but hb (by omega), h.ru.but hb (by omega), h.z.but hb (by omega), h.s.but hb h.d6, ⟨h.o.o1.but hb h.o.ne, h.o.o2.set (i := 1) (by simp) y, h.o.ne, h.o.l1, rfl⟩, by simpa using h.l5, by simpa using h.l6, h.k5, h.k6, h.d5, h.d6, h.ms, h.hr, h.hp, h.be.setCell (p := ⟨b6, 1, none⟩) (by show w.heap.size ≤ b6; omega) _⟩
theorem Es13.at0 (h : Es13 w rb pb p s c l st sk re fe ag p1 p2 pn1 pc1 pn2 pc2 pp s0 b5 c5 b6 c6 xs y0 y1 u) : u.cell? ⟨b6, 0, none⟩ = some (.int .i64 y0) ∧ u.frozen? ⟨b6, 0, none⟩ = false := ⟨h.o.o2.at0 (i := 0) (by simp), (h.o.o2.free (by simp)).2 0⟩
theorem Es13.at1 (h : Es13 w rb pb p s c l st sk re fe ag p1 p2 pn1 pc1 pn2 pc2 pp s0 b5 c5 b6 c6 xs y0 y1 u) : u.cell? ⟨b6, 1, none⟩ = some (.int .i64 y1) ∧ u.frozen? ⟨b6, 1, none⟩ = false := ⟨h.o.o2.at0 (i := 1) (by simp), (h.o.o2.free (by simp)).2 1⟩
end
section
variable {w u : World} {rb pb : Nat} {p s c l : Int} {st sk re fe ag : Bool} {p1 p2 : Option Addr} {pn1 pc1 pc2 : Nat} {pp : Int} {s0 b5 b6 c6 B1 B2 : Nat} {y0 y1 : Int}
theorem esq_fin1 (hr : RuAt u rb p s c l st sk re fe ag) (hq : Po13 u pb p1 p2 pn1 pc1 2 pc2 pp) (hrb : rb < w.heap.size) (hpb : pb < w.heap.size) (hz : ZeroP u w.heap.size) (hY : ZeroP u s0)
  (o1 : OutN u B1 (some ⟨b5, 0, none⟩) b5 (List.replicate pn1 0)) (o2 : OutN u B2 (some ⟨b6, 0, none⟩) b6 [y0, y1]) (ne : b5 ≠ b6) (n5 : b5 ≠ s0) (n6 : b6 ≠ s0) (l5 : b5 < u.heap.size) (l6 : b6 < u.heap.size) (ms : w.heap.size + 1 ≤ s0) (hB1 : w.heap.size + 1 ≤ B1) (hB2 : w.heap.size + 1 ≤ B2) (k6 : 2 ≤ c6) (hb : Below w.heap.size w u) :
  Es13 w rb pb p s c l st sk re fe ag p1 p2 pn1 pc1 2 pc2 pp s0 b5 pn1 b6 c6 (List.replicate pn1 0) y0 y1 (((u.setCell ⟨s0, 0, none⟩ (.slice (some ⟨b5, 0, none⟩) pn1 pn1)).setCell ⟨s0, 1, none⟩ (.slice (some ⟨b6, 0, none⟩) 2 c6)).setCell ⟨s0, 2, none⟩ (.int .i64 pp)) := by
 have k : But s0 u (((u.setCell ⟨s0, 0, none⟩ (.slice (some ⟨b5, 0, none⟩) pn1 pn1)).setCell ⟨s0, 1, none⟩ (.slice (some ⟨b6, 0, none⟩) 2 c6)).setCell ⟨s0, 2, none⟩ (.int .i64 pp)) := (((But.refl s0 u).setCell (p := ⟨s0, 0, none⟩) rfl _).setCell (p := ⟨s0, 1, none⟩) rfl _).setCell (p := ⟨s0, 2, none⟩) rfl _
 obtain ⟨yl, z0, z1, z2, zf⟩ := hY
 have f0 := zf 0
 have f1 := zf 1
 have f2 := zf 2
 exact ⟨hq.but k (by omega), hr.but k (by omega), hz.but k (by omega), ⟨by simpa using yl, by go_simp, by go_simp, by go_simp⟩, ⟨(o1.but k n5).lower hB1, (o2.but k n6).lower hB2, ne, by simp, rfl⟩, by simpa using l5, by simpa using l6, Nat.le_refl _, k6, fun e => n5 e.symm, fun e => n6 e.symm, ms, hrb, hpb, OnW.set3 (show OnW w u from hb) (by omega) _ _ _⟩
theorem esq_fin2 (T : TypeId) (hr : RuAt u rb p s c l st sk re fe ag) (hq : Po13 u pb p1 p2 pn1 pc1 2 pc2 pp) (hrb : rb < w.heap.size) (hpb : pb < w.heap.size) (hz : ZeroP u w.heap.size)
  (o1 : OutN u B1 (some ⟨b5, 0, none⟩) b5 (List.replicate pn1 0)) (o2 : OutN u B2 (some ⟨b6, 0, none⟩) b6 [y0, y1]) (ne : b5 ≠ b6) (l5 : b5 < u.heap.size) (l6 : b6 < u.heap.size) (hB1 : w.heap.size + 1 ≤ B1) (hB2 : w.heap.size + 1 ≤ B2) (k6 : 2 ≤ c6) (hb : Below w.heap.size w u) :
  Es13 w rb pb p s c l st sk re fe ag p1 p2 pn1 pc1 2 pc2 pp u.heap.size b5 pn1 b6 c6 (List.replicate pn1 0) y0 y1 (u.alloc (.cells #[.slice (some ⟨b5, 0, none⟩) pn1 pn1, .slice (some ⟨b6, 0, none⟩) 2 c6, .int .i64 pp] T)) :=
 ⟨hq.below (al1 _ _), hr.below (al1 _ _), hz.below (al1 _ _), po_new _ _ _ _ _ _ _ u T, ⟨(o1.below (al1 _ _)).lower hB1, (o2.below (al1 _ _)).lower hB2, ne, by simp, rfl⟩, by simp; omega, by simp; omega, Nat.le_refl _, k6, by omega, by omega, hz.lt, hrb, hpb, hb.alloc hb.size _⟩
theorem esq_fin4 (T T' : TypeId) (hn0 : 0 < pn1) (hn1 : pn1 ≤ 16) (hr : RuAt u rb p s c l st sk re fe ag) (hq : Po13 u pb p1 p2 pn1 pc1 2 pc2 pp) (hrb : rb < w.heap.size) (hpb : pb < w.heap.size) (hz : ZeroP u w.heap.size)
  (o2 : OutN u B2 (some ⟨b6, 0, none⟩) b6 [y0, y1]) (l6 : b6 < u.heap.size) (hB2 : w.heap.size + 1 ≤ B2) (k6 : 2 ≤ c6) (hb : Below w.heap.size w u) :
  Es13 w rb pb p s c l st sk re fe ag p1 p2 pn1 pc1 2 pc2 pp u.heap.size (u.heap.size + 1) pn1 b6 c6 (List.replicate pn1 0) y0 y1 ((u.alloc (.cells #[.slice (some ⟨u.heap.size + 1, 0, none⟩) pn1 pn1, .slice (some ⟨b6, 0, none⟩) 2 c6, .int .i64 pp] T)).alloc (.cells (madeCells #[.int .i64 0] pn1) T')) := by
 have o1 := out_mk9 (u.alloc (.cells #[.slice (some ⟨u.heap.size + 1, 0, none⟩) pn1 pn1, .slice (some ⟨b6, 0, none⟩) 2 c6, .int .i64 pp] T)) pn1 T' hn0 hn1
 rw [World.size_alloc] at o1
 have hs := hz.lt
 exact ⟨(hq.below (al1 _ _)).below (al1 _ _), (hr.below (al1 _ _)).below (al1 _ _), (hz.below (al1 _ _)).below (al1 _ _), (po_new _ _ _ _ _ _ _ u T).below (al1 _ _), ⟨o1.lower (by omega), ((o2.below (al1 _ _)).below (al1 _ _)).lower hB2, by omega, by simp, rfl⟩, by simp, by simp; omega, Nat.le_refl _, k6, by omega, by omega, hz.lt, hrb, hpb, (hb.alloc hb.size _).alloc (by simp; have := hb.size; omega) _⟩
theorem esq_fin6 (T' : TypeId) (hn0 : 0 < pn1) (hn1 : pn1 ≤ 16) (hr : RuAt u rb p s c l st sk re fe ag) (hq : Po13 u pb p1 p2 pn1 pc1 2 pc2 pp) (hrb : rb < w.heap.size) (hpb : pb < w.heap.size) (hz : ZeroP u w.heap.size) (hY : ZeroP u s0)
  (o2 : OutN u B2 (some ⟨b6, 0, none⟩) b6 [y0, y1]) (n6 : b6 ≠ s0) (l6 : b6 < u.heap.size) (ms : w.heap.size + 1 ≤ s0) (hB2 : w.heap.size + 1 ≤ B2) (k6 : 2 ≤ c6) (hb : Below w.heap.size w u) :
  Es13 w rb pb p s c l st sk re fe ag p1 p2 pn1 pc1 2 pc2 pp s0 u.heap.size pn1 b6 c6 (List.replicate pn1 0) y0 y1 ((((u.setCell ⟨s0, 0, none⟩ (.slice (some ⟨u.heap.size, 0, none⟩) pn1 pn1)).setCell ⟨s0, 1, none⟩ (.slice (some ⟨b6, 0, none⟩) 2 c6)).setCell ⟨s0, 2, none⟩ (.int .i64 pp)).alloc (.cells (madeCells #[.int .i64 0] pn1) T')) := by
 have k : But s0 u (((u.setCell ⟨s0, 0, none⟩ (.slice (some ⟨u.heap.size, 0, none⟩) pn1 pn1)).setCell ⟨s0, 1, none⟩ (.slice (some ⟨b6, 0, none⟩) 2 c6)).setCell ⟨s0, 2, none⟩ (.int .i64 pp)) := (((But.refl s0 u).setCell (p := ⟨s0, 0, none⟩) rfl _).setCell (p := ⟨s0, 1, none⟩) rfl _).setCell (p := ⟨s0, 2, none⟩) rfl _
 have o1 := out_mk9 (((u.setCell ⟨s0, 0, none⟩ (.slice (some ⟨u.heap.size, 0, none⟩) pn1 pn1)).setCell ⟨s0, 1, none⟩ (.slice (some ⟨b6, 0, none⟩) 2 c6)).setCell ⟨s0, 2, none⟩ (.int .i64 pp)) pn1 T' hn0 hn1
 have e : (((u.setCell ⟨s0, 0, none⟩ (.slice (some ⟨u.heap.size, 0, none⟩) pn1 pn1)).setCell ⟨s0, 1, none⟩ (.slice (some ⟨b6, 0, none⟩) 2 c6)).setCell ⟨s0, 2, none⟩ (.int .i64 pp)).heap.size = u.heap.size := by simp
 rw [e] at o1
 have hzl := hz.lt
 obtain ⟨yl, z0, z1, z2, zf⟩ := hY
 have f0 := zf 0
 have f1 := zf 1
 have f2 := zf 2
 have hP : PoAt (((u.setCell ⟨s0, 0, none⟩ (.slice (some ⟨u.heap.size, 0, none⟩) pn1 pn1)).setCell ⟨s0, 1, none⟩ (.slice (some ⟨b6, 0, none⟩) 2 c6)).setCell ⟨s0, 2, none⟩ (.int .i64 pp)) s0 (some ⟨u.heap.size, 0, none⟩) (some ⟨b6, 0, none⟩) pn1 pn1 2 c6 pp := ⟨by simpa using yl, by go_simp, by go_simp, by go_simp⟩
 have hbk : Below w.heap.size w (((u.setCell ⟨s0, 0, none⟩ (.slice (some ⟨u.heap.size, 0, none⟩) pn1 pn1)).setCell ⟨s0, 1, none⟩ (.slice (some ⟨b6, 0, none⟩) 2 c6)).setCell ⟨s0, 2, none⟩ (.int .i64 pp)) := OnW.set3 (show OnW w u from hb) (by omega) _ _ _
 exact ⟨(hq.but k (by omega)).below (al1 _ _), (hr.but k (by omega)).below (al1 _ _), (hz.but k (by omega)).below (al1 _ _), hP.below (al1 _ _), ⟨o1.lower (by omega), ((o2.but k n6).below (al1 _ _)).lower hB2, by omega, by simp, rfl⟩, by simp, by simp; omega, Nat.le_refl _, k6, by omega, fun e' => n6 e'.symm, ms, hrb, hpb, hbk.alloc hbk.size _⟩
end
theorem settle13_any (P : Nat) (s c l : Int) (st sk re fe ag : Bool) (p1 p2 : Option Addr) (pn1 pc1 pc2 : Nat) (pp : Int) (xs : List Int) (y0 y1 h0 h1 : Int) (rb pb : Nat) (w : World) (hr : RuAt w rb (P : Int) s c l st sk re fe ag) (hq : Po13 w pb p1 p2 pn1 pc1 2 pc2 pp) (h : PosR w p1 p2 pn1 2 xs [y0, y1]) (hs : seedB xs [y0, y1] = true) (hP : 2 ≤ P) (hP2 : P ≤ 8) (hn : pn1 = 2 * P) (e0 : tot (halfL xs P 0) = h0) (e1 : tot (halfL xs P 1) = h1) :
  Calls Tryz.prog 105 #[.pointer (some ⟨rb, 0, none⟩), .pointer (some ⟨pb, 13, none⟩)] w (PosQ pn1 2 pp (List.replicate pn1 0) [y0 + h0, y1 + h1] w) := by
 obtain ⟨q1, q2, q3⟩ := seedB_parts hs
 have q4 := posB_tot q1
 simp only [posB, List.all_cons, List.all_nil, Bool.and_true, Bool.and_eq_true, decide_eq_true_eq] at q2
 obtain ⟨r0, r1⟩ := q2
 rw [tot2] at q3
 have hlen : xs.length = 2 * P := h.l1.trans hn
 have u0 := half_tot (xs := xs) (P := P) (player := 0) hlen (.inl rfl) q1
 have u1 := half_tot (xs := xs) (P := P) (player := 1) hlen (.inr rfl) q1
 have v0 := posB_tot u0.1
 have v1 := posB_tot u1.1
 have hsum := half_sum hlen
 rw [e0] at v0 u0 hsum
 rw [e1] at v1 u1 hsum
 have g0 : 0 ≤ h0 ∧ h0 ≤ 96 := by omega
 have g1 : 0 ≤ h1 ∧ h1 ≤ 96 := by omega
 have g2 : y0 + h0 + h1 ≤ 96 := by omega
 have g3 : y1 + h0 + h1 ≤ 96 := by omega
 have hn16 : 0 < pn1 ∧ pn1 ≤ 16 := by omega
 have HSd0 : Hid (∀ u, Below w.heap.size w u → Calls Tryz.prog 133 #[.pointer (some ⟨rb, 0, none⟩), .slice p1 pn1 pc1, .int .i64 0] u fun e w' => e = .returned (.int .i64 h0) ∧ u = w') :=
  Lib.hid (fun u hu => by rw [← e0]; exact l04Side_any P rb p1 pc1 pn1 xs 0 u (hr.below hu).2.1 h.l1 (h.r1.below hu) hP hP2 hn (.inl rfl) q1 (by omega))
 have HSd1 : Hid (∀ u, Below w.heap.size w u → Calls Tryz.prog 133 #[.pointer (some ⟨rb, 0, none⟩), .slice p1 pn1 pc1, .int .i64 1] u fun e w' => e = .returned (.int .i64 h1) ∧ u = w') :=
  Lib.hid (fun u hu => by rw [← e1]; exact l04Side_any P rb p1 pc1 pn1 xs 1 u (hr.below hu).2.1 h.l1 (h.r1.below hu) hP hP2 hn (.inr rfl) q1 (by omega))
 have hmk : ∀ v : World, (Instr.makeSlice 24 (.int .i64 pn1) (.int .i64 pn1)).run Tryz.prog v = .ok (.slice (some ⟨v.heap.size, 0, none⟩) pn1 pn1) (v.alloc (.cells (madeCells #[.int .i64 0] pn1) 2)) := fun v => run_make_row' (P := Tryz.prog) 24 2 (.int .i64 0) 8 Tryz.underlying24 infoN rfl .i64 .i64 pn1 (by omega) (by omega) v
 have HP := Lib.hid (hq.below (al1 w (.cells #[.slice none 0 0, .slice none 0 0, .int .i64 0] 33)))
 have HR := Lib.hid (hr.below (al1 w (.cells #[.slice none 0 0, .slice none 0 0, .int .i64 0] 33)))
 have HZ := Lib.hid (zero_new w 33)
 have HB := Lib.hid (show OnW w _ from al1 w (.cells #[.slice none 0 0, .slice none 0 0, .int .i64 0] 33))
 have hrb := hr.1
 have hpb := hq.1
 have H := Lib.hid h
 have Hn := Lib.hid hn
 clear h hs q1 u0 u1 e0 e1 hn hlen hsum v0 v1 q4 hr hq
 go_enter Tryz.func105, Tryz.ntmps105
 go_upto_region 1 with fail
 generalize w.alloc (.cells #[.slice none 0 0, .slice none 0 0, .int .i64 0] 33) = w1 at *
 have hw1 : w.heap.size + 1 ≤ w1.heap.size := HZ.out.lt
 go_cut [5] (fun s5 wx => ∃ s0 b5 b6 c6 : Nat, s5 = .pointer (some ⟨s0, 0, none⟩) ∧ Es13 w rb pb (P : Int) s c l st sk re fe ag p1 p2 pn1 pc1 2 pc2 pp s0 b5 pn1 b6 c6 (List.replicate pn1 0) y0 y1 wx)
 case first =>
  have HT : Hid (∀ u : World, Po13 u pb p1 p2 pn1 pc1 2 pc2 pp → OnW w u → (pb < u.heap.size ∧ u.cell? ⟨pb, 13, none⟩ = some (.slice p1 pn1 pc1) ∧ u.cell? ⟨pb, 14, none⟩ = some (.slice p2 2 pc2) ∧ u.cell? ⟨pb, 15, none⟩ = some (.int .i64 pp)) ∧ Below w.heap.size w u) := Lib.hid (fun u h k => ⟨h, k⟩)
  go_region_held3 (fun u => (pb < u.heap.size ∧ u.cell? ⟨pb, 13, none⟩ = some (.slice p1 pn1 pc1) ∧ u.cell? ⟨pb, 14, none⟩ = some (.slice p2 2 pc2) ∧ u.cell? ⟨pb, 15, none⟩ = some (.int .i64 pp)) ∧ Below w.heap.size w u) (first | with_reducible exact HT.out _ HP.out HB.out | with_reducible exact HT.out _ HP.out.drew HB.out.drew | with_reducible exact HT.out _ (HP.out.below (al1 _ _)) (HB.out.below (al1 _ _)) | with_reducible exact HT.out _ (HP.out.drew.below (al1 _ _)) (HB.out.drew.below (al1 _ _)) | with_reducible exact HT.out _ (HP.out.below (al1 _ _)).drew (HB.out.below (al1 _ _)).drew | with_reducible exact HT.out _ (HP.out.below (al2 _ _ _)) (HB.out.below (al2 _ _ _)) | with_reducible exact HT.out _ (HP.out.drew.below (al2 _ _ _)) (HB.out.drew.below (al2 _ _ _)) | with_reducible exact HT.out _ (HP.out.below (al2 _ _ _)).drew (HB.out.below (al2 _ _ _)).drew | with_reducible exact HT.out _ (HP.out.set3 (by omega) _ _ _) (HB.out.set3 (by omega) _ _ _) | with_reducible exact HT.out _ ((HP.out.below (al1 _ _)).set3 (by omega) _ _ _) ((HB.out.below (al1 _ _)).set3 (by omega) _ _ _) | with_reducible exact HT.out _ ((HP.out.set3 (by omega) _ _ _).below (al1 _ _)) ((HB.out.set3 (by omega) _ _ _).below (al1 _ _)))
   ((go_at_call 69; (with_reducible refine (l00Own_any p2 pc2 2 [y0, y1] _ H.out.l2 ?_ (by simp)).mono ?_); (first | with_reducible exact H.out.r2.below (HB.out).bel9 | with_reducible exact H.out.r2.below (HB.out.drew).bel9 | with_reducible exact H.out.r2.below (HB.out.below (al1 _ _)).bel9 | with_reducible exact H.out.r2.below (HB.out.drew.below (al1 _ _)).bel9 | with_reducible exact H.out.r2.below ((HB.out.below (al1 _ _)).drew).bel9 | with_reducible exact H.out.r2.below (HB.out.below (al2 _ _ _)).bel9 | with_reducible exact H.out.r2.below (HB.out.drew.below (al2 _ _ _)).bel9 | with_reducible exact H.out.r2.below ((HB.out.below (al2 _ _ _)).drew).bel9); rintro e w6 ⟨v2, rfl, hown, hb6⟩; (obtain ⟨c6, b6, rfl, o6, hlt6, hc6⟩ := outN_own hown rfl (by omega) (by simp)); have O6 := Lib.hid o6; have nb6 := o6.new; (first | with_reducible have HM := Lib.hid ((out_mk9 _ pn1 2 hn16.1 hn16.2).below hb6) | with_reducible have HM := Lib.hid ((out_mk9 _ pn1 2 hn16.1 hn16.2).drew.below hb6) | with_reducible have HM := Lib.hid (((out_mk9 _ pn1 2 hn16.1 hn16.2).alloc _).below hb6) | with_reducible have HM := Lib.hid (((out_mk9 _ pn1 2 hn16.1 hn16.2).alloc _).drew.below hb6) | skip); (first | with_reducible have HY := Lib.hid ((zero_new _ 33).below hb6) | with_reducible have HY := Lib.hid ((zero_new _ 33).drew.below hb6) | with_reducible have HY := Lib.hid (((zero_new _ 33).alloc _).below hb6) | with_reducible have HY := Lib.hid (((zero_new _ 33).alloc _).drew.below hb6) | skip); (first | with_reducible have HP := Lib.hid (HP.out.below hb6) | with_reducible have HP := Lib.hid (HP.out.drew.below hb6) | with_reducible have HP := Lib.hid ((HP.out.below (al1 _ _)).below hb6) | with_reducible have HP := Lib.hid ((HP.out.drew.below (al1 _ _)).below hb6) | with_reducible have HP := Lib.hid ((HP.out.below (al1 _ _)).drew.below hb6) | with_reducible have HP := Lib.hid ((HP.out.below (al2 _ _ _)).below hb6) | with_reducible have HP := Lib.hid ((HP.out.drew.below (al2 _ _ _)).below hb6) | with_reducible have HP := Lib.hid ((HP.out.below (al2 _ _ _)).drew.below hb6)); (first | with_reducible have HR := Lib.hid (HR.out.below hb6) | with_reducible have HR := Lib.hid (HR.out.drew9.below hb6) | with_reducible have HR := Lib.hid ((HR.out.below (al1 _ _)).below hb6) | with_reducible have HR := Lib.hid ((HR.out.drew9.below (al1 _ _)).below hb6) | with_reducible have HR := Lib.hid ((HR.out.below (al1 _ _)).drew9.below hb6) | with_reducible have HR := Lib.hid ((HR.out.below (al2 _ _ _)).below hb6) | with_reducible have HR := Lib.hid ((HR.out.drew9.below (al2 _ _ _)).below hb6) | with_reducible have HR := Lib.hid ((HR.out.below (al2 _ _ _)).drew9.below hb6)); (first | with_reducible have HZ := Lib.hid (HZ.out.below hb6) | with_reducible have HZ := Lib.hid (HZ.out.drew.below hb6) | with_reducible have HZ := Lib.hid ((HZ.out.below (al1 _ _)).below hb6) | with_reducible have HZ := Lib.hid ((HZ.out.drew.below (al1 _ _)).below hb6) | with_reducible have HZ := Lib.hid ((HZ.out.below (al1 _ _)).drew.below hb6) | with_reducible have HZ := Lib.hid ((HZ.out.below (al2 _ _ _)).below hb6) | with_reducible have HZ := Lib.hid ((HZ.out.drew.below (al2 _ _ _)).below hb6) | with_reducible have HZ := Lib.hid ((HZ.out.below (al2 _ _ _)).drew.below hb6)); (first | with_reducible have HB := Lib.hid (HB.out.below hb6) | with_reducible have HB := Lib.hid (HB.out.drew.below hb6) | with_reducible have HB := Lib.hid ((HB.out.below (al1 _ _)).below hb6) | with_reducible have HB := Lib.hid ((HB.out.drew.below (al1 _ _)).below hb6) | with_reducible have HB := Lib.hid ((HB.out.below (al1 _ _)).drew.below hb6) | with_reducible have HB := Lib.hid ((HB.out.below (al2 _ _ _)).below hb6) | with_reducible have HB := Lib.hid ((HB.out.drew.below (al2 _ _ _)).below hb6) | with_reducible have HB := Lib.hid ((HB.out.below (al2 _ _ _)).drew.below hb6)); have sz6 := hb6.size; (try (have hm9 := HM.out; (try simp only [World.size_alloc] at hm9); have HM := Lib.hid hm9; clear hm9)); (try (have hy9 := HY.out; (try simp only [World.size_alloc] at hy9); have HY := Lib.hid hy9; obtain ⟨yz, ya, yb, yc, yf⟩ := hy9; have ff0 := yf 0; have ff1 := yf 1; have ff2 := yf 2; clear yf)); clear hown hb6 o6))
  all_goals (try simp at nb6)
  all_goals (try simp at sz6)
  all_goals go_wp2_with fail
  all_goals go_meet
  all_goals first
   | exact ⟨_, _, _, _, rfl, esq_fin2 33 HR.out HP.out hrb hpb HZ.out HM.out O6.out (by omega) (by omega) hlt6 (by omega) (by first | omega | (simp; omega)) hc6 HB.out⟩
   | exact ⟨_, _, _, _, rfl, esq_fin1 HR.out HP.out hrb hpb HZ.out HY.out HM.out O6.out (by omega) (by omega) (by omega) (by omega) hlt6 (by omega) (by omega) (by first | omega | (simp; omega)) hc6 HB.out⟩
   | (have hh9 := esq_fin2 (w := w) (c6 := c6) (p1 := p1) (pn1 := pn1) (y0 := y0) 33 (HR.out.below (al1 _ _)) (HP.out.below (al1 _ _)) hrb hpb (HZ.out.below (al1 _ _)) (out_mk9 w6 pn1 2 hn16.1 hn16.2) (O6.out.below (al1 _ _)) (by omega) (by simp) (by simp; omega) (by omega) (by first | omega | (simp; omega)) hc6 (HB.out.below (al1 _ _)); rw [World.size_alloc] at hh9; exact ⟨_, _, _, _, rfl, hh9⟩)
   | exact ⟨_, _, _, _, rfl, esq_fin4 33 2 hn16.1 hn16.2 HR.out HP.out hrb hpb HZ.out O6.out hlt6 (by first | omega | (simp; omega)) hc6 HB.out⟩
   | exact ⟨_, _, _, _, rfl, esq_fin6 2 hn16.1 hn16.2 HR.out HP.out hrb hpb HZ.out HY.out O6.out (by omega) hlt6 (by omega) (by first | omega | (simp; omega)) hc6 HB.out⟩
 case rest =>
  obtain ⟨s0, b5, b6, c6, rfl, hJ⟩ := hcut
  have HJ0 := Lib.hid hJ
  clear hJ HP HR HZ HB hmk
  go_wp2_with fail
  go_loopw [6] (fun i wr => (i = .int .i64 0 ∧ Es13 w rb pb (P : Int) s c l st sk re fe ag p1 p2 pn1 pc1 2 pc2 pp s0 b5 pn1 b6 c6 (List.replicate pn1 0) y0 y1 wr) ∨ (i = .int .i64 1 ∧ Es13 w rb pb (P : Int) s c l st sk re fe ag p1 p2 pn1 pc1 2 pc2 pp s0 b5 pn1 b6 c6 (List.replicate pn1 0) (y0 + h0) y1 wr) ∨ (i = .int .i64 2 ∧ Es13 w rb pb (P : Int) s c l st sk re fe ag p1 p2 pn1 pc1 2 pc2 pp s0 b5 pn1 b6 c6 (List.replicate pn1 0) (y0 + h0) (y1 + h1) wr)) (fun i _ => 2 - (intOf i).toNat)
  case atStart => exact .inl ⟨rfl, HJ0.out⟩
  case round =>
   clear HJ0
   rcases hrel with ⟨rfl, hJ⟩ | ⟨rfl, hJ⟩ | ⟨rfl, hJ⟩
   ·have HJ := Lib.hid hJ
    clear hJ
    have hw : IntKind.i64.wrap (y0 + h0) = y0 + h0 := IntWalk.i64_in _ ⟨by omega, by omega⟩
    have HW := Lib.hid hw
    go_upto_region 5 with fail
    obtain ⟨_, t0, t1, t2⟩ := HJ.out.s
    obtain ⟨_, x0, x1, x2⟩ := HJ.out.po
    obtain ⟨z0, zf⟩ := HJ.out.at0
    have HD := Lib.hid (HJ.out.below (Below.refl _ _).drew)
    go_region_law ((go_simp; go_at_call 133; (with_reducible refine (HSd0.out _ HD.out.be).mono ?_); rintro e w9 ⟨rfl, rfl⟩))
    all_goals
     have HN := Lib.hid ((HJ.out.set0 (y0 + h0)).below (Below.refl _ _).drew)
     clear HD x0 x1 x2
     clear z0 zf t0 t1 t2
     go_wp2_with fail
     go_roundw
     case rel => exact .inr (.inl ⟨rfl, HN.out⟩)
     case measure => simp [intOf]
   ·have HJ := Lib.hid hJ
    clear hJ
    have hw : IntKind.i64.wrap (y1 + h1) = y1 + h1 := IntWalk.i64_in _ ⟨by omega, by omega⟩
    have HW := Lib.hid hw
    go_upto_region 5 with fail
    obtain ⟨_, t0, t1, t2⟩ := HJ.out.s
    obtain ⟨_, x0, x1, x2⟩ := HJ.out.po
    obtain ⟨z0, zf⟩ := HJ.out.at1
    have HD := Lib.hid (HJ.out.below (Below.refl _ _).drew)
    go_region_law ((go_simp; go_at_call 133; (with_reducible refine (HSd1.out _ HD.out.be).mono ?_); rintro e w9 ⟨rfl, rfl⟩))
    all_goals
     have HN := Lib.hid ((HJ.out.set1 (y1 + h1)).below (Below.refl _ _).drew)
     clear HD x0 x1 x2
     clear z0 zf t0 t1 t2
     go_wp2_with fail
     go_roundw
     case rel => exact .inr (.inr ⟨rfl, HN.out⟩)
     case measure => simp [intOf]
   ·have HN := Lib.hid hJ
    clear hJ
    obtain ⟨_, t0, t1, t2⟩ := HN.out.s
    obtain ⟨zl, z0, z1, z2, zf⟩ := HN.out.z
    have f0 := zf 0
    have f1 := zf 1
    have f2 := zf 2
    clear zf
    go_wp2_with fail
    have hn5 := HN.out.o.o1.new
    have hn6 := HN.out.o.o2.new
    refine bodyPost_ret (v := .agg #[.slice (some ⟨b5, 0, none⟩) pn1 pn1, .slice (some ⟨b6, 0, none⟩) 2 c6, .int .i64 pp]) (by simp [results, Tryz.results105, go_sem, z0, z1, z2]) rfl ⟨b5, pn1, b6, c6, rfl, (HN.out.o.set3 _ _ _ (by omega) (by omega)).lower (by omega), by simpa using HN.out.l5, by simpa using HN.out.l6, HN.out.k5, HN.out.k6, OnW.set3 (show OnW w wr from HN.out.be) (by omega) _ _ _⟩
theorem give13_any0 (P : Nat) (s c l : Int) (st sk re fe ag : Bool) (p1 p2 : Option Addr) (pn1 pc1 pc2 : Nat) (pp : Int) (xs : List Int) (y0 y1 h0 : Int) (rb pb : Nat) (w : World) (hr : RuAt w rb (P : Int) s c l st sk re fe ag) (hq : Po13 w pb p1 p2 pn1 pc1 2 pc2 pp) (h : PosR w p1 p2 pn1 2 xs [y0, y1]) (hs : seedB xs [y0, y1] = true) (hP : 2 ≤ P) (hP2 : P ≤ 8) (hn : pn1 = 2 * P) (e0 : tot xs = h0) :
  Calls Tryz.prog 104 #[.pointer (some ⟨pb, 13, none⟩), .int .i64 0] w (PosQ pn1 2 pp (List.replicate pn1 0) [y0 + h0, y1] w) := by
 obtain ⟨q1, q2, q3⟩ := seedB_parts hs
 have q4 := posB_tot q1
 simp only [posB, List.all_cons, List.all_nil, Bool.and_true, Bool.and_eq_true, decide_eq_true_eq] at q2
 obtain ⟨r0, r1⟩ := q2
 rw [tot2] at q3
 have hlen : xs.length = 2 * P := h.l1.trans hn
 rw [e0] at q3 q4
 have g0 : 0 ≤ h0 ∧ h0 ≤ 96 := by omega
 have g1 : y0 + h0 ≤ 96 := by omega
 have g2 : y1 + h0 ≤ 96 := by omega
 have hn16 : 0 < pn1 ∧ pn1 ≤ 16 := by omega
 have es : sumC xs = h0 := by rw [sumC_yes (inB_of_pos q1 (by omega)) (by omega)]; exact e0
 have HSm : Hid (∀ u, Below w.heap.size w u → Calls Tryz.prog 121 #[.slice p1 pn1 pc1] u fun e w' => e = .returned (.int .i64 h0) ∧ u = w') := Lib.hid (fun u hu => by rw [← es]; exact l04Sum_any p1 pc1 pn1 xs u h.l1 (h.r1.below hu))
 have hmk : ∀ v : World, (Instr.makeSlice 24 (.int .i64 pn1) (.int .i64 pn1)).run Tryz.prog v = .ok (.slice (some ⟨v.heap.size, 0, none⟩) pn1 pn1) (v.alloc (.cells (madeCells #[.int .i64 0] pn1) 2)) := fun v => run_make_row' (P := Tryz.prog) 24 2 (.int .i64 0) 8 Tryz.underlying24 infoN rfl .i64 .i64 pn1 (by omega) (by omega) v
 have HP := Lib.hid (hq.below (al1 w (.cells #[.slice none 0 0, .slice none 0 0, .int .i64 0] 33)))
 have HR := Lib.hid (hr.below (al1 w (.cells #[.slice none 0 0, .slice none 0 0, .int .i64 0] 33)))
 have HZ := Lib.hid (zero_new w 33)
 have HB := Lib.hid (show OnW w _ from al1 w (.cells #[.slice none 0 0, .slice none 0 0, .int .i64 0] 33))
 have hrb := hr.1
 have hpb := hq.1
 have H := Lib.hid h
 have Hn := Lib.hid hn
 clear h hs q1 e0 es hn hlen q4 hr hq
 go_enter Tryz.func104, Tryz.ntmps104
 go_upto_region 1 with fail
 generalize w.alloc (.cells #[.slice none 0 0, .slice none 0 0, .int .i64 0] 33) = w1 at *
 have hw1 : w.heap.size + 1 ≤ w1.heap.size := HZ.out.lt
 go_cut [5] (fun s5 wx => ∃ s0 b5 b6 c6 : Nat, s5 = .pointer (some ⟨s0, 0, none⟩) ∧ Es13 w rb pb (P : Int) s c l st sk re fe ag p1 p2 pn1 pc1 2 pc2 pp s0 b5 pn1 b6 c6 (List.replicate pn1 0) y0 y1 wx)
 case first =>
  have HT : Hid (∀ u : World, Po13 u pb p1 p2 pn1 pc1 2 pc2 pp → OnW w u → (pb < u.heap.size ∧ u.cell? ⟨pb, 13, none⟩ = some (.slice p1 pn1 pc1) ∧ u.cell? ⟨pb, 14, none⟩ = some (.slice p2 2 pc2) ∧ u.cell? ⟨pb, 15, none⟩ = some (.int .i64 pp)) ∧ Below w.heap.size w u) := Lib.hid (fun u h k => ⟨h, k⟩)
  go_region_held3 (fun u => (pb < u.heap.size ∧ u.cell? ⟨pb, 13, none⟩ = some (.slice p1 pn1 pc1) ∧ u.cell? ⟨pb, 14, none⟩ = some (.slice p2 2 pc2) ∧ u.cell? ⟨pb, 15, none⟩ = some (.int .i64 pp)) ∧ Below w.heap.size w u) (first | with_reducible exact HT.out _ HP.out HB.out | with_reducible exact HT.out _ HP.out.drew HB.out.drew | with_reducible exact HT.out _ (HP.out.below (al1 _ _)) (HB.out.below (al1 _ _)) | with_reducible exact HT.out _ (HP.out.drew.below (al1 _ _)) (HB.out.drew.below (al1 _ _)) | with_reducible exact HT.out _ (HP.out.below (al1 _ _)).drew (HB.out.below (al1 _ _)).drew | with_reducible exact HT.out _ (HP.out.below (al2 _ _ _)) (HB.out.below (al2 _ _ _)) | with_reducible exact HT.out _ (HP.out.drew.below (al2 _ _ _)) (HB.out.drew.below (al2 _ _ _)) | with_reducible exact HT.out _ (HP.out.below (al2 _ _ _)).drew (HB.out.below (al2 _ _ _)).drew | with_reducible exact HT.out _ (HP.out.set3 (by omega) _ _ _) (HB.out.set3 (by omega) _ _ _) | with_reducible exact HT.out _ ((HP.out.below (al1 _ _)).set3 (by omega) _ _ _) ((HB.out.below (al1 _ _)).set3 (by omega) _ _ _) | with_reducible exact HT.out _ ((HP.out.set3 (by omega) _ _ _).below (al1 _ _)) ((HB.out.set3 (by omega) _ _ _).below (al1 _ _)))
   ((go_at_call 69; (with_reducible refine (l00Own_any p2 pc2 2 [y0, y1] _ H.out.l2 ?_ (by simp)).mono ?_); (first | with_reducible exact H.out.r2.below (HB.out).bel9 | with_reducible exact H.out.r2.below (HB.out.drew).bel9 | with_reducible exact H.out.r2.below (HB.out.below (al1 _ _)).bel9 | with_reducible exact H.out.r2.below (HB.out.drew.below (al1 _ _)).bel9 | with_reducible exact H.out.r2.below ((HB.out.below (al1 _ _)).drew).bel9 | with_reducible exact H.out.r2.below (HB.out.below (al2 _ _ _)).bel9 | with_reducible exact H.out.r2.below (HB.out.drew.below (al2 _ _ _)).bel9 | with_reducible exact H.out.r2.below ((HB.out.below (al2 _ _ _)).drew).bel9); rintro e w6 ⟨v2, rfl, hown, hb6⟩; (obtain ⟨c6, b6, rfl, o6, hlt6, hc6⟩ := outN_own hown rfl (by omega) (by simp)); have O6 := Lib.hid o6; have nb6 := o6.new; (first | with_reducible have HM := Lib.hid ((out_mk9 _ pn1 2 hn16.1 hn16.2).below hb6) | with_reducible have HM := Lib.hid ((out_mk9 _ pn1 2 hn16.1 hn16.2).drew.below hb6) | with_reducible have HM := Lib.hid (((out_mk9 _ pn1 2 hn16.1 hn16.2).alloc _).below hb6) | with_reducible have HM := Lib.hid (((out_mk9 _ pn1 2 hn16.1 hn16.2).alloc _).drew.below hb6) | skip); (first | with_reducible have HY := Lib.hid ((zero_new _ 33).below hb6) | with_reducible have HY := Lib.hid ((zero_new _ 33).drew.below hb6) | with_reducible have HY := Lib.hid (((zero_new _ 33).alloc _).below hb6) | with_reducible have HY := Lib.hid (((zero_new _ 33).alloc _).drew.below hb6) | skip); (first | with_reducible have HP := Lib.hid (HP.out.below hb6) | with_reducible have HP := Lib.hid (HP.out.drew.below hb6) | with_reducible have HP := Lib.hid ((HP.out.below (al1 _ _)).below hb6) | with_reducible have HP := Lib.hid ((HP.out.drew.below (al1 _ _)).below hb6) | with_reducible have HP := Lib.hid ((HP.out.below (al1 _ _)).drew.below hb6) | with_reducible have HP := Lib.hid ((HP.out.below (al2 _ _ _)).below hb6) | with_reducible have HP := Lib.hid ((HP.out.drew.below (al2 _ _ _)).below hb6) | with_reducible have HP := Lib.hid ((HP.out.below (al2 _ _ _)).drew.below hb6)); (first | with_reducible have HR := Lib.hid (HR.out.below hb6) | with_reducible have HR := Lib.hid (HR.out.drew9.below hb6) | with_reducible have HR := Lib.hid ((HR.out.below (al1 _ _)).below hb6) | with_reducible have HR := Lib.hid ((HR.out.drew9.below (al1 _ _)).below hb6) | with_reducible have HR := Lib.hid ((HR.out.below (al1 _ _)).drew9.below hb6) | with_reducible have HR := Lib.hid ((HR.out.below (al2 _ _ _)).below hb6) | with_reducible have HR := Lib.hid ((HR.out.drew9.below (al2 _ _ _)).below hb6) | with_reducible have HR := Lib.hid ((HR.out.below (al2 _ _ _)).drew9.below hb6)); (first | with_reducible have HZ := Lib.hid (HZ.out.below hb6) | with_reducible have HZ := Lib.hid (HZ.out.drew.below hb6) | with_reducible have HZ := Lib.hid ((HZ.out.below (al1 _ _)).below hb6) | with_reducible have HZ := Lib.hid ((HZ.out.drew.below (al1 _ _)).below hb6) | with_reducible have HZ := Lib.hid ((HZ.out.below (al1 _ _)).drew.below hb6) | with_reducible have HZ := Lib.hid ((HZ.out.below (al2 _ _ _)).below hb6) | with_reducible have HZ := Lib.hid ((HZ.out.drew.below (al2 _ _ _)).below hb6) | with_reducible have HZ := Lib.hid ((HZ.out.below (al2 _ _ _)).drew.below hb6)); (first | with_reducible have HB := Lib.hid (HB.out.below hb6) | with_reducible have HB := Lib.hid (HB.out.drew.below hb6) | with_reducible have HB := Lib.hid ((HB.out.below (al1 _ _)).below hb6) | with_reducible have HB := Lib.hid ((HB.out.drew.below (al1 _ _)).below hb6) | with_reducible have HB := Lib.hid ((HB.out.below (al1 _ _)).drew.below hb6) | with_reducible have HB := Lib.hid ((HB.out.below (al2 _ _ _)).below hb6) | with_reducible have HB := Lib.hid ((HB.out.drew.below (al2 _ _ _)).below hb6) | with_reducible have HB := Lib.hid ((HB.out.below (al2 _ _ _)).drew.below hb6)); have sz6 := hb6.size; (try (have hm9 := HM.out; (try simp only [World.size_alloc] at hm9); have HM := Lib.hid hm9; clear hm9)); (try (have hy9 := HY.out; (try simp only [World.size_alloc] at hy9); have HY := Lib.hid hy9; obtain ⟨yz, ya, yb, yc, yf⟩ := hy9; have ff0 := yf 0; have ff1 := yf 1; have ff2 := yf 2; clear yf)); clear hown hb6 o6))
  all_goals (try simp at nb6)
  all_goals (try simp at sz6)
  all_goals go_wp2_with fail
  all_goals go_meet
  all_goals first
   | exact ⟨_, _, _, _, rfl, esq_fin2 33 HR.out HP.out hrb hpb HZ.out HM.out O6.out (by omega) (by omega) hlt6 (by omega) (by first | omega | (simp; omega)) hc6 HB.out⟩
   | exact ⟨_, _, _, _, rfl, esq_fin1 HR.out HP.out hrb hpb HZ.out HY.out HM.out O6.out (by omega) (by omega) (by omega) (by omega) hlt6 (by omega) (by omega) (by first | omega | (simp; omega)) hc6 HB.out⟩
   | (have hh9 := esq_fin2 (w := w) (c6 := c6) (p1 := p1) (pn1 := pn1) (y0 := y0) 33 (HR.out.below (al1 _ _)) (HP.out.below (al1 _ _)) hrb hpb (HZ.out.below (al1 _ _)) (out_mk9 w6 pn1 2 hn16.1 hn16.2) (O6.out.below (al1 _ _)) (by omega) (by simp) (by simp; omega) (by omega) (by first | omega | (simp; omega)) hc6 (HB.out.below (al1 _ _)); rw [World.size_alloc] at hh9; exact ⟨_, _, _, _, rfl, hh9⟩)
   | exact ⟨_, _, _, _, rfl, esq_fin4 33 2 hn16.1 hn16.2 HR.out HP.out hrb hpb HZ.out O6.out hlt6 (by first | omega | (simp; omega)) hc6 HB.out⟩
   | exact ⟨_, _, _, _, rfl, esq_fin6 2 hn16.1 hn16.2 HR.out HP.out hrb hpb HZ.out HY.out O6.out (by omega) hlt6 (by omega) (by first | omega | (simp; omega)) hc6 HB.out⟩
 case rest =>
  obtain ⟨s0, b5, b6, c6, rfl, hJ⟩ := hcut
  have HJ := Lib.hid hJ
  clear hJ HP HR HZ HB hmk
  have hw : IntKind.i64.wrap (y0 + h0) = y0 + h0 := IntWalk.i64_in _ ⟨by omega, by omega⟩
  have HW := Lib.hid hw
  go_upto_region 2 with fail
  obtain ⟨_, t0, t1, t2⟩ := HJ.out.s
  obtain ⟨_, x0, x1, x2⟩ := HJ.out.po
  obtain ⟨z0, zf⟩ := HJ.out.at0
  have HD := Lib.hid (HJ.out.below (Below.refl _ _).drew)
  go_region_law ((go_simp; go_at_call 121; (with_reducible refine (HSm.out _ HD.out.be).mono ?_); rintro e w9 ⟨rfl, rfl⟩))
  all_goals
   have HN := Lib.hid ((HJ.out.set0 (y0 + h0)).below (Below.refl _ _).drew)
   clear HD HJ x0 x1 x2 z0 zf t0 t1 t2
   generalize (wc.setCell ⟨b6, 0, none⟩ (.int .i64 (y0 + h0))).drew = W8 at *
   obtain ⟨_, t0, t1, t2⟩ := HN.out.s
   obtain ⟨zl, z0, z1, z2, zf⟩ := HN.out.z
   have f0 := zf 0
   have f1 := zf 1
   have f2 := zf 2
   clear zf
   go_wp2_with fail
   have hn5 := HN.out.o.o1.new
   have hn6 := HN.out.o.o2.new
   refine bodyPost_ret (v := .agg #[.slice (some ⟨b5, 0, none⟩) pn1 pn1, .slice (some ⟨b6, 0, none⟩) 2 c6, .int .i64 pp]) (by simp [results, Tryz.results104, go_sem, z0, z1, z2]) rfl ⟨b5, pn1, b6, c6, rfl, (HN.out.o.set3 _ _ _ (by omega) (by omega)).lower (by omega), by simpa using HN.out.l5, by simpa using HN.out.l6, HN.out.k5, HN.out.k6, OnW.set3 (show OnW w W8 from HN.out.be) (by omega) _ _ _⟩
theorem give13_any1 (P : Nat) (s c l : Int) (st sk re fe ag : Bool) (p1 p2 : Option Addr) (pn1 pc1 pc2 : Nat) (pp : Int) (xs : List Int) (y0 y1 h0 : Int) (rb pb : Nat) (w : World) (hr : RuAt w rb (P : Int) s c l st sk re fe ag) (hq : Po13 w pb p1 p2 pn1 pc1 2 pc2 pp) (h : PosR w p1 p2 pn1 2 xs [y0, y1]) (hs : seedB xs [y0, y1] = true) (hP : 2 ≤ P) (hP2 : P ≤ 8) (hn : pn1 = 2 * P) (e0 : tot xs = h0) :
  Calls Tryz.prog 104 #[.pointer (some ⟨pb, 13, none⟩), .int .i64 1] w (PosQ pn1 2 pp (List.replicate pn1 0) [y0, y1 + h0] w) := by
 obtain ⟨q1, q2, q3⟩ := seedB_parts hs
 have q4 := posB_tot q1
 simp only [posB, List.all_cons, List.all_nil, Bool.and_true, Bool.and_eq_true, decide_eq_true_eq] at q2
 obtain ⟨r0, r1⟩ := q2
 rw [tot2] at q3
 have hlen : xs.length = 2 * P := h.l1.trans hn
 rw [e0] at q3 q4
 have g0 : 0 ≤ h0 ∧ h0 ≤ 96 := by omega
 have g1 : y0 + h0 ≤ 96 := by omega
 have g2 : y1 + h0 ≤ 96 := by omega
 have hn16 : 0 < pn1 ∧ pn1 ≤ 16 := by omega
 have es : sumC xs = h0 := by rw [sumC_yes (inB_of_pos q1 (by omega)) (by omega)]; exact e0
 have HSm : Hid (∀ u, Below w.heap.size w u → Calls Tryz.prog 121 #[.slice p1 pn1 pc1] u fun e w' => e = .returned (.int .i64 h0) ∧ u = w') := Lib.hid (fun u hu => by rw [← es]; exact l04Sum_any p1 pc1 pn1 xs u h.l1 (h.r1.below hu))
 have hmk : ∀ v : World, (Instr.makeSlice 24 (.int .i64 pn1) (.int .i64 pn1)).run Tryz.prog v = .ok (.slice (some ⟨v.heap.size, 0, none⟩) pn1 pn1) (v.alloc (.cells (madeCells #[.int .i64 0] pn1) 2)) := fun v => run_make_row' (P := Tryz.prog) 24 2 (.int .i64 0) 8 Tryz.underlying24 infoN rfl .i64 .i64 pn1 (by omega) (by omega) v
 have HP := Lib.hid (hq.below (al1 w (.cells #[.slice none 0 0, .slice none 0 0, .int .i64 0] 33)))
 have HR := Lib.hid (hr.below (al1 w (.cells #[.slice none 0 0, .slice none 0 0, .int .i64 0] 33)))
 have HZ := Lib.hid (zero_new w 33)
 have HB := Lib.hid (show OnW w _ from al1 w (.cells #[.slice none 0 0, .slice none 0 0, .int .i64 0] 33))
 have hrb := hr.1
 have hpb := hq.1
 have H := Lib.hid h
 have Hn := Lib.hid hn
 clear h hs q1 e0 es hn hlen q4 hr hq
 go_enter Tryz.func104, Tryz.ntmps104
 go_upto_region 1 with fail
 generalize w.alloc (.cells #[.slice none 0 0, .slice none 0 0, .int .i64 0] 33) = w1 at *
 have hw1 : w.heap.size + 1 ≤ w1.heap.size := HZ.out.lt
 go_cut [5] (fun s5 wx => ∃ s0 b5 b6 c6 : Nat, s5 = .pointer (some ⟨s0, 0, none⟩) ∧ Es13 w rb pb (P : Int) s c l st sk re fe ag p1 p2 pn1 pc1 2 pc2 pp s0 b5 pn1 b6 c6 (List.replicate pn1 0) y0 y1 wx)
 case first =>
  have HT : Hid (∀ u : World, Po13 u pb p1 p2 pn1 pc1 2 pc2 pp → OnW w u → (pb < u.heap.size ∧ u.cell? ⟨pb, 13, none⟩ = some (.slice p1 pn1 pc1) ∧ u.cell? ⟨pb, 14, none⟩ = some (.slice p2 2 pc2) ∧ u.cell? ⟨pb, 15, none⟩ = some (.int .i64 pp)) ∧ Below w.heap.size w u) := Lib.hid (fun u h k => ⟨h, k⟩)
  go_region_held3 (fun u => (pb < u.heap.size ∧ u.cell? ⟨pb, 13, none⟩ = some (.slice p1 pn1 pc1) ∧ u.cell? ⟨pb, 14, none⟩ = some (.slice p2 2 pc2) ∧ u.cell? ⟨pb, 15, none⟩ = some (.int .i64 pp)) ∧ Below w.heap.size w u) (first | with_reducible exact HT.out _ HP.out HB.out | with_reducible exact HT.out _ HP.out.drew HB.out.drew | with_reducible exact HT.out _ (HP.out.below (al1 _ _)) (HB.out.below (al1 _ _)) | with_reducible exact HT.out _ (HP.out.drew.below (al1 _ _)) (HB.out.drew.below (al1 _ _)) | with_reducible exact HT.out _ (HP.out.below (al1 _ _)).drew (HB.out.below (al1 _ _)).drew | with_reducible exact HT.out _ (HP.out.below (al2 _ _ _)) (HB.out.below (al2 _ _ _)) | with_reducible exact HT.out _ (HP.out.drew.below (al2 _ _ _)) (HB.out.drew.below (al2 _ _ _)) | with_reducible exact HT.out _ (HP.out.below (al2 _ _ _)).drew (HB.out.below (al2 _ _ _)).drew | with_reducible exact HT.out _ (HP.out.set3 (by omega) _ _ _) (HB.out.set3 (by omega) _ _ _) | with_reducible exact HT.out _ ((HP.out.below (al1 _ _)).set3 (by omega) _ _ _) ((HB.out.below (al1 _ _)).set3 (by omega) _ _ _) | with_reducible exact HT.out _ ((HP.out.set3 (by omega) _ _ _).below (al1 _ _)) ((HB.out.set3 (by omega) _ _ _).below (al1 _ _)))
   ((go_at_call 69; (with_reducible refine (l00Own_any p2 pc2 2 [y0, y1] _ H.out.l2 ?_ (by simp)).mono ?_); (first | with_reducible exact H.out.r2.below (HB.out).bel9 | with_reducible exact H.out.r2.below (HB.out.drew).bel9 | with_reducible exact H.out.r2.below (HB.out.below (al1 _ _)).bel9 | with_reducible exact H.out.r2.below (HB.out.drew.below (al1 _ _)).bel9 | with_reducible exact H.out.r2.below ((HB.out.below (al1 _ _)).drew).bel9 | with_reducible exact H.out.r2.below (HB.out.below (al2 _ _ _)).bel9 | with_reducible exact H.out.r2.below (HB.out.drew.below (al2 _ _ _)).bel9 | with_reducible exact H.out.r2.below ((HB.out.below (al2 _ _ _)).drew).bel9); rintro e w6 ⟨v2, rfl, hown, hb6⟩; (obtain ⟨c6, b6, rfl, o6, hlt6, hc6⟩ := outN_own hown rfl (by omega) (by simp)); have O6 := Lib.hid o6; have nb6 := o6.new; (first | with_reducible have HM := Lib.hid ((out_mk9 _ pn1 2 hn16.1 hn16.2).below hb6) | with_reducible have HM := Lib.hid ((out_mk9 _ pn1 2 hn16.1 hn16.2).drew.below hb6) | with_reducible have HM := Lib.hid (((out_mk9 _ pn1 2 hn16.1 hn16.2).alloc _).below hb6) | with_reducible have HM := Lib.hid (((out_mk9 _ pn1 2 hn16.1 hn16.2).alloc _).drew.below hb6) | skip); (first | with_reducible have HY := Lib.hid ((zero_new _ 33).below hb6) | with_reducible have HY := Lib.hid ((zero_new _ 33).drew.below hb6) | with_reducible have HY := Lib.hid (((zero_new _ 33).alloc _).below hb6) | with_reducible have HY := Lib.hid (((zero_new _ 33).alloc _).drew.below hb6) | skip); (first | with_reducible have HP := Lib.hid (HP.out.below hb6) | with_reducible have HP := Lib.hid (HP.out.drew.below hb6) | with_reducible have HP := Lib.hid ((HP.out.below (al1 _ _)).below hb6) | with_reducible have HP := Lib.hid ((HP.out.drew.below (al1 _ _)).below hb6) | with_reducible have HP := Lib.hid ((HP.out.below (al1 _ _)).drew.below hb6) | with_reducible have HP := Lib.hid ((HP.out.below (al2 _ _ _)).below hb6) | with_reducible have HP := Lib.hid ((HP.out.drew.below (al2 _ _ _)).below hb6) | with_reducible have HP := Lib.hid ((HP.out.below (al2 _ _ _)).drew.below hb6)); (first | with_reducible have HR := Lib.hid (HR.out.below hb6) | with_reducible have HR := Lib.hid (HR.out.drew9.below hb6) | with_reducible have HR := Lib.hid ((HR.out.below (al1 _ _)).below hb6) | with_reducible have HR := Lib.hid ((HR.out.drew9.below (al1 _ _)).below hb6) | with_reducible have HR := Lib.hid ((HR.out.below (al1 _ _)).drew9.below hb6) | with_reducible have HR := Lib.hid ((HR.out.below (al2 _ _ _)).below hb6) | with_reducible have HR := Lib.hid ((HR.out.drew9.below (al2 _ _ _)).below hb6) | with_reducible have HR := Lib.hid ((HR.out.below (al2 _ _ _)).drew9.below hb6)); (first | with_reducible have HZ := Lib.hid (HZ.out.below hb6) | with_reducible have HZ := Lib.hid (HZ.out.drew.below hb6) | with_reducible have HZ := Lib.hid ((HZ.out.below (al1 _ _)).below hb6) | with_reducible have HZ := Lib.hid ((HZ.out.drew.below (al1 _ _)).below hb6) | with_reducible have HZ := Lib.hid ((HZ.out.below (al1 _ _)).drew.below hb6) | with_reducible have HZ := Lib.hid ((HZ.out.below (al2 _ _ _)).below hb6) | with_reducible have HZ := Lib.hid ((HZ.out.drew.below (al2 _ _ _)).below hb6) | with_reducible have HZ := Lib.hid ((HZ.out.below (al2 _ _ _)).drew.below hb6)); (first | with_reducible have HB := Lib.hid (HB.out.below hb6) | with_reducible have HB := Lib.hid (HB.out.drew.below hb6) | with_reducible have HB := Lib.hid ((HB.out.below (al1 _ _)).below hb6) | with_reducible have HB := Lib.hid ((HB.out.drew.below (al1 _ _)).below hb6) | with_reducible have HB := Lib.hid ((HB.out.below (al1 _ _)).drew.below hb6) | with_reducible have HB := Lib.hid ((HB.out.below (al2 _ _ _)).below hb6) | with_reducible have HB := Lib.hid ((HB.out.drew.below (al2 _ _ _)).below hb6) | with_reducible have HB := Lib.hid ((HB.out.below (al2 _ _ _)).drew.below hb6)); have sz6 := hb6.size; (try (have hm9 := HM.out; (try simp only [World.size_alloc] at hm9); have HM := Lib.hid hm9; clear hm9)); (try (have hy9 := HY.out; (try simp only [World.size_alloc] at hy9); have HY := Lib.hid hy9; obtain ⟨yz, ya, yb, yc, yf⟩ := hy9; have ff0 := yf 0; have ff1 := yf 1; have ff2 := yf 2; clear yf)); clear hown hb6 o6))
  all_goals (try simp at nb6)
  all_goals (try simp at sz6)
  all_goals go_wp2_with fail
  all_goals go_meet
  all_goals first
   | exact ⟨_, _, _, _, rfl, esq_fin2 33 HR.out HP.out hrb hpb HZ.out HM.out O6.out (by omega) (by omega) hlt6 (by omega) (by first | omega | (simp; omega)) hc6 HB.out⟩
   | exact ⟨_, _, _, _, rfl, esq_fin1 HR.out HP.out hrb hpb HZ.out HY.out HM.out O6.out (by omega) (by omega) (by omega) (by omega) hlt6 (by omega) (by omega) (by first | omega | (simp; omega)) hc6 HB.out⟩
   | (have hh9 := esq_fin2 (w := w) (c6 := c6) (p1 := p1) (pn1 := pn1) (y0 := y0) 33 (HR.out.below (al1 _ _)) (HP.out.below (al1 _ _)) hrb hpb (HZ.out.below (al1 _ _)) (out_mk9 w6 pn1 2 hn16.1 hn16.2) (O6.out.below (al1 _ _)) (by omega) (by simp) (by simp; omega) (by omega) (by first | omega | (simp; omega)) hc6 (HB.out.below (al1 _ _)); rw [World.size_alloc] at hh9; exact ⟨_, _, _, _, rfl, hh9⟩)
   | exact ⟨_, _, _, _, rfl, esq_fin4 33 2 hn16.1 hn16.2 HR.out HP.out hrb hpb HZ.out O6.out hlt6 (by first | omega | (simp; omega)) hc6 HB.out⟩
   | exact ⟨_, _, _, _, rfl, esq_fin6 2 hn16.1 hn16.2 HR.out HP.out hrb hpb HZ.out HY.out O6.out (by omega) hlt6 (by omega) (by first | omega | (simp; omega)) hc6 HB.out⟩
 case rest =>
  obtain ⟨s0, b5, b6, c6, rfl, hJ⟩ := hcut
  have HJ := Lib.hid hJ
  clear hJ HP HR HZ HB hmk
  have hw : IntKind.i64.wrap (y1 + h0) = y1 + h0 := IntWalk.i64_in _ ⟨by omega, by omega⟩
  have HW := Lib.hid hw
  go_upto_region 2 with fail
  obtain ⟨_, t0, t1, t2⟩ := HJ.out.s
  obtain ⟨_, x0, x1, x2⟩ := HJ.out.po
  obtain ⟨z0, zf⟩ := HJ.out.at1
  have HD := Lib.hid (HJ.out.below (Below.refl _ _).drew)
  go_region_law ((go_simp; go_at_call 121; (with_reducible refine (HSm.out _ HD.out.be).mono ?_); rintro e w9 ⟨rfl, rfl⟩))
  all_goals
   have HN := Lib.hid ((HJ.out.set1 (y1 + h0)).below (Below.refl _ _).drew)
   clear HD HJ x0 x1 x2 z0 zf t0 t1 t2
   generalize (wc.setCell ⟨b6, 1, none⟩ (.int .i64 (y1 + h0))).drew = W8 at *
   obtain ⟨_, t0, t1, t2⟩ := HN.out.s
   obtain ⟨zl, z0, z1, z2, zf⟩ := HN.out.z
   have f0 := zf 0
   have f1 := zf 1
   have f2 := zf 2
   clear zf
   go_wp2_with fail
   have hn5 := HN.out.o.o1.new
   have hn6 := HN.out.o.o2.new
   refine bodyPost_ret (v := .agg #[.slice (some ⟨b5, 0, none⟩) pn1 pn1, .slice (some ⟨b6, 0, none⟩) 2 c6, .int .i64 pp]) (by simp [results, Tryz.results104, go_sem, z0, z1, z2]) rfl ⟨b5, pn1, b6, c6, rfl, (HN.out.o.set3 _ _ _ (by omega) (by omega)).lower (by omega), by simpa using HN.out.l5, by simpa using HN.out.l6, HN.out.k5, HN.out.k6, OnW.set3 (show OnW w W8 from HN.out.be) (by omega) _ _ _⟩
/- Fin9 -/
def finS (p rg : Int) (xs : List Int) (y0 y1 : Int) : List Int := if rg = -1 then [y0 + tot (halfL xs p.toNat 0), y1 + tot (halfL xs p.toNat 1)] else if rg = 0 then [y0, y1 + tot xs] else [y0 + tot xs, y1]
theorem fin_nums {k : Bool} {p s c l : Int} {st ag : Bool} {n1 n2 : Nat} {pl : Int} {xs ys : List Int} (h : okP (okR p s c l st ag) p n1 n2 pl xs ys = true) : ∃ P : Nat, p = (P : Int) ∧ 2 ≤ P ∧ P ≤ 8 ∧ n1 = 2 * P ∧ n2 = 2 ∧ seedB xs ys = true := by
 obtain ⟨hok, hn1, hn2, hpl, hs⟩ := okP_parts h
 obtain ⟨hp1, hp2, -⟩ := okR_bd hok
 exact ⟨p.toNat, by omega, by omega, by omega, by omega, by omega, hs⟩
theorem but3 (z : Nat) (u : World) (x y t : Value) : But z u (((u.setCell ⟨z, 0, none⟩ x).setCell ⟨z, 1, none⟩ y).setCell ⟨z, 2, none⟩ t) := (((But.refl z u).setCell (p := ⟨z, 0, none⟩) rfl x).setCell (p := ⟨z, 1, none⟩) rfl y).setCell (p := ⟨z, 2, none⟩) rfl t
theorem GmB.set3 {w u : World} {gb z : Nat} {Jp Js Jc Jl : Int} {Jst Jsk Jre Jfe Jag : Bool} {Ja1 Ja2 : Option Addr} {Jan1 Jac1 Jan2 Jac2 : Nat} {Jap : Int} {Jm : Option Addr} {Jmn Jmc : Nat} {Jb1 Jb2 : Option Addr} {Jbn1 Jbc1 Jbn2 Jbc2 : Nat} {Jbp Jrg : Int} (h : GmB w gb Jp Js Jc Jl Jst Jsk Jre Jfe Jag Ja1 Ja2 Jan1 Jac1 Jan2 Jac2 Jap Jm Jmn Jmc Jb1 Jb2 Jbn1 Jbc1 Jbn2 Jbc2 Jbp Jrg u) (hz : gb ≠ z) (hw : w.heap.size ≤ z) (x y t : Value) : GmB w gb Jp Js Jc Jl Jst Jsk Jre Jfe Jag Ja1 Ja2 Jan1 Jac1 Jan2 Jac2 Jap Jm Jmn Jmc Jb1 Jb2 Jbn1 Jbc1 Jbn2 Jbc2 Jbp Jrg (((u.setCell ⟨z, 0, none⟩ x).setCell ⟨z, 1, none⟩ y).setCell ⟨z, 2, none⟩ t) :=
 ⟨h.1.but (but3 z u x y t) hz, But.lift h.2 (but3 z u x y t) hw⟩
def Pb13 (pb : Nat) (p s c l : Int) (st sk re fe ag : Bool) (n1 h1 d1 h2 d2 : Nat) (pl : Int) (v : World) : Prop := (pb < v.heap.size ∧ v.cell? ⟨pb, 0, none⟩ = some (.int .i64 p) ∧ v.cell? ⟨pb, 1, none⟩ = some (.int .i64 s) ∧ v.cell? ⟨pb, 2, none⟩ = some (.bool st) ∧ v.cell? ⟨pb, 3, none⟩ = some (.bool sk) ∧ v.cell? ⟨pb, 4, none⟩ = some (.bool re) ∧ v.cell? ⟨pb, 5, none⟩ = some (.bool fe) ∧ v.cell? ⟨pb, 6, none⟩ = some (.bool ag) ∧ v.cell? ⟨pb, 7, none⟩ = some (.int .i64 c) ∧ v.cell? ⟨pb, 8, none⟩ = some (.int .i64 l) ∧ v.cell? ⟨pb, 13, none⟩ = some (.slice (some ⟨h1, 0, none⟩) n1 d1) ∧ v.cell? ⟨pb, 14, none⟩ = some (.slice (some ⟨h2, 0, none⟩) 2 d2) ∧ v.cell? ⟨pb, 15, none⟩ = some (.int .i64 pl))
theorem Pb13.but {pb z : Nat} {p s c l : Int} {st sk re fe ag : Bool} {n1 h1 d1 h2 d2 : Nat} {pl : Int} {u v : World} (h : Pb13 pb p s c l st sk re fe ag n1 h1 d1 h2 d2 pl u) (k : But z u v) (hz : pb ≠ z) : Pb13 pb p s c l st sk re fe ag n1 h1 d1 h2 d2 pl v := by
 obtain ⟨hb, h⟩ := h
 have e := fun o => k.cell (o := o) hb hz
 exact ⟨Nat.lt_of_lt_of_le hb k.size, by simp only [e]; exact h⟩
theorem l09Fin_any (Jp Js Jc Jl : Int) (Jst Jsk Jre Jfe Jag : Bool) (Ja1 Ja2 : Option Addr) (Jan1 Jac1 Jan2 Jac2 : Nat) (Jap : Int) (Jm : Option Addr) (Jmn Jmc : Nat) (Jb1 Jb2 : Option Addr) (Jbn1 Jbc1 Jbn2 Jbc2 : Nat) (Jbp Jrg : Int) (sx sy ms nx : List Int) (y0 y1 : Int) (gb : Nat) (w : World) (hg : GmAt w gb Jp Js Jc Jl Jst Jsk Jre Jfe Jag Ja1 Ja2 Jan1 Jac1 Jan2 Jac2 Jap Jm Jmn Jmc Jb1 Jb2 Jbn1 Jbc1 Jbn2 Jbc2 Jbp Jrg) (h : GamR w Ja1 Ja2 Jan1 Jan2 Jm Jmn Jb1 Jb2 Jbn1 Jbn2 sx sy ms nx [y0, y1]) (hk : okP (okR Jp Js Jc Jl Jst Jag) Jp Jbn1 Jbn2 Jbp nx [y0, y1] = true) (hr1 : -1 ≤ Jrg) (hr2 : Jrg ≤ 1) :
  Calls Tryz.prog 63 #[.pointer (some ⟨gb, 0, none⟩)] w (PosQ Jbn1 2 Jbp (List.replicate Jbn1 0) (finS Jp Jrg nx y0 y1) w) := by
 obtain ⟨P, hP, hp1, hp2, hn1, hn2, hs⟩ := fin_nums (k := true) hk
 have HSt : Hid (∀ u, GmB w gb Jp Js Jc Jl Jst Jsk Jre Jfe Jag Ja1 Ja2 Jan1 Jac1 Jan2 Jac2 Jap Jm Jmn Jmc Jb1 Jb2 Jbn1 Jbc1 Jbn2 Jbc2 Jbp Jrg u → Calls Tryz.prog 105 #[.pointer (some ⟨gb, 0, none⟩), .pointer (some ⟨gb, 13, none⟩)] u (PosQ Jbn1 2 Jbp (List.replicate Jbn1 0) [y0 + tot (halfL nx Jp.toNat 0), y1 + tot (halfL nx Jp.toNat 1)] u)) := Lib.hid (fun u hu => by
  have hn := h.n.below hu.2
  have h13 := hu.1.p13
  have hru := hu.1.ru
  subst hn2
  subst hP
  exact settle13_any P Js Jc Jl Jst Jsk Jre Jfe Jag Jb1 Jb2 Jbn1 Jbc1 Jbc2 Jbp nx y0 y1 _ _ gb gb u hru h13 hn hs hp1 hp2 hn1 rfl rfl)
 have HGv0 : Hid (∀ u, GmB w gb Jp Js Jc Jl Jst Jsk Jre Jfe Jag Ja1 Ja2 Jan1 Jac1 Jan2 Jac2 Jap Jm Jmn Jmc Jb1 Jb2 Jbn1 Jbc1 Jbn2 Jbc2 Jbp Jrg u → Calls Tryz.prog 104 #[.pointer (some ⟨gb, 13, none⟩), .int .i64 0] u (PosQ Jbn1 2 Jbp (List.replicate Jbn1 0) [y0 + tot nx, y1] u)) := Lib.hid (fun u hu => by
  have hn := h.n.below hu.2
  have h13 := hu.1.p13
  have hru := hu.1.ru
  subst hn2
  subst hP
  exact give13_any0 P Js Jc Jl Jst Jsk Jre Jfe Jag Jb1 Jb2 Jbn1 Jbc1 Jbc2 Jbp nx y0 y1 _ gb gb u hru h13 hn hs hp1 hp2 hn1 rfl)
 have HGv1 : Hid (∀ u, GmB w gb Jp Js Jc Jl Jst Jsk Jre Jfe Jag Ja1 Ja2 Jan1 Jac1 Jan2 Jac2 Jap Jm Jmn Jmc Jb1 Jb2 Jbn1 Jbc1 Jbn2 Jbc2 Jbp Jrg u → Calls Tryz.prog 104 #[.pointer (some ⟨gb, 13, none⟩), .int .i64 1] u (PosQ Jbn1 2 Jbp (List.replicate Jbn1 0) [y0, y1 + tot nx] u)) := Lib.hid (fun u hu => by
  have hn := h.n.below hu.2
  have h13 := hu.1.p13
  have hru := hu.1.ru
  subst hn2
  subst hP
  exact give13_any1 P Js Jc Jl Jst Jsk Jre Jfe Jag Jb1 Jb2 Jbn1 Jbc1 Jbc2 Jbp nx y0 y1 _ gb gb u hru h13 hn hs hp1 hp2 hn1 rfl)
 have HS := Lib.hid (show GmB w gb Jp Js Jc Jl Jst Jsk Jre Jfe Jag Ja1 Ja2 Jan1 Jac1 Jan2 Jac2 Jap Jm Jmn Jmc Jb1 Jb2 Jbn1 Jbc1 Jbn2 Jbc2 Jbp Jrg (w.alloc (.cells #[.slice none 0 0, .slice none 0 0, .int .i64 0] 33)) from ⟨hg.below (al1 _ _), al1 _ _⟩)
 have HZ := Lib.hid (zero_new w 33)
 have hgb : gb < w.heap.size := hg.1
 have HTT : Hid (∀ u : World, GmB w gb Jp Js Jc Jl Jst Jsk Jre Jfe Jag Ja1 Ja2 Jan1 Jac1 Jan2 Jac2 Jap Jm Jmn Jmc Jb1 Jb2 Jbn1 Jbc1 Jbn2 Jbc2 Jbp Jrg u → (gb < u.heap.size ∧ u.cell? ⟨gb, 0, none⟩ = some (.int .i64 Jp) ∧ u.cell? ⟨gb, 1, none⟩ = some (.int .i64 Js) ∧ u.cell? ⟨gb, 2, none⟩ = some (.bool Jst) ∧ u.cell? ⟨gb, 3, none⟩ = some (.bool Jsk) ∧ u.cell? ⟨gb, 4, none⟩ = some (.bool Jre) ∧ u.cell? ⟨gb, 5, none⟩ = some (.bool Jfe) ∧ u.cell? ⟨gb, 6, none⟩ = some (.bool Jag) ∧ u.cell? ⟨gb, 7, none⟩ = some (.int .i64 Jc) ∧ u.cell? ⟨gb, 8, none⟩ = some (.int .i64 Jl) ∧ u.cell? ⟨gb, 9, none⟩ = some (.slice Ja1 Jan1 Jac1) ∧ u.cell? ⟨gb, 10, none⟩ = some (.slice Ja2 Jan2 Jac2) ∧ u.cell? ⟨gb, 11, none⟩ = some (.int .i64 Jap) ∧ u.cell? ⟨gb, 12, none⟩ = some (.slice Jm Jmn Jmc) ∧ u.cell? ⟨gb, 13, none⟩ = some (.slice Jb1 Jbn1 Jbc1) ∧ u.cell? ⟨gb, 14, none⟩ = some (.slice Jb2 Jbn2 Jbc2) ∧ u.cell? ⟨gb, 15, none⟩ = some (.int .i64 Jbp) ∧ u.cell? ⟨gb, 16, none⟩ = some (.int .i64 Jrg)) ∧ Below w.heap.size w u) := Lib.hid (fun u h => h)
 unfold finS
 clear h hg hk hs hP hn1 hn2 hp1 hp2
 obtain ⟨_, m0, m1, m2, m3, m4, m5, m6, m7, m8, m9, m10, m11, m12, m13, m14, m15, m16⟩ := HS.out.1
 rcases (show Jrg = -1 ∨ Jrg = 0 ∨ Jrg = 1 by omega) with hr | hr | hr
 ·have hneg : ¬ (0 ≤ Jrg) := by omega
  rw [if_pos hr]
  clear hr hr1 hr2
  go_enter Tryz.func63, Tryz.ntmps63
  go_wp2_with fail
  go_region_held3 (fun u => (gb < u.heap.size ∧ u.cell? ⟨gb, 0, none⟩ = some (.int .i64 Jp) ∧ u.cell? ⟨gb, 1, none⟩ = some (.int .i64 Js) ∧ u.cell? ⟨gb, 2, none⟩ = some (.bool Jst) ∧ u.cell? ⟨gb, 3, none⟩ = some (.bool Jsk) ∧ u.cell? ⟨gb, 4, none⟩ = some (.bool Jre) ∧ u.cell? ⟨gb, 5, none⟩ = some (.bool Jfe) ∧ u.cell? ⟨gb, 6, none⟩ = some (.bool Jag) ∧ u.cell? ⟨gb, 7, none⟩ = some (.int .i64 Jc) ∧ u.cell? ⟨gb, 8, none⟩ = some (.int .i64 Jl) ∧ u.cell? ⟨gb, 9, none⟩ = some (.slice Ja1 Jan1 Jac1) ∧ u.cell? ⟨gb, 10, none⟩ = some (.slice Ja2 Jan2 Jac2) ∧ u.cell? ⟨gb, 11, none⟩ = some (.int .i64 Jap) ∧ u.cell? ⟨gb, 12, none⟩ = some (.slice Jm Jmn Jmc) ∧ u.cell? ⟨gb, 13, none⟩ = some (.slice Jb1 Jbn1 Jbc1) ∧ u.cell? ⟨gb, 14, none⟩ = some (.slice Jb2 Jbn2 Jbc2) ∧ u.cell? ⟨gb, 15, none⟩ = some (.int .i64 Jbp) ∧ u.cell? ⟨gb, 16, none⟩ = some (.int .i64 Jrg)) ∧ Below w.heap.size w u) (first | with_reducible exact HTT.out _ HS.out | with_reducible exact HTT.out _ HS.out.drew | with_reducible exact HTT.out _ (HS.out.set3 (by omega) (by omega) _ _ _))
   ((go_at_call 105; (with_reducible refine (HSt.out _ ?_).mono ?_); (first | with_reducible exact HS.out | with_reducible exact HS.out.drew); rintro e w6 ⟨q1, c1, q2, c2, rfl, ho, l1, l2, k1, k2, hb⟩; have HO := Lib.hid ho; have n1 := ho.o1.new; have n2 := ho.o2.new; have zl0 := HZ.out.lt; (first | with_reducible have HS := Lib.hid (HS.out.below hb) | with_reducible have HS := Lib.hid (HS.out.drew.below hb)); (first | with_reducible have HZ := Lib.hid (HZ.out.below hb) | with_reducible have HZ := Lib.hid (HZ.out.drew.below hb)); obtain ⟨zl, z0, z1, z2, zf⟩ := HZ.out; have f0 := zf 0; have f1 := zf 1; have f2 := zf 2; clear hb ho zf))
  (try simp at n1)
  (try simp at n2)
  go_wp2_with fail
  refine bodyPost_ret (v := .agg #[.slice (some ⟨q1, 0, none⟩) Jbn1 c1, .slice (some ⟨q2, 0, none⟩) 2 c2, .int .i64 Jbp]) (by simp [results, Tryz.results63, go_sem, z0, z1, z2]) rfl ⟨q1, c1, q2, c2, rfl, (HO.out.set3 _ _ _ (by omega) (by omega)).lower (by first | omega | (simp; done) | (simp; omega)), by simpa using l1, by simpa using l2, k1, k2, OnW.set3 (show OnW w w6 from HS.out.2) (by omega) _ _ _⟩
 ·have hpos : 0 ≤ Jrg := by omega
  have hw : IntKind.i64.wrap (1 - Jrg) = 1 := by rw [hr]; decide
  rw [if_neg (by omega), if_pos hr]
  clear hr hr1 hr2
  go_enter Tryz.func63, Tryz.ntmps63
  go_wp2_with fail
  go_region_held3 (fun u => (gb < u.heap.size ∧ u.cell? ⟨gb, 0, none⟩ = some (.int .i64 Jp) ∧ u.cell? ⟨gb, 1, none⟩ = some (.int .i64 Js) ∧ u.cell? ⟨gb, 2, none⟩ = some (.bool Jst) ∧ u.cell? ⟨gb, 3, none⟩ = some (.bool Jsk) ∧ u.cell? ⟨gb, 4, none⟩ = some (.bool Jre) ∧ u.cell? ⟨gb, 5, none⟩ = some (.bool Jfe) ∧ u.cell? ⟨gb, 6, none⟩ = some (.bool Jag) ∧ u.cell? ⟨gb, 7, none⟩ = some (.int .i64 Jc) ∧ u.cell? ⟨gb, 8, none⟩ = some (.int .i64 Jl) ∧ u.cell? ⟨gb, 9, none⟩ = some (.slice Ja1 Jan1 Jac1) ∧ u.cell? ⟨gb, 10, none⟩ = some (.slice Ja2 Jan2 Jac2) ∧ u.cell? ⟨gb, 11, none⟩ = some (.int .i64 Jap) ∧ u.cell? ⟨gb, 12, none⟩ = some (.slice Jm Jmn Jmc) ∧ u.cell? ⟨gb, 13, none⟩ = some (.slice Jb1 Jbn1 Jbc1) ∧ u.cell? ⟨gb, 14, none⟩ = some (.slice Jb2 Jbn2 Jbc2) ∧ u.cell? ⟨gb, 15, none⟩ = some (.int .i64 Jbp) ∧ u.cell? ⟨gb, 16, none⟩ = some (.int .i64 Jrg)) ∧ Below w.heap.size w u) (first | with_reducible exact HTT.out _ HS.out | with_reducible exact HTT.out _ HS.out.drew | with_reducible exact HTT.out _ (HS.out.set3 (by omega) (by omega) _ _ _))
   ((go_at_call 104; (with_reducible refine (HGv1.out _ ?_).mono ?_); (first | with_reducible exact HS.out | with_reducible exact HS.out.drew); rintro e w6 ⟨q1, c1, q2, c2, rfl, ho, l1, l2, k1, k2, hb⟩; have HO := Lib.hid ho; have n1 := ho.o1.new; have n2 := ho.o2.new; have zl0 := HZ.out.lt; (first | with_reducible have HS := Lib.hid (HS.out.below hb) | with_reducible have HS := Lib.hid (HS.out.drew.below hb)); (first | with_reducible have HZ := Lib.hid (HZ.out.below hb) | with_reducible have HZ := Lib.hid (HZ.out.drew.below hb)); obtain ⟨zl, z0, z1, z2, zf⟩ := HZ.out; have f0 := zf 0; have f1 := zf 1; have f2 := zf 2; clear hb ho zf))
  (try simp at n1)
  (try simp at n2)
  go_wp2_with fail
  refine bodyPost_ret (v := .agg #[.slice (some ⟨q1, 0, none⟩) Jbn1 c1, .slice (some ⟨q2, 0, none⟩) 2 c2, .int .i64 Jbp]) (by simp [results, Tryz.results63, go_sem, z0, z1, z2]) rfl ⟨q1, c1, q2, c2, rfl, (HO.out.set3 _ _ _ (by omega) (by omega)).lower (by first | omega | (simp; done) | (simp; omega)), by simpa using l1, by simpa using l2, k1, k2, OnW.set3 (show OnW w w6 from HS.out.2) (by omega) _ _ _⟩
 ·have hpos : 0 ≤ Jrg := by omega
  have hw : IntKind.i64.wrap (1 - Jrg) = 0 := by rw [hr]; decide
  rw [if_neg (by omega), if_neg (by omega)]
  clear hr hr1 hr2
  go_enter Tryz.func63, Tryz.ntmps63
  go_wp2_with fail
  go_region_held3 (fun u => (gb < u.heap.size ∧ u.cell? ⟨gb, 0, none⟩ = some (.int .i64 Jp) ∧ u.cell? ⟨gb, 1, none⟩ = some (.int .i64 Js) ∧ u.cell? ⟨gb, 2, none⟩ = some (.bool Jst) ∧ u.cell? ⟨gb, 3, none⟩ = some (.bool Jsk) ∧ u.cell? ⟨gb, 4, none⟩ = some (.bool Jre) ∧ u.cell? ⟨gb, 5, none⟩ = some (.bool Jfe) ∧ u.cell? ⟨gb, 6, none⟩ = some (.bool Jag) ∧ u.cell? ⟨gb, 7, none⟩ = some (.int .i64 Jc) ∧ u.cell? ⟨gb, 8, none⟩ = some (.int .i64 Jl) ∧ u.cell? ⟨gb, 9, none⟩ = some (.slice Ja1 Jan1 Jac1) ∧ u.cell? ⟨gb, 10, none⟩ = some (.slice Ja2 Jan2 Jac2) ∧ u.cell? ⟨gb, 11, none⟩ = some (.int .i64 Jap) ∧ u.cell? ⟨gb, 12, none⟩ = some (.slice Jm Jmn Jmc) ∧ u.cell? ⟨gb, 13, none⟩ = some (.slice Jb1 Jbn1 Jbc1) ∧ u.cell? ⟨gb, 14, none⟩ = some (.slice Jb2 Jbn2 Jbc2) ∧ u.cell? ⟨gb, 15, none⟩ = some (.int .i64 Jbp) ∧ u.cell? ⟨gb, 16, none⟩ = some (.int .i64 Jrg)) ∧ Below w.heap.size w u) (first | with_reducible exact HTT.out _ HS.out | with_reducible exact HTT.out _ HS.out.drew | with_reducible exact HTT.out _ (HS.out.set3 (by omega) (by omega) _ _ _))
   ((go_at_call 104; (with_reducible refine (HGv0.out _ ?_).mono ?_); (first | with_reducible exact HS.out | with_reducible exact HS.out.drew); rintro e w6 ⟨q1, c1, q2, c2, rfl, ho, l1, l2, k1, k2, hb⟩; have HO := Lib.hid ho; have n1 := ho.o1.new; have n2 := ho.o2.new; have zl0 := HZ.out.lt; (first | with_reducible have HS := Lib.hid (HS.out.below hb) | with_reducible have HS := Lib.hid (HS.out.drew.below hb)); (first | with_reducible have HZ := Lib.hid (HZ.out.below hb) | with_reducible have HZ := Lib.hid (HZ.out.drew.below hb)); obtain ⟨zl, z0, z1, z2, zf⟩ := HZ.out; have f0 := zf 0; have f1 := zf 1; have f2 := zf 2; clear hb ho zf))
  (try simp at n1)
  (try simp at n2)
  go_wp2_with fail
  refine bodyPost_ret (v := .agg #[.slice (some ⟨q1, 0, none⟩) Jbn1 c1, .slice (some ⟨q2, 0, none⟩) 2 c2, .int .i64 Jbp]) (by simp [results, Tryz.results63, go_sem, z0, z1, z2]) rfl ⟨q1, c1, q2, c2, rfl, (HO.out.set3 _ _ _ (by omega) (by omega)).lower (by first | omega | (simp; done) | (simp; omega)), by simpa using l1, by simpa using l2, k1, k2, OnW.set3 (show OnW w w6 from HS.out.2) (by omega) _ _ _⟩
theorem final_any {w : World} {pb : Nat} (p s c l : Int) (st sk re fe ag : Bool) {n1 b1 e1 b2 e2 : Nat} {sp : Int} {sx sy : List Int} {v1 v2 : Value} {ms : List Int} {L : List (T21 × Q21)} {h1 d1 h2 d2 : Nat} {pl : Int} {xs : List Int} {y0 y1 : Int} {rg : Int} {R : List (Nat × List Int)} (u : World) (h : PlK w pb p s c l st sk re fe ag n1 b1 e1 b2 e2 sp sx sy v1 v2 ms L h1 d1 h2 d2 ⟨pl, xs, [y0, y1]⟩ rg R u) (hok : OkQ p s c l st ag n1 ⟨pl, xs, [y0, y1]⟩) (hr1 : -1 ≤ rg) (hr2 : rg ≤ 1) :
  Calls Tryz.prog 66 #[.pointer (some ⟨pb, 0, none⟩)] u (PosQ n1 2 pl (List.replicate n1 0) (finS p rg xs y0 y1) u) := by
 obtain ⟨ma, mc, hv1⟩ := slice_own h.mo
 subst hv1
 obtain ⟨P, hP, hp1, hp2, hn1, -, hs⟩ := fin_nums (k := true) hok.ok
 have hsum : tot xs = tot (halfL xs P 0) + tot (halfL xs P 1) := (half_sum (hok.l1.trans hn1)).symm
 dsimp only at hs hsum
 subst hP
 have e9 : ((P : Int).toNat) = P := by omega
 unfold finS
 rw [e9]
 have HE01 : Hid (∀ u', Below u.heap.size u u' → Calls Tryz.prog 106 #[.agg #[.slice (some ⟨h1, 0, none⟩) n1 d1, .slice (some ⟨h2, 0, none⟩) 2 d2, .int .i64 pl], .agg #[.int .i64 (P : Int), .int .i64 s, .bool st, .bool sk, .bool re, .bool fe, .bool ag, .int .i64 c, .int .i64 l], .agg #[.int .i64 0, .int .i64 1]] u' (PosQ n1 2 pl (List.replicate n1 0) [y0 + tot (halfL xs P 0), y1 + tot (halfL xs P 1)] u')) := Lib.hid (fun u' hu => by
  exact emp_any01 P s c l st sk re fe ag _ _ n1 d1 d2 pl xs y0 y1 _ _ u' (h.below hu).nr hs hp1 hp2 hn1 h.k3 rfl rfl)
 have HE00 : Hid (∀ u', Below u.heap.size u u' → Calls Tryz.prog 106 #[.agg #[.slice (some ⟨h1, 0, none⟩) n1 d1, .slice (some ⟨h2, 0, none⟩) 2 d2, .int .i64 pl], .agg #[.int .i64 (P : Int), .int .i64 s, .bool st, .bool sk, .bool re, .bool fe, .bool ag, .int .i64 c, .int .i64 l], .agg #[.int .i64 0, .int .i64 0]] u' (PosQ n1 2 pl (List.replicate n1 0) [y0 + tot xs, y1] u')) := Lib.hid (fun u' hu => by
  have e : y0 + tot xs = y0 + tot (halfL xs P 0) + tot (halfL xs P 1) := by omega
  rw [e]
  exact emp_any00 P s c l st sk re fe ag _ _ n1 d1 d2 pl xs y0 y1 _ _ u' (h.below hu).nr hs hp1 hp2 hn1 h.k3 rfl rfl)
 have HE11 : Hid (∀ u', Below u.heap.size u u' → Calls Tryz.prog 106 #[.agg #[.slice (some ⟨h1, 0, none⟩) n1 d1, .slice (some ⟨h2, 0, none⟩) 2 d2, .int .i64 pl], .agg #[.int .i64 (P : Int), .int .i64 s, .bool st, .bool sk, .bool re, .bool fe, .bool ag, .int .i64 c, .int .i64 l], .agg #[.int .i64 1, .int .i64 1]] u' (PosQ n1 2 pl (List.replicate n1 0) [y0, y1 + tot xs] u')) := Lib.hid (fun u' hu => by
  have e : y1 + tot xs = y1 + tot (halfL xs P 0) + tot (halfL xs P 1) := by omega
  rw [e]
  exact emp_any11 P s c l st sk re fe ag _ _ n1 d1 d2 pl xs y0 y1 _ _ u' (h.below hu).nr hs hp1 hp2 hn1 h.k3 rfl rfl)
 have HTT : Hid (∀ v : World, PlK w pb (P : Int) s c l st sk re fe ag n1 b1 e1 b2 e2 sp sx sy (.slice ma ms.length mc) v2 ms L h1 d1 h2 d2 ⟨pl, xs, [y0, y1]⟩ rg R v → (pb < v.heap.size ∧ v.cell? ⟨pb, 0, none⟩ = some (.int .i64 (P : Int)) ∧ v.cell? ⟨pb, 1, none⟩ = some (.int .i64 s) ∧ v.cell? ⟨pb, 2, none⟩ = some (.bool st) ∧ v.cell? ⟨pb, 3, none⟩ = some (.bool sk) ∧ v.cell? ⟨pb, 4, none⟩ = some (.bool re) ∧ v.cell? ⟨pb, 5, none⟩ = some (.bool fe) ∧ v.cell? ⟨pb, 6, none⟩ = some (.bool ag) ∧ v.cell? ⟨pb, 7, none⟩ = some (.int .i64 c) ∧ v.cell? ⟨pb, 8, none⟩ = some (.int .i64 l) ∧ v.cell? ⟨pb, 13, none⟩ = some (.slice (some ⟨h1, 0, none⟩) n1 d1) ∧ v.cell? ⟨pb, 14, none⟩ = some (.slice (some ⟨h2, 0, none⟩) 2 d2) ∧ v.cell? ⟨pb, 15, none⟩ = some (.int .i64 pl))) := Lib.hid (fun v k => ⟨k.g.lt, k.g.c0, k.g.c1, k.g.c2, k.g.c3, k.g.c4, k.g.c5, k.g.c6, k.g.c7, k.g.c8, k.g.c13, k.g.c14, k.g.c15⟩)
 have H := Lib.hid (h.below (al1 u (.cells #[.slice none 0 0, .slice none 0 0, .int .i64 0] 33)))
 have HRg := Lib.hid (TGm.rg H.out.g)
 have HB := Lib.hid (al1 u (.cells #[.slice none 0 0, .slice none 0 0, .int .i64 0] 33))
 have HZ := Lib.hid (zero_new u 33)
 have hpb : pb < u.heap.size := h.g.lt
 clear hs hsum hok h e9 hn1 hp1 hp2
 rcases (show rg = -1 ∨ rg = 0 ∨ rg = 1 by omega) with hr | hr | hr
 ·rw [if_pos hr]
  have Hr := Lib.hid hr
  clear hr hr1 hr2
  go_enter Tryz.func66, Tryz.ntmps66
  go_wp2_with (refine wpList_load_mid rfl 35 _ rfl pb 0 rfl _ _ HRg.out Tryz.underlying35 rfl (by kernel_rfl) ?_)
  refine (hasR_no _ _ _ _ _ _ _ _ _ _ _ _ _ _ _ _ _ _ _ _ _ _ _ _ _ _ _ _ Hr.out).mono ?_
  rintro e u4 ⟨rfl, hb⟩
  have H := Lib.hid (H.out.below hb)
  have HZ := Lib.hid (HZ.out.below hb)
  have HB := Lib.hid (HB.out.trans (hb.mono HB.out.size))
  clear hb HRg
  go_wp2_with fail
  go_region_held3 (fun v => (pb < v.heap.size ∧ v.cell? ⟨pb, 0, none⟩ = some (.int .i64 (P : Int)) ∧ v.cell? ⟨pb, 1, none⟩ = some (.int .i64 s) ∧ v.cell? ⟨pb, 2, none⟩ = some (.bool st) ∧ v.cell? ⟨pb, 3, none⟩ = some (.bool sk) ∧ v.cell? ⟨pb, 4, none⟩ = some (.bool re) ∧ v.cell? ⟨pb, 5, none⟩ = some (.bool fe) ∧ v.cell? ⟨pb, 6, none⟩ = some (.bool ag) ∧ v.cell? ⟨pb, 7, none⟩ = some (.int .i64 c) ∧ v.cell? ⟨pb, 8, none⟩ = some (.int .i64 l) ∧ v.cell? ⟨pb, 13, none⟩ = some (.slice (some ⟨h1, 0, none⟩) n1 d1) ∧ v.cell? ⟨pb, 14, none⟩ = some (.slice (some ⟨h2, 0, none⟩) 2 d2) ∧ v.cell? ⟨pb, 15, none⟩ = some (.int .i64 pl))) (first | with_reducible exact HTT.out _ H.out | with_reducible exact HTT.out _ H.out.drew | exact Pb13.but (HTT.out _ H.out) (but3 _ _ _ _ _) (by omega))
   ((go_at_call 106; (with_reducible refine (HE01.out _ ?_).mono ?_); (first | with_reducible exact HB.out | with_reducible exact HB.out.drew); rintro e w6 ⟨q1, k1, q2, k2, rfl, ho, l1, l2, r1, r2, hb⟩; have HO := Lib.hid ho; have nn1 := ho.o1.new; have nn2 := ho.o2.new; have zl0 := HZ.out.lt; (first | with_reducible have HB := Lib.hid (Below.trans HB.out (hb.mono HB.out.size)) | with_reducible have HB := Lib.hid (Below.trans HB.out.drew (hb.mono HB.out.drew.size))); (first | with_reducible have HZ := Lib.hid (HZ.out.below hb) | with_reducible have HZ := Lib.hid (HZ.out.drew.below hb)); obtain ⟨zl, z0, z1, z2, zf⟩ := HZ.out; have f0 := zf 0; have f1 := zf 1; have f2 := zf 2; (first | with_reducible have H := Lib.hid (H.out.below hb) | with_reducible have H := Lib.hid (H.out.drew.below hb)); clear hb ho zf))
  (try simp at nn1)
  (try simp at nn2)
  go_wp2_with fail
  refine bodyPost_ret (v := .agg #[.slice (some ⟨q1, 0, none⟩) n1 k1, .slice (some ⟨q2, 0, none⟩) 2 k2, .int .i64 pl]) (by simp [results, Tryz.results66, go_sem, z0, z1, z2]) rfl ⟨q1, k1, q2, k2, rfl, (HO.out.set3 _ _ _ (by omega) (by omega)).lower (by first | omega | (simp; done) | (simp; omega)), by simpa using l1, by simpa using l2, r1, r2, OnW.set3 (show OnW u w6 from HB.out) (by omega) _ _ _⟩
 ·have Hr : Hid (rg ≠ -1) := Lib.hid (by omega)
  have hw : IntKind.i64.wrap (1 - rg) = 1 := by rw [hr]; decide
  rw [if_neg (by omega), if_pos hr]
  clear hr hr1 hr2
  go_enter Tryz.func66, Tryz.ntmps66
  go_wp2_with (refine wpList_load_mid rfl 35 _ rfl pb 0 rfl _ _ HRg.out Tryz.underlying35 rfl (by kernel_rfl) ?_)
  refine (hasR_yes _ _ _ _ _ _ _ _ _ _ _ _ _ _ _ _ _ _ _ _ _ _ _ _ _ _ _ _ Hr.out).mono ?_
  rintro e u4 ⟨rfl, hb⟩
  have H := Lib.hid (H.out.below hb)
  have HZ := Lib.hid (HZ.out.below hb)
  have HB := Lib.hid (HB.out.trans (hb.mono HB.out.size))
  clear hb HRg
  have t16 := H.out.g.c16
  have hpb2 := H.out.g.lt
  go_wp2_with fail
  clear t16 hpb2
  go_region_held3 (fun v => (pb < v.heap.size ∧ v.cell? ⟨pb, 0, none⟩ = some (.int .i64 (P : Int)) ∧ v.cell? ⟨pb, 1, none⟩ = some (.int .i64 s) ∧ v.cell? ⟨pb, 2, none⟩ = some (.bool st) ∧ v.cell? ⟨pb, 3, none⟩ = some (.bool sk) ∧ v.cell? ⟨pb, 4, none⟩ = some (.bool re) ∧ v.cell? ⟨pb, 5, none⟩ = some (.bool fe) ∧ v.cell? ⟨pb, 6, none⟩ = some (.bool ag) ∧ v.cell? ⟨pb, 7, none⟩ = some (.int .i64 c) ∧ v.cell? ⟨pb, 8, none⟩ = some (.int .i64 l) ∧ v.cell? ⟨pb, 13, none⟩ = some (.slice (some ⟨h1, 0, none⟩) n1 d1) ∧ v.cell? ⟨pb, 14, none⟩ = some (.slice (some ⟨h2, 0, none⟩) 2 d2) ∧ v.cell? ⟨pb, 15, none⟩ = some (.int .i64 pl))) (first | with_reducible exact HTT.out _ H.out | with_reducible exact HTT.out _ H.out.drew | exact Pb13.but (HTT.out _ H.out) (but3 _ _ _ _ _) (by omega))
   ((go_at_call 106; (with_reducible refine (HE11.out _ ?_).mono ?_); (first | with_reducible exact HB.out | with_reducible exact HB.out.drew); rintro e w6 ⟨q1, k1, q2, k2, rfl, ho, l1, l2, r1, r2, hb⟩; have HO := Lib.hid ho; have nn1 := ho.o1.new; have nn2 := ho.o2.new; have zl0 := HZ.out.lt; (first | with_reducible have HB := Lib.hid (Below.trans HB.out (hb.mono HB.out.size)) | with_reducible have HB := Lib.hid (Below.trans HB.out.drew (hb.mono HB.out.drew.size))); (first | with_reducible have HZ := Lib.hid (HZ.out.below hb) | with_reducible have HZ := Lib.hid (HZ.out.drew.below hb)); obtain ⟨zl, z0, z1, z2, zf⟩ := HZ.out; have f0 := zf 0; have f1 := zf 1; have f2 := zf 2; (first | with_reducible have H := Lib.hid (H.out.below hb) | with_reducible have H := Lib.hid (H.out.drew.below hb)); clear hb ho zf))
  (try simp at nn1)
  (try simp at nn2)
  go_wp2_with fail
  refine bodyPost_ret (v := .agg #[.slice (some ⟨q1, 0, none⟩) n1 k1, .slice (some ⟨q2, 0, none⟩) 2 k2, .int .i64 pl]) (by simp [results, Tryz.results66, go_sem, z0, z1, z2]) rfl ⟨q1, k1, q2, k2, rfl, (HO.out.set3 _ _ _ (by omega) (by omega)).lower (by first | omega | (simp; done) | (simp; omega)), by simpa using l1, by simpa using l2, r1, r2, OnW.set3 (show OnW u w6 from HB.out) (by omega) _ _ _⟩
 ·have Hr : Hid (rg ≠ -1) := Lib.hid (by omega)
  have hw : IntKind.i64.wrap (1 - rg) = 0 := by rw [hr]; decide
  rw [if_neg (by omega), if_neg (by omega)]
  clear hr hr1 hr2
  go_enter Tryz.func66, Tryz.ntmps66
  go_wp2_with (refine wpList_load_mid rfl 35 _ rfl pb 0 rfl _ _ HRg.out Tryz.underlying35 rfl (by kernel_rfl) ?_)
  refine (hasR_yes _ _ _ _ _ _ _ _ _ _ _ _ _ _ _ _ _ _ _ _ _ _ _ _ _ _ _ _ Hr.out).mono ?_
  rintro e u4 ⟨rfl, hb⟩
  have H := Lib.hid (H.out.below hb)
  have HZ := Lib.hid (HZ.out.below hb)
  have HB := Lib.hid (HB.out.trans (hb.mono HB.out.size))
  clear hb HRg
  have t16 := H.out.g.c16
  have hpb2 := H.out.g.lt
  go_wp2_with fail
  clear t16 hpb2
  go_region_held3 (fun v => (pb < v.heap.size ∧ v.cell? ⟨pb, 0, none⟩ = some (.int .i64 (P : Int)) ∧ v.cell? ⟨pb, 1, none⟩ = some (.int .i64 s) ∧ v.cell? ⟨pb, 2, none⟩ = some (.bool st) ∧ v.cell? ⟨pb, 3, none⟩ = some (.bool sk) ∧ v.cell? ⟨pb, 4, none⟩ = some (.bool re) ∧ v.cell? ⟨pb, 5, none⟩ = some (.bool fe) ∧ v.cell? ⟨pb, 6, none⟩ = some (.bool ag) ∧ v.cell? ⟨pb, 7, none⟩ = some (.int .i64 c) ∧ v.cell? ⟨pb, 8, none⟩ = some (.int .i64 l) ∧ v.cell? ⟨pb, 13, none⟩ = some (.slice (some ⟨h1, 0, none⟩) n1 d1) ∧ v.cell? ⟨pb, 14, none⟩ = some (.slice (some ⟨h2, 0, none⟩) 2 d2) ∧ v.cell? ⟨pb, 15, none⟩ = some (.int .i64 pl))) (first | with_reducible exact HTT.out _ H.out | with_reducible exact HTT.out _ H.out.drew | exact Pb13.but (HTT.out _ H.out) (but3 _ _ _ _ _) (by omega))
   ((go_at_call 106; (with_reducible refine (HE00.out _ ?_).mono ?_); (first | with_reducible exact HB.out | with_reducible exact HB.out.drew); rintro e w6 ⟨q1, k1, q2, k2, rfl, ho, l1, l2, r1, r2, hb⟩; have HO := Lib.hid ho; have nn1 := ho.o1.new; have nn2 := ho.o2.new; have zl0 := HZ.out.lt; (first | with_reducible have HB := Lib.hid (Below.trans HB.out (hb.mono HB.out.size)) | with_reducible have HB := Lib.hid (Below.trans HB.out.drew (hb.mono HB.out.drew.size))); (first | with_reducible have HZ := Lib.hid (HZ.out.below hb) | with_reducible have HZ := Lib.hid (HZ.out.drew.below hb)); obtain ⟨zl, z0, z1, z2, zf⟩ := HZ.out; have f0 := zf 0; have f1 := zf 1; have f2 := zf 2; (first | with_reducible have H := Lib.hid (H.out.below hb) | with_reducible have H := Lib.hid (H.out.drew.below hb)); clear hb ho zf))
  (try simp at nn1)
  (try simp at nn2)
  go_wp2_with fail
  refine bodyPost_ret (v := .agg #[.slice (some ⟨q1, 0, none⟩) n1 k1, .slice (some ⟨q2, 0, none⟩) 2 k2, .int .i64 pl]) (by simp [results, Tryz.results66, go_sem, z0, z1, z2]) rfl ⟨q1, k1, q2, k2, rfl, (HO.out.set3 _ _ _ (by omega) (by omega)).lower (by first | omega | (simp; done) | (simp; omega)), by simpa using l1, by simpa using l2, r1, r2, OnW.set3 (show OnW u w6 from HB.out) (by omega) _ _ _⟩
/- RinP -/
def RIn (u : World) (lo hi : Nat) (a : Option Addr) (b : Nat) (L : List Int) : Prop := OutN u lo a b L ∧ (L ≠ [] → b < hi) ∧ hi ≤ u.heap.size
section
variable {u v : World} {lo hi b c d : Nat} {a : Option Addr} {L : List Int}
theorem RIn.below (h : RIn u lo hi a b L) (k : Below u.heap.size u v) : RIn v lo hi a b L := ⟨h.1.below k, h.2.1, Nat.le_trans h.2.2 k.size⟩
theorem RIn.drew (h : RIn u lo hi a b L) : RIn u.drew lo hi a b L := h.below (Below.refl _ _).drew
theorem RIn.but2 (h : RIn u lo hi a b L) (k : But2 c d u v) (hc : hi ≤ c ∨ c < lo) (hd : hi ≤ d ∨ d < lo) : RIn v lo hi a b L := by
 obtain ⟨ho, hlt, hs⟩ := h
 refine ⟨?_, hlt, Nat.le_trans hs k.size⟩
 by_cases hne : L = []
 ·subst hne
  exact ⟨rowN_nil _ _, ho.at_b, ho.new, fun h => absurd rfl h⟩
 ·have h1 := hlt hne
  have h2 := ho.new
  exact ho.but2 k (by omega) (by omega)
end
def XIn (u : World) (lo x1 x2 n1 n2 : Nat) (xs ys : List Int) : Prop := PosO u lo (some ⟨x1, 0, none⟩) (some ⟨x2, 0, none⟩) x1 x2 n1 n2 xs ys
theorem XIn.below {u v : World} {lo x1 x2 n1 n2 : Nat} {xs ys : List Int} (h : XIn u lo x1 x2 n1 n2 xs ys) (k : Below u.heap.size u v) : XIn v lo x1 x2 n1 n2 xs ys := PosO.below h k
theorem XIn.drew {u : World} {lo x1 x2 n1 n2 : Nat} {xs ys : List Int} (h : XIn u lo x1 x2 n1 n2 xs ys) : XIn u.drew lo x1 x2 n1 n2 xs ys := PosO.below h (Below.refl _ _).drew
def GIn (u : World) (lo : Nat) (a : Option Addr) (b n : Nat) : Prop := OutN u lo a b (marksN 1 n)
theorem GIn.below {u v : World} {lo b n : Nat} {a : Option Addr} (h : GIn u lo a b n) (k : Below u.heap.size u v) : GIn v lo a b n := OutN.below h k
theorem GIn.drew {u : World} {lo b n : Nat} {a : Option Addr} (h : GIn u lo a b n) : GIn u.drew lo a b n := OutN.below h (Below.refl _ _).drew
/- Win9 -/
theorem run_field1 (a b c : Value) (w : World) : (Instr.field 33 (.agg #[a, b, c]) 1).run Tryz.prog w = .ok b w := by kernel_rfl
theorem wpList_field9 {P : Program} {ops : Array Oper} {rest : List Oper} {op : Oper} {a : Act} {w : World} {Q : Exit → Act → World → Prop} (hgd : op.guard = none) (xt : TypeId) (x : Operand) (n : Nat) (ho : op.op = .field xt x n) (xs : Array Value) (hx : a.eval x = .agg xs) (v : Value) (hr : (Instr.field xt (.agg xs) n).run P w = .ok v w)
  (h : wpList P ops Q rest (a.put op.dst v) w) : wpList P ops Q (op :: rest) a w :=
 wpList_plain hgd fun _ hK => by
  unfold Oper.wp execOp
  simp only [ho, hx, Sem.run_bind, Sem.run_pure, Result.andThen_ok, hr]
  exact hK _ _ h
theorem finS_two (p rg : Int) (xs : List Int) (y0 y1 : Int) : ∃ a b, finS p rg xs y0 y1 = [a, b] := by
 unfold finS
 split
 ·exact ⟨_, _, rfl⟩
 ·split
  ·exact ⟨_, _, rfl⟩
  ·exact ⟨_, _, rfl⟩
theorem finS_len (p rg : Int) (xs : List Int) (y0 y1 : Int) : (finS p rg xs y0 y1).length = 2 := by
 obtain ⟨a, b, h⟩ := finS_two p rg xs y0 y1
 rw [h]
 rfl
def RinE (NS : List Int) (cd : Int) (w : World) (e : Ending) (w' : World) : Prop := ∃ a c b, e = .returned (.tuple #[.slice a NS.length c, .int .i64 cd]) ∧ RIn w' w.heap.size w'.heap.size a b NS ∧ Below w.heap.size w w'
theorem rinE_nil {w u : World} (cd : Int) (h : Below w.heap.size w u) : RinE [] cd w (.returned (.tuple #[.slice none 0 0, .int .i64 cd])) u :=
 ⟨none, 0, w.heap.size, rfl, ⟨⟨rowN_nil _ _, (fun _ _ e => by cases e), Nat.le_refl _, fun h => absurd rfl h⟩, (fun h => absurd rfl h), Nat.le_refl _⟩, h⟩
def scoS (cd p rg : Int) (nx ny : List Int) : List Int := if cd = 0 then finS p rg nx (ny.getD 0 0) (ny.getD 1 0) else []
def winV (p rg : Int) (nx ny : List Int) : Int := if rg = -1 then (if (finS p rg nx (ny.getD 0 0) (ny.getD 1 0)).getD 1 0 < (finS p rg nx (ny.getD 0 0) (ny.getD 1 0)).getD 0 0 then 0 else if (finS p rg nx (ny.getD 0 0) (ny.getD 1 0)).getD 0 0 < (finS p rg nx (ny.getD 0 0) (ny.getD 1 0)).getD 1 0 then 1 else -1) else 1 - rg
def FpP (cd : Int) (n1 : Nat) (pl p rg : Int) (nx ny : List Int) (w : World) (e : Ending) (w' : World) : Prop := if cd = 0 then PosZ n1 2 pl 0 (List.replicate n1 0) (finS p rg nx (ny.getD 0 0) (ny.getD 1 0)) w e w' else PosZ 0 0 0 cd [] [] w e w'
theorem FpP0 (n1 : Nat) (pl p rg : Int) (nx ny : List Int) : FpP 0 n1 pl p rg nx ny = PosZ n1 2 pl 0 (List.replicate n1 0) (finS p rg nx (ny.getD 0 0) (ny.getD 1 0)) := by
 funext w e w'
 unfold FpP
 rw [if_pos rfl]
theorem FpPn {cd : Int} (h : cd ≠ 0) (n1 : Nat) (pl p rg : Int) (nx ny : List Int) : FpP cd n1 pl p rg nx ny = PosZ 0 0 0 cd [] [] := by
 funext w e w'
 unfold FpP
 rw [if_neg h]
def WinO (cd p rg : Int) (nx ny : List Int) : Value := .tuple #[.int .i64 (if cd = 0 then winV p rg nx ny else 0), .int .i64 cd]
theorem fin_all {p s c l : Int} {st sk re fe ag : Bool} {n1 n2 m1 m2 : Nat} {pp : Int} {xs ys ms : List Int} {bp : Int} {nx ny : List Int} {rg : Int} (h : finC p s c l st sk re fe ag n1 n2 pp xs ys ms bp nx ny rg = 0) (l1 : xs.length = n1) (l2 : ys.length = n2) (l3 : nx.length = m1) (l4 : ny.length = m2) :
  okP (okR p s c l st ag) p m1 m2 bp nx ny = true ∧ (-1 ≤ rg ∧ rg ≤ 1) ∧ m1 = n1 ∧ ∃ y0 y1, ny = [y0, y1] := by
 obtain ⟨hok, -⟩ := finC_parts h
 obtain ⟨hn, e1, -, -⟩ := okNow hok l1 l2 l3 l4
 obtain ⟨-, -, hr, -⟩ := okG_parts hok
 obtain ⟨y0, y1, e, -⟩ := ok9 hn l4
 exact ⟨hn, hr, e1, y0, y1, e⟩
def FpB (w : World) (Jp Js Jc Jl : Int) (Jst Jsk Jre Jfe Jag : Bool) (Ja1 Ja2 : Option Addr) (Jan1 Jac1 Jan2 Jac2 : Nat) (Jap : Int) (Jm : Option Addr) (Jmn Jmc : Nat) (Jb1 Jb2 : Option Addr) (Jbn1 Jbc1 Jbn2 Jbc2 : Nat) (Jbp Jrg : Int) (u : World) : Prop := GmB w w.heap.size Jp Js Jc Jl Jst Jsk Jre Jfe Jag Ja1 Ja2 Jan1 Jac1 Jan2 Jac2 Jap Jm Jmn Jmc Jb1 Jb2 Jbn1 Jbc1 Jbn2 Jbc2 Jbp Jrg u ∧ ZeroP u (w.heap.size + 1)
theorem FpB.below {w u v : World} {Jp Js Jc Jl : Int} {Jst Jsk Jre Jfe Jag : Bool} {Ja1 Ja2 : Option Addr} {Jan1 Jac1 Jan2 Jac2 : Nat} {Jap : Int} {Jm : Option Addr} {Jmn Jmc : Nat} {Jb1 Jb2 : Option Addr} {Jbn1 Jbc1 Jbn2 Jbc2 : Nat} {Jbp Jrg : Int} (h : FpB w Jp Js Jc Jl Jst Jsk Jre Jfe Jag Ja1 Ja2 Jan1 Jac1 Jan2 Jac2 Jap Jm Jmn Jmc Jb1 Jb2 Jbn1 Jbc1 Jbn2 Jbc2 Jbp Jrg u) (k : Below u.heap.size u v) : FpB w Jp Js Jc Jl Jst Jsk Jre Jfe Jag Ja1 Ja2 Jan1 Jac1 Jan2 Jac2 Jap Jm Jmn Jmc Jb1 Jb2 Jbn1 Jbc1 Jbn2 Jbc2 Jbp Jrg v := ⟨h.1.below k, h.2.below k⟩
theorem fpb_new (Jp Js Jc Jl : Int) (Jst Jsk Jre Jfe Jag : Bool) (Ja1 Ja2 : Option Addr) (Jan1 Jac1 Jan2 Jac2 : Nat) (Jap : Int) (Jm : Option Addr) (Jmn Jmc : Nat) (Jb1 Jb2 : Option Addr) (Jbn1 Jbc1 Jbn2 Jbc2 : Nat) (Jbp Jrg : Int) (w : World) (T U : TypeId) : FpB w Jp Js Jc Jl Jst Jsk Jre Jfe Jag Ja1 Ja2 Jan1 Jac1 Jan2 Jac2 Jap Jm Jmn Jmc Jb1 Jb2 Jbn1 Jbc1 Jbn2 Jbc2 Jbp Jrg ((w.alloc (.cells #[.int .i64 Jp, .int .i64 Js, .bool Jst, .bool Jsk, .bool Jre, .bool Jfe, .bool Jag, .int .i64 Jc, .int .i64 Jl, .slice Ja1 Jan1 Jac1, .slice Ja2 Jan2 Jac2, .int .i64 Jap, .slice Jm Jmn Jmc, .slice Jb1 Jbn1 Jbc1, .slice Jb2 Jbn2 Jbc2, .int .i64 Jbp, .int .i64 Jrg] T)).alloc (.cells #[.slice none 0 0, .slice none 0 0, .int .i64 0] U)) := by
 have h := zero_new (w.alloc (.cells #[.int .i64 Jp, .int .i64 Js, .bool Jst, .bool Jsk, .bool Jre, .bool Jfe, .bool Jag, .int .i64 Jc, .int .i64 Jl, .slice Ja1 Jan1 Jac1, .slice Ja2 Jan2 Jac2, .int .i64 Jap, .slice Jm Jmn Jmc, .slice Jb1 Jbn1 Jbc1, .slice Jb2 Jbn2 Jbc2, .int .i64 Jbp, .int .i64 Jrg] T)) U
 rw [World.size_alloc] at h
 exact ⟨⟨(gm_new Jp Js Jc Jl Jst Jsk Jre Jfe Jag Ja1 Ja2 Jan1 Jac1 Jan2 Jac2 Jap Jm Jmn Jmc Jb1 Jb2 Jbn1 Jbc1 Jbn2 Jbc2 Jbp Jrg w T).below (al1 _ _), al2 _ _ _⟩, h⟩
theorem l09Code_any (Jp Js Jc Jl : Int) (Jst Jsk Jre Jfe Jag : Bool) (Ja1 Ja2 : Option Addr) (Jan1 Jac1 Jan2 Jac2 : Nat) (Jap : Int) (Jm : Option Addr) (Jmn Jmc : Nat) (Jb1 Jb2 : Option Addr) (Jbn1 Jbc1 Jbn2 Jbc2 : Nat) (Jbp Jrg : Int) (sx sy ms nx ny : List Int) (gb : Nat) (w : World) (hg : GmAt w gb Jp Js Jc Jl Jst Jsk Jre Jfe Jag Ja1 Ja2 Jan1 Jac1 Jan2 Jac2 Jap Jm Jmn Jmc Jb1 Jb2 Jbn1 Jbc1 Jbn2 Jbc2 Jbp Jrg) (h : GamR w Ja1 Ja2 Jan1 Jan2 Jm Jmn Jb1 Jb2 Jbn1 Jbn2 sx sy ms nx ny) :
  Calls Tryz.prog 62 #[.pointer (some ⟨gb, 0, none⟩)] w (BelP (.int .i64 (finC Jp Js Jc Jl Jst Jsk Jre Jfe Jag Jan1 Jan2 Jap sx sy ms Jbp nx ny Jrg)) w) := by
 have HS := Lib.hid (show GmB w gb Jp Js Jc Jl Jst Jsk Jre Jfe Jag Ja1 Ja2 Jan1 Jac1 Jan2 Jac2 Jap Jm Jmn Jmc Jb1 Jb2 Jbn1 Jbc1 Jbn2 Jbc2 Jbp Jrg w from ⟨hg, Below.refl _ _⟩)
 have HC := Lib.hid (l08Ok_any Jp Js Jc Jl Jst Jsk Jre Jfe Jag Ja1 Ja2 Jan1 Jac1 Jan2 Jac2 Jap Jm Jmn Jmc Jb1 Jb2 Jbn1 Jbc1 Jbn2 Jbc2 Jbp Jrg sx sy ms nx ny gb w hg h)
 have H := Lib.hid h
 unfold finC
 clear h hg
 cases hok : okG Jp Js Jc Jl Jst Jsk Jre Jfe Jag Jan1 Jan2 Jap sx sy ms Jbp nx ny Jrg
 ·rw [hok] at HC
  clear hok
  go_enter Tryz.func62, Tryz.ntmps62
  go_wp2_with fail
  refine HC.out.mono ?_
  rintro e u ⟨rfl, hb⟩
  go_wp2_with fail
  go_ret
  exact ⟨rfl, hb⟩
 ·rw [hok] at HC
  have Hok := Lib.hid hok
  rw [if_pos rfl]
  clear hok
  have HE : Hid (∀ u, GmB w gb Jp Js Jc Jl Jst Jsk Jre Jfe Jag Ja1 Ja2 Jan1 Jac1 Jan2 Jac2 Jap Jm Jmn Jmc Jb1 Jb2 Jbn1 Jbc1 Jbn2 Jbc2 Jbp Jrg u → Calls Tryz.prog 55 #[.pointer (some ⟨gb, 0, none⟩)] u (BelP (.int .i64 (endG Jp Js Jc Jl Jst Jsk Jre Jfe Jag Jap sx sy ms Jbp nx ny Jrg)) u)) := Lib.hid (fun u hu => l09End_any Jp Js Jc Jl Jst Jsk Jre Jfe Jag Ja1 Ja2 Jan1 Jac1 Jan2 Jac2 Jap Jm Jmn Jmc Jb1 Jb2 Jbn1 Jbc1 Jbn2 Jbc2 Jbp Jrg sx sy ms nx ny gb u hu.1 (H.out.below hu.2) Hok.out)
  generalize endG Jp Js Jc Jl Jst Jsk Jre Jfe Jag Jap sx sy ms Jbp nx ny Jrg = en at *
  clear H Hok
  by_cases hz : en = 0
  ·subst hz
   rw [if_pos rfl]
   go_enter Tryz.func62, Tryz.ntmps62
   go_wp2_with fail
   refine HC.out.mono ?_
   rintro e u ⟨rfl, hb⟩
   have HS := Lib.hid (HS.out.below hb)
   clear hb HC
   go_wp2_with fail
   refine (HE.out _ HS.out).mono ?_
   rintro e u2 ⟨rfl, hb⟩
   have HS := Lib.hid (HS.out.below hb)
   clear hb
   go_wp2_with fail
   go_ret
   exact ⟨rfl, HS.out.2⟩
  ·have dz : (en == 0) = false := by simpa using hz
   rw [if_neg hz]
   clear hz
   go_enter Tryz.func62, Tryz.ntmps62
   go_wp2_with fail
   refine HC.out.mono ?_
   rintro e u ⟨rfl, hb⟩
   have HS := Lib.hid (HS.out.below hb)
   clear hb HC
   go_wp2_with fail
   refine (HE.out _ HS.out).mono ?_
   rintro e u2 ⟨rfl, hb⟩
   have HS := Lib.hid (HS.out.below hb)
   clear hb
   go_wp2_with fail
   go_ret
   exact ⟨rfl, HS.out.2⟩
theorem specSO_any (Jp Js Jc Jl : Int) (Jst Jsk Jre Jfe Jag : Bool) (Ja1 Ja2 : Option Addr) (Jan1 Jac1 Jan2 Jac2 : Nat) (Jap : Int) (Jm : Option Addr) (Jmn Jmc : Nat) (Jb1 Jb2 : Option Addr) (Jbn1 Jbc1 Jbn2 Jbc2 : Nat) (Jbp Jrg : Int) (sx sy ms nx ny : List Int) (w : World) (h : GamR w Ja1 Ja2 Jan1 Jan2 Jm Jmn Jb1 Jb2 Jbn1 Jbn2 sx sy ms nx ny) :
  Calls Tryz.prog 19 #[.agg #[.int .i64 Jp, .int .i64 Js, .bool Jst, .bool Jsk, .bool Jre, .bool Jfe, .bool Jag, .int .i64 Jc, .int .i64 Jl, .slice Ja1 Jan1 Jac1, .slice Ja2 Jan2 Jac2, .int .i64 Jap, .slice Jm Jmn Jmc, .slice Jb1 Jbn1 Jbc1, .slice Jb2 Jbn2 Jbc2, .int .i64 Jbp, .int .i64 Jrg]] w (RinE (scoS (finC Jp Js Jc Jl Jst Jsk Jre Jfe Jag Jan1 Jan2 Jap sx sy ms Jbp nx ny Jrg) Jp Jrg nx ny) (finC Jp Js Jc Jl Jst Jsk Jre Jfe Jag Jan1 Jan2 Jap sx sy ms Jbp nx ny Jrg) w) := by
 have HB := Lib.hid (gmb_new Jp Js Jc Jl Jst Jsk Jre Jfe Jag Ja1 Ja2 Jan1 Jac1 Jan2 Jac2 Jap Jm Jmn Jmc Jb1 Jb2 Jbn1 Jbc1 Jbn2 Jbc2 Jbp Jrg w 35)
 have HC := Lib.hid (l09Code_any Jp Js Jc Jl Jst Jsk Jre Jfe Jag Ja1 Ja2 Jan1 Jac1 Jan2 Jac2 Jap Jm Jmn Jmc Jb1 Jb2 Jbn1 Jbc1 Jbn2 Jbc2 Jbp Jrg sx sy ms nx ny w.heap.size _ HB.out.1 (h.below HB.out.2))
 have H := Lib.hid h
 obtain ⟨cd, hcd⟩ : ∃ cd, finC Jp Js Jc Jl Jst Jsk Jre Jfe Jag Jan1 Jan2 Jap sx sy ms Jbp nx ny Jrg = cd := ⟨_, rfl⟩
 rw [hcd] at HC ⊢
 unfold scoS
 by_cases hz : cd = 0
 ·subst hz
  obtain ⟨hn, hr, -, y0, y1, rfl⟩ := fin_all hcd h.s.l1 h.s.l2 h.n.l1 h.n.l2
  have Hn := Lib.hid (And.intro hn hr)
  rw [if_pos rfl]
  clear h hcd hn hr
  go_enter Tryz.func19, Tryz.ntmps19
  go_wp2_with fail
  refine HC.out.mono ?_
  rintro e u ⟨rfl, hb⟩
  have HB := Lib.hid (HB.out.below hb)
  clear hb HC
  go_wp2_with fail
  refine (l09Fin_any Jp Js Jc Jl Jst Jsk Jre Jfe Jag Ja1 Ja2 Jan1 Jac1 Jan2 Jac2 Jap Jm Jmn Jmc Jb1 Jb2 Jbn1 Jbc1 Jbn2 Jbc2 Jbp Jrg sx sy ms nx y0 y1 w.heap.size u HB.out.1 (H.out.below HB.out.2) Hn.out.1 Hn.out.2.1 Hn.out.2.2).mono ?_
  rintro e v ⟨q1, c1, q2, c2, rfl, ho, l1, l2, k1, k2, hb⟩
  have HO := Lib.hid ho
  have hs := HB.out.2.size
  have HB := Lib.hid (HB.out.below hb)
  clear hb ho
  go_wp2_with (refine wpList_field9 rfl 33 _ 1 rfl _ rfl _ (run_field1 _ _ _ _) ?_)
  go_ret2
  exact ⟨_, c2, q2, by rw [finS_len]; rfl, ⟨HO.out.o2.lower hs, fun _ => l2, Nat.le_refl _⟩, HB.out.2⟩
 ·have dz : (cd != 0) = true := by simpa using hz
  rw [if_neg hz]
  clear h hcd hz
  go_enter Tryz.func19, Tryz.ntmps19
  go_wp2_with fail
  refine HC.out.mono ?_
  rintro e u ⟨rfl, hb⟩
  have HB := Lib.hid (HB.out.below hb)
  clear hb HC
  go_wp2_with fail
  go_ret2
  exact rinE_nil cd HB.out.2
theorem FpB.set3 {w u : World} {Jp Js Jc Jl : Int} {Jst Jsk Jre Jfe Jag : Bool} {Ja1 Ja2 : Option Addr} {Jan1 Jac1 Jan2 Jac2 : Nat} {Jap : Int} {Jm : Option Addr} {Jmn Jmc : Nat} {Jb1 Jb2 : Option Addr} {Jbn1 Jbc1 Jbn2 Jbc2 : Nat} {Jbp Jrg : Int} (h : FpB w Jp Js Jc Jl Jst Jsk Jre Jfe Jag Ja1 Ja2 Jan1 Jac1 Jan2 Jac2 Jap Jm Jmn Jmc Jb1 Jb2 Jbn1 Jbc1 Jbn2 Jbc2 Jbp Jrg u) (x y z : Value) : Below w.heap.size w (((u.setCell ⟨w.heap.size + 1, 0, none⟩ x).setCell ⟨w.heap.size + 1, 1, none⟩ y).setCell ⟨w.heap.size + 1, 2, none⟩ z) :=
 ((h.1.2.setCell (p := ⟨w.heap.size + 1, 0, none⟩) (by show w.heap.size ≤ w.heap.size + 1; omega) _).setCell (p := ⟨w.heap.size + 1, 1, none⟩) (by show w.heap.size ≤ w.heap.size + 1; omega) _).setCell (p := ⟨w.heap.size + 1, 2, none⟩) (by show w.heap.size ≤ w.heap.size + 1; omega) _
theorem specFP_any (Jp Js Jc Jl : Int) (Jst Jsk Jre Jfe Jag : Bool) (Ja1 Ja2 : Option Addr) (Jan1 Jac1 Jan2 Jac2 : Nat) (Jap : Int) (Jm : Option Addr) (Jmn Jmc : Nat) (Jb1 Jb2 : Option Addr) (Jbn1 Jbc1 Jbn2 Jbc2 : Nat) (Jbp Jrg : Int) (sx sy ms nx ny : List Int) (w : World) (h : GamR w Ja1 Ja2 Jan1 Jan2 Jm Jmn Jb1 Jb2 Jbn1 Jbn2 sx sy ms nx ny) :
  Calls Tryz.prog 25 #[.agg #[.int .i64 Jp, .int .i64 Js, .bool Jst, .bool Jsk, .bool Jre, .bool Jfe, .bool Jag, .int .i64 Jc, .int .i64 Jl, .slice Ja1 Jan1 Jac1, .slice Ja2 Jan2 Jac2, .int .i64 Jap, .slice Jm Jmn Jmc, .slice Jb1 Jbn1 Jbc1, .slice Jb2 Jbn2 Jbc2, .int .i64 Jbp, .int .i64 Jrg]] w (FpP (finC Jp Js Jc Jl Jst Jsk Jre Jfe Jag Jan1 Jan2 Jap sx sy ms Jbp nx ny Jrg) Jbn1 Jbp Jp Jrg nx ny w) := by
 have HB := Lib.hid (fpb_new Jp Js Jc Jl Jst Jsk Jre Jfe Jag Ja1 Ja2 Jan1 Jac1 Jan2 Jac2 Jap Jm Jmn Jmc Jb1 Jb2 Jbn1 Jbc1 Jbn2 Jbc2 Jbp Jrg w 35 33)
 have HC := Lib.hid (l09Code_any Jp Js Jc Jl Jst Jsk Jre Jfe Jag Ja1 Ja2 Jan1 Jac1 Jan2 Jac2 Jap Jm Jmn Jmc Jb1 Jb2 Jbn1 Jbc1 Jbn2 Jbc2 Jbp Jrg sx sy ms nx ny w.heap.size _ HB.out.1.1 (h.below HB.out.1.2))
 have H := Lib.hid h
 obtain ⟨cd, hcd⟩ : ∃ cd, finC Jp Js Jc Jl Jst Jsk Jre Jfe Jag Jan1 Jan2 Jap sx sy ms Jbp nx ny Jrg = cd := ⟨_, rfl⟩
 rw [hcd] at HC ⊢
 by_cases hz : cd = 0
 ·subst hz
  obtain ⟨hn, hr, -, y0, y1, rfl⟩ := fin_all hcd h.s.l1 h.s.l2 h.n.l1 h.n.l2
  have Hn := Lib.hid (And.intro hn hr)
  rw [FpP0]
  clear h hcd hn hr
  go_enter Tryz.func25, Tryz.ntmps25
  go_wp2_with fail
  refine HC.out.mono ?_
  rintro e u ⟨rfl, hb⟩
  have HB := Lib.hid (HB.out.below hb)
  clear hb HC
  go_wp2_with fail
  refine (l09Fin_any Jp Js Jc Jl Jst Jsk Jre Jfe Jag Ja1 Ja2 Jan1 Jac1 Jan2 Jac2 Jap Jm Jmn Jmc Jb1 Jb2 Jbn1 Jbc1 Jbn2 Jbc2 Jbp Jrg sx sy ms nx y0 y1 w.heap.size u HB.out.1.1 (H.out.below HB.out.1.2) Hn.out.1 Hn.out.2.1 Hn.out.2.2).mono ?_
  rintro e v ⟨q1, c1, q2, c2, rfl, ho, l1, l2, k1, k2, hb⟩
  have HO := Lib.hid ho
  have zl0 := HB.out.2.lt
  have n1 := ho.o1.new
  have n2 := ho.o2.new
  have hs := HB.out.1.2.size
  have HB := Lib.hid (HB.out.below hb)
  clear hb ho
  obtain ⟨zl, z0, z1, z2, zf⟩ := HB.out.2
  have f0 := zf 0
  have f1 := zf 1
  have f2 := zf 2
  clear zf
  go_wp2_with fail
  refine bodyPost_ret (v := .tuple #[.agg #[.slice (some ⟨q1, 0, none⟩) Jbn1 c1, .slice (some ⟨q2, 0, none⟩) 2 c2, .int .i64 Jbp], .int .i64 0]) (by simp [results, Tryz.results25, go_sem, z0, z1, z2]) rfl ?_
  exact posZ_of 0 (HO.out.set3 _ _ _ (by omega) (by omega)) hs (by simpa using l1) (by simpa using l2) k1 k2 (HB.out.set3 _ _ _)
 ·have dz : (cd != 0) = true := by simpa using hz
  rw [FpPn hz]
  clear h hcd hz
  go_enter Tryz.func25, Tryz.ntmps25
  go_wp2_with fail
  refine HC.out.mono ?_
  rintro e u ⟨rfl, hb⟩
  have HB := Lib.hid (HB.out.below hb)
  clear hb HC
  obtain ⟨zl, z0, z1, z2, zf⟩ := HB.out.2
  have f0 := zf 0
  have f1 := zf 1
  have f2 := zf 2
  clear zf
  go_wp2_with fail
  refine bodyPost_ret (v := .tuple #[.agg #[.slice none 0 0, .slice none 0 0, .int .i64 0], .int .i64 cd]) (by simp [results, Tryz.results25, go_sem, z0, z1, z2]) rfl ?_
  exact posZ_zero cd (HB.out.set3 _ _ _) (by simpa using zl)
theorem specWO_any (Jp Js Jc Jl : Int) (Jst Jsk Jre Jfe Jag : Bool) (Ja1 Ja2 : Option Addr) (Jan1 Jac1 Jan2 Jac2 : Nat) (Jap : Int) (Jm : Option Addr) (Jmn Jmc : Nat) (Jb1 Jb2 : Option Addr) (Jbn1 Jbc1 Jbn2 Jbc2 : Nat) (Jbp Jrg : Int) (sx sy ms nx ny : List Int) (w : World) (h : GamR w Ja1 Ja2 Jan1 Jan2 Jm Jmn Jb1 Jb2 Jbn1 Jbn2 sx sy ms nx ny) :
  Calls Tryz.prog 17 #[.agg #[.int .i64 Jp, .int .i64 Js, .bool Jst, .bool Jsk, .bool Jre, .bool Jfe, .bool Jag, .int .i64 Jc, .int .i64 Jl, .slice Ja1 Jan1 Jac1, .slice Ja2 Jan2 Jac2, .int .i64 Jap, .slice Jm Jmn Jmc, .slice Jb1 Jbn1 Jbc1, .slice Jb2 Jbn2 Jbc2, .int .i64 Jbp, .int .i64 Jrg]] w (BelP (WinO (finC Jp Js Jc Jl Jst Jsk Jre Jfe Jag Jan1 Jan2 Jap sx sy ms Jbp nx ny Jrg) Jp Jrg nx ny) w) := by
 have HB := Lib.hid (gmb_new Jp Js Jc Jl Jst Jsk Jre Jfe Jag Ja1 Ja2 Jan1 Jac1 Jan2 Jac2 Jap Jm Jmn Jmc Jb1 Jb2 Jbn1 Jbc1 Jbn2 Jbc2 Jbp Jrg w 35)
 have HC := Lib.hid (l09Code_any Jp Js Jc Jl Jst Jsk Jre Jfe Jag Ja1 Ja2 Jan1 Jac1 Jan2 Jac2 Jap Jm Jmn Jmc Jb1 Jb2 Jbn1 Jbc1 Jbn2 Jbc2 Jbp Jrg sx sy ms nx ny w.heap.size _ HB.out.1 (h.below HB.out.2))
 have H := Lib.hid h
 obtain ⟨cd, hcd⟩ : ∃ cd, finC Jp Js Jc Jl Jst Jsk Jre Jfe Jag Jan1 Jan2 Jap sx sy ms Jbp nx ny Jrg = cd := ⟨_, rfl⟩
 rw [hcd] at HC ⊢
 unfold WinO winV
 by_cases hz : cd = 0
 ·subst hz
  obtain ⟨hn, hr, -, y0, y1, rfl⟩ := fin_all hcd h.s.l1 h.s.l2 h.n.l1 h.n.l2
  have Hn := Lib.hid (And.intro hn hr)
  rw [if_pos rfl]
  clear h hcd hn
  by_cases hrm : Jrg = -1
  ·have hneg : ¬ (0 ≤ Jrg) := by omega
   rw [if_pos hrm]
   have HF : Hid (∀ u, GmB w w.heap.size Jp Js Jc Jl Jst Jsk Jre Jfe Jag Ja1 Ja2 Jan1 Jac1 Jan2 Jac2 Jap Jm Jmn Jmc Jb1 Jb2 Jbn1 Jbc1 Jbn2 Jbc2 Jbp Jrg u → Calls Tryz.prog 63 #[.pointer (some ⟨w.heap.size, 0, none⟩)] u (PosQ Jbn1 2 Jbp (List.replicate Jbn1 0) (finS Jp Jrg nx ([y0, y1].getD 0 0) ([y0, y1].getD 1 0)) u)) := Lib.hid (fun u hu => l09Fin_any Jp Js Jc Jl Jst Jsk Jre Jfe Jag Ja1 Ja2 Jan1 Jac1 Jan2 Jac2 Jap Jm Jmn Jmc Jb1 Jb2 Jbn1 Jbc1 Jbn2 Jbc2 Jbp Jrg sx sy ms nx y0 y1 w.heap.size u hu.1 (H.out.below hu.2) Hn.out.1 Hn.out.2.1 Hn.out.2.2)
   obtain ⟨a, b, hab⟩ := finS_two Jp Jrg nx ([y0, y1].getD 0 0) ([y0, y1].getD 1 0)
   rw [hab] at HF ⊢
   clear hab hrm hr Hn
   obtain ⟨wv, hwv⟩ : ∃ wv : Int, (if b < a then 0 else if a < b then 1 else -1) = wv := ⟨_, rfl⟩
   show Calls _ _ _ _ (BelP (.tuple #[.int .i64 (if b < a then 0 else if a < b then 1 else -1), .int .i64 0]) w)
   rw [hwv]
   have Hwv := Lib.hid hwv
   clear hwv
   obtain ⟨_, m0, m1, m2, m3, m4, m5, m6, m7, m8, m9, m10, m11, m12, m13, m14, m15, m16⟩ := HB.out.1
   go_enter Tryz.func17, Tryz.ntmps17
   go_wp2_with fail
   refine HC.out.mono ?_
   rintro e u ⟨rfl, hb⟩
   have HB := Lib.hid (HB.out.below hb)
   clear hb HC m0 m1 m2 m3 m4 m5 m6 m7 m8 m9 m10 m11 m12 m13 m14 m15 m16
   obtain ⟨_, m0, m1, m2, m3, m4, m5, m6, m7, m8, m9, m10, m11, m12, m13, m14, m15, m16⟩ := HB.out.1
   go_wp2_with fail
   refine (HF.out _ HB.out).mono ?_
   rintro e v ⟨q1, c1, q2, c2, rfl, ho, l1, l2, k1, k2, hb⟩
   have HB := Lib.hid (HB.out.below hb)
   have z0 := (ho.o2.row.2.resolve_left (by simp))
   obtain ⟨g, og, hg, hgl, hgx⟩ := z0
   cases hg
   have x0 := hgx 0 a rfl
   have x1 := hgx 1 b rfl
   clear hb ho HF m0 m1 m2 m3 m4 m5 m6 m7 m8 m9 m10 m11 m12 m13 m14 m15 m16 hgx
   go_wp2_with fail
   by_cases q1 : b < a
   ·obtain rfl : wv = 0 := by rw [← Hwv.out, if_pos q1]
    go_quiet (fail)
    go_wp2_with fail
    go_ret2
    exact ⟨rfl, by first | exact OnW.of9 HB.out.2 (al1 _ _) | exact below_dn (OnW.of9 HB.out.2 (al1 _ _)) _ | exact below_dn (below_dn (OnW.of9 HB.out.2 (al1 _ _)) _) _ | trace_state⟩
   ·by_cases q2 : a < b
    ·obtain rfl : wv = 1 := by rw [← Hwv.out, if_neg q1, if_pos q2]
     go_quiet (fail)
     go_wp2_with fail
     go_quiet (fail)
     go_wp2_with fail
     go_ret2
     exact ⟨rfl, by first | exact OnW.of9 HB.out.2 (al1 _ _) | exact below_dn (OnW.of9 HB.out.2 (al1 _ _)) _ | exact below_dn (below_dn (OnW.of9 HB.out.2 (al1 _ _)) _) _ | trace_state⟩
    ·obtain rfl : wv = -1 := by rw [← Hwv.out, if_neg q1, if_neg q2]
     go_quiet (fail)
     go_wp2_with fail
     go_quiet (fail)
     go_wp2_with fail
     go_ret2
     exact ⟨rfl, by first | exact OnW.of9 HB.out.2 (al1 _ _) | exact below_dn (OnW.of9 HB.out.2 (al1 _ _)) _ | exact below_dn (below_dn (OnW.of9 HB.out.2 (al1 _ _)) _) _ | trace_state⟩
  ·have hpos : 0 ≤ Jrg := by omega
   have hw : IntKind.i64.wrap (1 - Jrg) = 1 - Jrg := IntWalk.i64_in _ ⟨by omega, by omega⟩
   rw [if_neg hrm]
   clear hrm hr Hn
   obtain ⟨_, m0, m1, m2, m3, m4, m5, m6, m7, m8, m9, m10, m11, m12, m13, m14, m15, m16⟩ := HB.out.1
   go_enter Tryz.func17, Tryz.ntmps17
   go_wp2_with fail
   refine HC.out.mono ?_
   rintro e u ⟨rfl, hb⟩
   have HB := Lib.hid (HB.out.below hb)
   clear hb HC m0 m1 m2 m3 m4 m5 m6 m7 m8 m9 m10 m11 m12 m13 m14 m15 m16
   obtain ⟨_, m0, m1, m2, m3, m4, m5, m6, m7, m8, m9, m10, m11, m12, m13, m14, m15, m16⟩ := HB.out.1
   go_wp2_with fail
   go_ret2
   exact ⟨rfl, HB.out.2⟩
 ·have dz : (cd != 0) = true := by simpa using hz
  rw [if_neg hz]
  clear h hcd hz
  go_enter Tryz.func17, Tryz.ntmps17
  go_wp2_with fail
  refine HC.out.mono ?_
  rintro e u ⟨rfl, hb⟩
  have HB := Lib.hid (HB.out.below hb)
  clear hb HC
  go_wp2_with fail
  go_ret2
  exact ⟨rfl, HB.out.2⟩
/- Win9I -/
theorem tot_zero9 : ∀ n : Nat, tot (List.replicate n 0) = 0
 | 0 => rfl
 | n + 1 => by
  have := tot_zero9 n
  rw [List.replicate_succ]
  simp only [tot] at *
  omega
theorem posB_zero9 (n : Nat) : posB (List.replicate n 0) = true := by
 simp [posB]
theorem fin_seed {P : Nat} {rg : Int} {nx : List Int} {y0 y1 : Int} (n : Nat) (hn : nx.length = 2 * P) (hs : seedB nx [y0, y1] = true) : ∃ a b, finS (P : Int) rg nx y0 y1 = [a, b] ∧ seedB (List.replicate n 0) [a, b] = true := by
 obtain ⟨q1, q2, q3⟩ := seedB_parts hs
 have q4 := posB_tot q1
 have hsum := half_sum hn
 have g0 := posB_tot (half_tot (xs := nx) (P := P) (player := 0) hn (.inl rfl) q1).1
 have g1 := posB_tot (half_tot (xs := nx) (P := P) (player := 1) hn (.inr rfl) q1).1
 simp only [posB, List.all_cons, List.all_nil, Bool.and_true, Bool.and_eq_true, decide_eq_true_eq] at q2
 obtain ⟨r0, r1⟩ := q2
 rw [tot2] at q3
 have key : ∀ a b : Int, 0 ≤ a → 0 ≤ b → a + b ≤ 96 → seedB (List.replicate n 0) [a, b] = true := by
  intro a b ha hb hab
  unfold seedB
  rw [posB_zero9, tot_zero9, tot2]
  simp [posB, ha, hb]
  omega
 unfold finS
 rw [Int.toNat_natCast]
 split
 ·exact ⟨_, _, rfl, key _ _ (by omega) (by omega) (by omega)⟩
 ·split
  ·exact ⟨_, _, rfl, key _ _ (by omega) (by omega) (by omega)⟩
  ·exact ⟨_, _, rfl, key _ _ (by omega) (by omega) (by omega)⟩
theorem win_maj (n : Nat) (a b : Int) : majV (tot (List.replicate n 0) + (a + b)) a b = if b < a then 0 else if a < b then 1 else -1 := by
 rw [tot_zero9]
 unfold majV
 by_cases h1 : b < a
 ·rw [if_pos h1, if_pos (by omega)]
 ·rw [if_neg h1, if_neg (by omega)]
  by_cases h2 : a < b
  ·rw [if_pos h2, if_pos (by omega)]
  ·rw [if_neg h2, if_neg (by omega)]
theorem implFP_any (Jp Js Jc Jl : Int) (Jst Jsk Jre Jfe Jag : Bool) (Ja1 Ja2 : Option Addr) (Jan1 Jac1 Jan2 Jac2 : Nat) (Jap : Int) (Jm : Option Addr) (Jmn Jmc : Nat) (Jb1 Jb2 : Option Addr) (Jbn1 Jbc1 Jbn2 Jbc2 : Nat) (Jbp Jrg : Int) (sx sy ms nx ny : List Int) (w : World) (h : GamR w Ja1 Ja2 Jan1 Jan2 Jm Jmn Jb1 Jb2 Jbn1 Jbn2 sx sy ms nx ny) :
  Calls Tryz.prog 26 #[.agg #[.int .i64 Jp, .int .i64 Js, .bool Jst, .bool Jsk, .bool Jre, .bool Jfe, .bool Jag, .int .i64 Jc, .int .i64 Jl, .slice Ja1 Jan1 Jac1, .slice Ja2 Jan2 Jac2, .int .i64 Jap, .slice Jm Jmn Jmc, .slice Jb1 Jbn1 Jbc1, .slice Jb2 Jbn2 Jbc2, .int .i64 Jbp, .int .i64 Jrg]] w (FpP (finC Jp Js Jc Jl Jst Jsk Jre Jfe Jag Jan1 Jan2 Jap sx sy ms Jbp nx ny Jrg) Jbn1 Jbp Jp Jrg nx ny w) := by
 have HB := Lib.hid (fpb_new Jp Js Jc Jl Jst Jsk Jre Jfe Jag Ja1 Ja2 Jan1 Jac1 Jan2 Jac2 Jap Jm Jmn Jmc Jb1 Jb2 Jbn1 Jbc1 Jbn2 Jbc2 Jbp Jrg w 35 33)
 have HRg := Lib.hid (GmAt.range HB.out.1.1)
 have HC := Lib.hid (replayE_any Jp Js Jc Jl Jst Jsk Jre Jfe Jag Ja1 Ja2 Jan1 Jac1 Jan2 Jac2 Jap Jm Jmn Jmc Jb1 Jb2 Jbn1 Jbc1 Jbn2 Jbc2 Jbp Jrg sx sy ms nx ny _ (h.below HB.out.1.2))
 obtain ⟨cd, hcd⟩ : ∃ cd, finC Jp Js Jc Jl Jst Jsk Jre Jfe Jag Jan1 Jan2 Jap sx sy ms Jbp nx ny Jrg = cd := ⟨_, rfl⟩
 rw [hcd] at HC ⊢
 by_cases hz : cd = 0
 ·subst hz
  obtain ⟨hn, hr, hb1, y0, y1, rfl⟩ := fin_all hcd h.s.l1 h.s.l2 h.n.l1 h.n.l2
  have Hr := Lib.hid hr
  have Hb1 := Lib.hid hb1
  have Hn := Lib.hid (And.intro hn h.n.l1)
  rw [FpP0]
  clear h hcd hn hr hb1
  go_enter Tryz.func26, Tryz.ntmps26
  go_wp2_with (refine wpList_load_mid rfl 35 _ rfl w.heap.size 0 rfl _ _ HRg.out Tryz.underlying35 rfl (by kernel_rfl) ?_)
  refine HC.out.mono ?_
  intro e u hq
  unfold RpF at hq
  rw [if_pos rfl] at hq
  obtain ⟨pb, b1, e1, b2, e2, va, vc, ta, tc, L, h1, d1, h2, d2, R, rfl, hP, hQ, -⟩ := hq
  have HP := Lib.hid hP
  have HB := Lib.hid (HB.out.below hP.be)
  obtain ⟨cs, hcs⟩ : ∃ cs, cs = vals18 Jp Js Jc Jl Jst Jsk Jre Jfe Jag Jan1 b1 e1 b2 e2 Jap (.slice va ms.length vc) (.slice ta L.length tc) h1 d1 h2 d2 Jbp Jrg := ⟨_, rfl⟩
  have HCs := Lib.hid (show cs.length = 18 ∧ cs.toArray.all (·.oneCell') = true from by rw [hcs]; exact ⟨rfl, vals18_one _ _ _ _ _ _ _ _ _ _ _ _ _ _ _ _ _ _ _ _ _ _ _ _ _ _ _⟩)
  rw [← hcs]
  have Hcs := Lib.hid hcs
  clear hcs hP HRg HC
  go_upto_region 2 with (refine wpList_store_mid rfl 72 _ _ rfl u.heap.size 0 cs.toArray rfl rfl (by rw [show cs.toArray.size = 18 from by simpa using HCs.out.1]; exact there18 u 72) (by rw [show cs.toArray.size = 18 from by simpa using HCs.out.1]; kernel_rfl) HCs.out.2 ?_)
  generalize hX : World.setCells _ _ _ _ = X
  have hM := HP.out.move 72 X (by rw [← Hcs.out]; exact hX.symm)
  have HM := Lib.hid hM.1
  have HY := Lib.hid (HB.out.below hM.2)
  have HF : Hid (∀ X', Below X.heap.size X X' → Calls Tryz.prog 66 #[.pointer (some ⟨u.heap.size, 0, none⟩)] X' (PosQ Jbn1 2 Jbp (List.replicate Jbn1 0) (finS Jp Jrg nx ([y0, y1].getD 0 0) ([y0, y1].getD 1 0)) X')) := Lib.hid (fun X' hX' => by
   have h9 := final_any _ _ _ _ _ _ _ _ _ X' (hM.1.below hX') hQ Hr.out.1 Hr.out.2
   rw [← Hb1.out] at h9
   exact h9)
  clear hX hM HP hQ HB
  generalize u.heap.size = M at *
  go_wp2_with fail
  refine (HF.out X (Below.refl _ _)).mono ?_
  rintro e v ⟨q1, c1, q2, c2, rfl, ho, l1, l2, k1, k2, hb⟩
  have HO := Lib.hid ho
  have zl0 := HY.out.2.lt
  have n1 := ho.o1.new
  have n2 := ho.o2.new
  have hs := HY.out.1.2.size
  have HB := Lib.hid (HY.out.below hb)
  clear hb ho
  obtain ⟨zl, z0, z1, z2, zf⟩ := HB.out.2
  have f0 := zf 0
  have f1 := zf 1
  have f2 := zf 2
  clear zf
  go_wp2_with fail
  refine bodyPost_ret (v := .tuple #[.agg #[.slice (some ⟨q1, 0, none⟩) Jbn1 c1, .slice (some ⟨q2, 0, none⟩) 2 c2, .int .i64 Jbp], .int .i64 0]) (by simp [results, Tryz.results26, go_sem, z0, z1, z2]) rfl ?_
  exact posZ_of 0 (HO.out.set3 _ _ _ (by omega) (by omega)) hs (by simpa using l1) (by simpa using l2) k1 k2 (HB.out.set3 _ _ _)
 ·have dz : (cd != 0) = true := by simpa using hz
  rw [FpPn hz]
  clear h hcd
  go_enter Tryz.func26, Tryz.ntmps26
  go_wp2_with (refine wpList_load_mid rfl 35 _ rfl w.heap.size 0 rfl _ _ HRg.out Tryz.underlying35 rfl (by kernel_rfl) ?_)
  refine HC.out.mono ?_
  intro e u hq
  unfold RpF at hq
  rw [if_neg hz] at hq
  obtain ⟨rfl, hb⟩ := hq
  have HB := Lib.hid (HB.out.below hb)
  obtain ⟨cs, hcs⟩ : ∃ cs, cs = zero18 := ⟨_, rfl⟩
  have HCs := Lib.hid (show cs.length = 18 ∧ cs.toArray.all (·.oneCell') = true from by rw [hcs]; exact ⟨rfl, zero18_one⟩)
  rw [← hcs]
  clear hb HRg HC hz hcs
  have HY := Lib.hid (HB.out.below (below_scg u.heap.size (Nat.le_refl _) cs 0 (al1 u (.cells #[.int .i64 0, .int .i64 0, .bool false, .bool false, .bool false, .bool false, .bool false, .int .i64 0, .int .i64 0, .slice none 0 0, .slice none 0 0, .int .i64 0, .slice none 0 0, .slice none 0 0, .slice none 0 0, .int .i64 0, .int .i64 0, .slice none 0 0] 72))))
  go_upto_region 2 with (refine wpList_store_mid rfl 72 _ _ rfl u.heap.size 0 cs.toArray rfl rfl (by rw [show cs.toArray.size = 18 from by simpa using HCs.out.1]; exact there18 u 72) (by rw [show cs.toArray.size = 18 from by simpa using HCs.out.1]; kernel_rfl) HCs.out.2 ?_)
  generalize hX : World.setCells _ _ _ _ = X at *
  clear hX HB
  have HB := HY
  obtain ⟨zl, z0, z1, z2, zf⟩ := HB.out.2
  have f0 := zf 0
  have f1 := zf 1
  have f2 := zf 2
  clear zf
  go_wp2_with fail
  refine bodyPost_ret (v := .tuple #[.agg #[.slice none 0 0, .slice none 0 0, .int .i64 0], .int .i64 cd]) (by simp [results, Tryz.results26, go_sem, z0, z1, z2]) rfl ?_
  exact posZ_zero cd (HB.out.set3 _ _ _) (by simpa using zl)
theorem implSO_any (Jp Js Jc Jl : Int) (Jst Jsk Jre Jfe Jag : Bool) (Ja1 Ja2 : Option Addr) (Jan1 Jac1 Jan2 Jac2 : Nat) (Jap : Int) (Jm : Option Addr) (Jmn Jmc : Nat) (Jb1 Jb2 : Option Addr) (Jbn1 Jbc1 Jbn2 Jbc2 : Nat) (Jbp Jrg : Int) (sx sy ms nx ny : List Int) (w : World) (h : GamR w Ja1 Ja2 Jan1 Jan2 Jm Jmn Jb1 Jb2 Jbn1 Jbn2 sx sy ms nx ny) :
  Calls Tryz.prog 20 #[.agg #[.int .i64 Jp, .int .i64 Js, .bool Jst, .bool Jsk, .bool Jre, .bool Jfe, .bool Jag, .int .i64 Jc, .int .i64 Jl, .slice Ja1 Jan1 Jac1, .slice Ja2 Jan2 Jac2, .int .i64 Jap, .slice Jm Jmn Jmc, .slice Jb1 Jbn1 Jbc1, .slice Jb2 Jbn2 Jbc2, .int .i64 Jbp, .int .i64 Jrg]] w (RinE (scoS (finC Jp Js Jc Jl Jst Jsk Jre Jfe Jag Jan1 Jan2 Jap sx sy ms Jbp nx ny Jrg) Jp Jrg nx ny) (finC Jp Js Jc Jl Jst Jsk Jre Jfe Jag Jan1 Jan2 Jap sx sy ms Jbp nx ny Jrg) w) := by
 have HB := Lib.hid (gmb_new Jp Js Jc Jl Jst Jsk Jre Jfe Jag Ja1 Ja2 Jan1 Jac1 Jan2 Jac2 Jap Jm Jmn Jmc Jb1 Jb2 Jbn1 Jbc1 Jbn2 Jbc2 Jbp Jrg w 35)
 have HRg := Lib.hid (GmAt.range HB.out.1)
 have HC := Lib.hid (implFP_any Jp Js Jc Jl Jst Jsk Jre Jfe Jag Ja1 Ja2 Jan1 Jac1 Jan2 Jac2 Jap Jm Jmn Jmc Jb1 Jb2 Jbn1 Jbc1 Jbn2 Jbc2 Jbp Jrg sx sy ms nx ny _ (h.below HB.out.2))
 obtain ⟨cd, hcd⟩ : ∃ cd, finC Jp Js Jc Jl Jst Jsk Jre Jfe Jag Jan1 Jan2 Jap sx sy ms Jbp nx ny Jrg = cd := ⟨_, rfl⟩
 rw [hcd] at HC ⊢
 unfold scoS
 clear h hcd
 by_cases hz : cd = 0
 ·subst hz
  rw [FpP0] at HC
  rw [if_pos rfl]
  obtain ⟨S, hS⟩ : ∃ S, finS Jp Jrg nx (ny.getD 0 0) (ny.getD 1 0) = S := ⟨_, rfl⟩
  have hS2 : S.length = 2 := by rw [← hS, finS_len]
  rw [hS] at HC ⊢
  clear hS
  go_enter Tryz.func20, Tryz.ntmps20
  go_wp2_with (refine wpList_load_mid rfl 35 _ rfl w.heap.size 0 rfl _ _ HRg.out Tryz.underlying35 rfl (by kernel_rfl) ?_)
  refine HC.out.mono ?_
  rintro e u ⟨a1, c1, q1, a2, c2, q2, rfl, ho, l1, l2, k1, k2, hb⟩
  have HO := Lib.hid ho
  have HB1 := HB
  have HB := Lib.hid (HB.out.below hb)
  clear hb ho HRg HC
  go_wp2_with fail
  go_ret2
  exact ⟨a2, c2, q2, by rw [hS2]; rfl, ⟨(HO.out.o2.below (al1 _ _)).lower HB1.out.2.size, fun _ => by simp; omega, Nat.le_refl _⟩, OnW.of9 HB.out.2 (al1 _ _)⟩
 ·rw [FpPn hz] at HC
  rw [if_neg hz]
  clear hz
  go_enter Tryz.func20, Tryz.ntmps20
  go_wp2_with (refine wpList_load_mid rfl 35 _ rfl w.heap.size 0 rfl _ _ HRg.out Tryz.underlying35 rfl (by kernel_rfl) ?_)
  refine HC.out.mono ?_
  rintro e u ⟨a1, c1, q1, a2, c2, q2, rfl, ho, l1, l2, k1, k2, hb⟩
  have HO := Lib.hid ho
  have HB1 := HB
  have HB := Lib.hid (HB.out.below hb)
  clear hb ho HRg HC
  go_wp2_with fail
  go_ret2
  exact ⟨a2, c2, q2, rfl, ⟨(HO.out.o2.below (al1 _ _)).lower HB1.out.2.size, fun _ => by simp; omega, Nat.le_refl _⟩, OnW.of9 HB.out.2 (al1 _ _)⟩
theorem implWO_any (Jp Js Jc Jl : Int) (Jst Jsk Jre Jfe Jag : Bool) (Ja1 Ja2 : Option Addr) (Jan1 Jac1 Jan2 Jac2 : Nat) (Jap : Int) (Jm : Option Addr) (Jmn Jmc : Nat) (Jb1 Jb2 : Option Addr) (Jbn1 Jbc1 Jbn2 Jbc2 : Nat) (Jbp Jrg : Int) (sx sy ms nx ny : List Int) (w : World) (h : GamR w Ja1 Ja2 Jan1 Jan2 Jm Jmn Jb1 Jb2 Jbn1 Jbn2 sx sy ms nx ny) :
  Calls Tryz.prog 18 #[.agg #[.int .i64 Jp, .int .i64 Js, .bool Jst, .bool Jsk, .bool Jre, .bool Jfe, .bool Jag, .int .i64 Jc, .int .i64 Jl, .slice Ja1 Jan1 Jac1, .slice Ja2 Jan2 Jac2, .int .i64 Jap, .slice Jm Jmn Jmc, .slice Jb1 Jbn1 Jbc1, .slice Jb2 Jbn2 Jbc2, .int .i64 Jbp, .int .i64 Jrg]] w (BelP (WinO (finC Jp Js Jc Jl Jst Jsk Jre Jfe Jag Jan1 Jan2 Jap sx sy ms Jbp nx ny Jrg) Jp Jrg nx ny) w) := by
 have HB := Lib.hid (gmb_new Jp Js Jc Jl Jst Jsk Jre Jfe Jag Ja1 Ja2 Jan1 Jac1 Jan2 Jac2 Jap Jm Jmn Jmc Jb1 Jb2 Jbn1 Jbc1 Jbn2 Jbc2 Jbp Jrg w 35)
 have HRg := Lib.hid (GmAt.range HB.out.1)
 have HC := Lib.hid (replayE_any Jp Js Jc Jl Jst Jsk Jre Jfe Jag Ja1 Ja2 Jan1 Jac1 Jan2 Jac2 Jap Jm Jmn Jmc Jb1 Jb2 Jbn1 Jbc1 Jbn2 Jbc2 Jbp Jrg sx sy ms nx ny _ (h.below HB.out.2))
 obtain ⟨cd, hcd⟩ : ∃ cd, finC Jp Js Jc Jl Jst Jsk Jre Jfe Jag Jan1 Jan2 Jap sx sy ms Jbp nx ny Jrg = cd := ⟨_, rfl⟩
 rw [hcd] at HC ⊢
 unfold WinO winV
 by_cases hz : cd = 0
 ·subst hz
  obtain ⟨hn, hr, hb1, y0, y1, rfl⟩ := fin_all hcd h.s.l1 h.s.l2 h.n.l1 h.n.l2
  have Hr := Lib.hid hr
  have Hb1 := Lib.hid hb1
  have Hn := Lib.hid (And.intro hn h.n.l1)
  rw [if_pos rfl]
  clear h hcd hn hb1
  by_cases hrm : Jrg = -1
  ·rw [if_pos hrm]
   have Hrm := Lib.hid hrm
   obtain ⟨P, hP9, -, -, hn9, -, hs9⟩ := fin_nums (k := true) Hn.out.1
   obtain ⟨a, b, hab, hs8⟩ := fin_seed (P := P) (rg := Jrg) (nx := nx) (y0 := [y0, y1].getD 0 0) (y1 := [y0, y1].getD 1 0) Jbn1 (Hn.out.2.trans hn9) hs9
   rw [← hP9] at hab
   have Hab := Lib.hid hab
   have Hs8 := Lib.hid hs8
   rw [hab]
   show Calls _ _ _ _ (BelP (.tuple #[.int .i64 (if b < a then 0 else if a < b then 1 else -1), .int .i64 0]) w)
   rw [← win_maj Jbn1 a b]
   obtain ⟨wv, hwv⟩ : ∃ wv, majV (tot (List.replicate Jbn1 0) + (a + b)) a b = wv := ⟨_, rfl⟩
   rw [hwv]
   have Hwv := Lib.hid hwv
   clear hwv hab hs8 hs9 hn9 hP9 hrm hr
   go_enter Tryz.func18, Tryz.ntmps18
   go_wp2_with (refine wpList_load_mid rfl 35 _ rfl w.heap.size 0 rfl _ _ HRg.out Tryz.underlying35 rfl (by kernel_rfl) ?_)
   refine HC.out.mono ?_
   intro e u hq
   unfold RpF at hq
   rw [if_pos rfl] at hq
   obtain ⟨pb, b1, e1, b2, e2, va, vc, ta, tc, L, h1, d1, h2, d2, R, rfl, hP, hQ, -⟩ := hq
   have HP := Lib.hid hP
   have HB := Lib.hid (HB.out.below hP.be)
   obtain ⟨cs, hcs⟩ : ∃ cs, cs = vals18 Jp Js Jc Jl Jst Jsk Jre Jfe Jag Jan1 b1 e1 b2 e2 Jap (.slice va ms.length vc) (.slice ta L.length tc) h1 d1 h2 d2 Jbp Jrg := ⟨_, rfl⟩
   have HCs := Lib.hid (show cs.length = 18 ∧ cs.toArray.all (·.oneCell') = true from by rw [hcs]; exact ⟨rfl, vals18_one _ _ _ _ _ _ _ _ _ _ _ _ _ _ _ _ _ _ _ _ _ _ _ _ _ _ _⟩)
   rw [← hcs]
   have Hcs := Lib.hid hcs
   clear hcs hP HRg HC
   go_upto_region 2 with (refine wpList_store_mid rfl 72 _ _ rfl u.heap.size 0 cs.toArray rfl rfl (by rw [show cs.toArray.size = 18 from by simpa using HCs.out.1]; exact there18 u 72) (by rw [show cs.toArray.size = 18 from by simpa using HCs.out.1]; kernel_rfl) HCs.out.2 ?_)
   generalize hX : World.setCells _ _ _ _ = X
   have hM := HP.out.move 72 X (by rw [← Hcs.out]; exact hX.symm)
   have HM := Lib.hid hM.1
   have HY := Lib.hid (HB.out.below hM.2)
   have HF : Hid (∀ X', Below X.heap.size X X' → Calls Tryz.prog 66 #[.pointer (some ⟨u.heap.size, 0, none⟩)] X' (PosQ Jbn1 2 Jbp (List.replicate Jbn1 0) (finS Jp Jrg nx ([y0, y1].getD 0 0) ([y0, y1].getD 1 0)) X')) := Lib.hid (fun X' hX' => by
    have h9 := final_any _ _ _ _ _ _ _ _ _ X' (hM.1.below hX') hQ Hr.out.1 Hr.out.2
    rw [← Hb1.out] at h9
    exact h9)
   clear hX hM HP hQ HB
   generalize u.heap.size = M at *
   have HRM := Lib.hid (TGm.rg HM.out.g)
   go_wp2_with (refine wpList_load_mid rfl 35 _ rfl M 0 rfl _ _ HRM.out Tryz.underlying35 rfl (by kernel_rfl) ?_)
   refine (hasR_no _ _ _ _ _ _ _ _ _ _ _ _ _ _ _ _ _ _ _ _ _ _ _ _ _ _ _ _ Hrm.out).mono ?_
   rintro e u4 ⟨rfl, hb⟩
   have HM := Lib.hid (HM.out.below hb)
   have HY := Lib.hid (HY.out.below hb)
   have HF := Lib.hid (HF.out u4 hb)
   clear hb HRM
   go_wp2_with fail
   refine HF.out.mono ?_
   rintro e v ⟨q1, c1, q2, c2, rfl, ho, l1, l2, k1, k2, hb⟩
   rw [Hab.out] at ho
   have HO := Lib.hid ho
   have HY := Lib.hid (HY.out.below hb)
   clear hb ho
   go_wp2_with fail
   refine (majority_any _ _ Jbn1 c1 2 c2 Jbp (List.replicate Jbn1 0) a b v ⟨HO.out.o1.row, HO.out.o2.row, HO.out.l1, HO.out.l2⟩ Hs8.out).mono ?_
   rintro e v2 ⟨rfl, hb⟩
   rw [Hwv.out]
   have HY := Lib.hid (HY.out.below hb)
   clear hb
   go_wp2_with fail
   go_ret2
   exact ⟨rfl, HY.out.2⟩
  ·have Hrm := Lib.hid hrm
   have hw : IntKind.i64.wrap (1 - Jrg) = 1 - Jrg := IntWalk.i64_in _ ⟨by omega, by omega⟩
   rw [if_neg hrm]
   clear hrm hr Hn
   go_enter Tryz.func18, Tryz.ntmps18
   go_wp2_with (refine wpList_load_mid rfl 35 _ rfl w.heap.size 0 rfl _ _ HRg.out Tryz.underlying35 rfl (by kernel_rfl) ?_)
   refine HC.out.mono ?_
   intro e u hq
   unfold RpF at hq
   rw [if_pos rfl] at hq
   obtain ⟨pb, b1, e1, b2, e2, va, vc, ta, tc, L, h1, d1, h2, d2, R, rfl, hP, hQ, -⟩ := hq
   have HP := Lib.hid hP
   have HB := Lib.hid (HB.out.below hP.be)
   obtain ⟨cs, hcs⟩ : ∃ cs, cs = vals18 Jp Js Jc Jl Jst Jsk Jre Jfe Jag Jan1 b1 e1 b2 e2 Jap (.slice va ms.length vc) (.slice ta L.length tc) h1 d1 h2 d2 Jbp Jrg := ⟨_, rfl⟩
   have HCs := Lib.hid (show cs.length = 18 ∧ cs.toArray.all (·.oneCell') = true from by rw [hcs]; exact ⟨rfl, vals18_one _ _ _ _ _ _ _ _ _ _ _ _ _ _ _ _ _ _ _ _ _ _ _ _ _ _ _⟩)
   rw [← hcs]
   have Hcs := Lib.hid hcs
   clear hcs hP HRg HC
   go_upto_region 2 with (refine wpList_store_mid rfl 72 _ _ rfl u.heap.size 0 cs.toArray rfl rfl (by rw [show cs.toArray.size = 18 from by simpa using HCs.out.1]; exact there18 u 72) (by rw [show cs.toArray.size = 18 from by simpa using HCs.out.1]; kernel_rfl) HCs.out.2 ?_)
   generalize hX : World.setCells _ _ _ _ = X
   have hM := HP.out.move 72 X (by rw [← Hcs.out]; exact hX.symm)
   have HM := Lib.hid hM.1
   have HY := Lib.hid (HB.out.below hM.2)
   clear hX hM HP hQ HB
   generalize u.heap.size = M at *
   have HRM := Lib.hid (TGm.rg HM.out.g)
   go_wp2_with (refine wpList_load_mid rfl 35 _ rfl M 0 rfl _ _ HRM.out Tryz.underlying35 rfl (by kernel_rfl) ?_)
   refine (hasR_yes _ _ _ _ _ _ _ _ _ _ _ _ _ _ _ _ _ _ _ _ _ _ _ _ _ _ _ _ Hrm.out).mono ?_
   rintro e u4 ⟨rfl, hb⟩
   have HM := Lib.hid (HM.out.below hb)
   have HY := Lib.hid (HY.out.below hb)
   clear hb HRM
   have t16 := HM.out.g.c16
   have hpb := HM.out.g.lt
   go_wp2_with fail
   go_ret2
   exact ⟨rfl, HY.out.2⟩
 ·have dz : (cd != 0) = true := by simpa using hz
  rw [if_neg hz]
  clear h hcd
  go_enter Tryz.func18, Tryz.ntmps18
  go_wp2_with (refine wpList_load_mid rfl 35 _ rfl w.heap.size 0 rfl _ _ HRg.out Tryz.underlying35 rfl (by kernel_rfl) ?_)
  refine HC.out.mono ?_
  intro e u hq
  unfold RpF at hq
  rw [if_neg hz] at hq
  obtain ⟨rfl, hb⟩ := hq
  have HB := Lib.hid (HB.out.below hb)
  obtain ⟨cs, hcs⟩ : ∃ cs, cs = zero18 := ⟨_, rfl⟩
  have HCs := Lib.hid (show cs.length = 18 ∧ cs.toArray.all (·.oneCell') = true from by rw [hcs]; exact ⟨rfl, zero18_one⟩)
  rw [← hcs]
  clear hb HRg HC hz hcs
  have HY := Lib.hid (HB.out.below (below_scg u.heap.size (Nat.le_refl _) cs 0 (al1 u (.cells #[.int .i64 0, .int .i64 0, .bool false, .bool false, .bool false, .bool false, .bool false, .int .i64 0, .int .i64 0, .slice none 0 0, .slice none 0 0, .int .i64 0, .slice none 0 0, .slice none 0 0, .slice none 0 0, .int .i64 0, .int .i64 0, .slice none 0 0] 72))))
  go_upto_region 2 with (refine wpList_store_mid rfl 72 _ _ rfl u.heap.size 0 cs.toArray rfl rfl (by rw [show cs.toArray.size = 18 from by simpa using HCs.out.1]; exact there18 u 72) (by rw [show cs.toArray.size = 18 from by simpa using HCs.out.1]; kernel_rfl) HCs.out.2 ?_)
  generalize hX : World.setCells _ _ _ _ = X at *
  clear hX HB
  go_wp2_with fail
  go_ret2
  exact ⟨rfl, HY.out.2⟩
end Go.Proofs.YtgbaneildbdgdaaGreat
