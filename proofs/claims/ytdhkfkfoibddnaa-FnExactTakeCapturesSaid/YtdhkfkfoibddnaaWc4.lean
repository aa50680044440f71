/- Mk13, Rall7, Ri7, Lm7, LmS, Tk8, Rm9, WatC, Greedy, RinP, one after the other (what the laws reach of them). No conditions. -/
import Derived.Test.YtdhkfkfoibddnaaWc3
namespace Go.Proofs.Ytdhkfkfoibddnaa
open Go.Joins Go.ChangeShapes Go.WideShapes Go.ChangeAt Go.RowKit Go.Deep
set_option linter.unusedVariables false
set_option maxHeartbeats 8000000
set_option maxRecDepth 100000
/- Mk13 -/
def PosM (n1 n2 : Nat) (pl gn code : Int) (xs ys : List Int) (w : World) (e : Ending) (w' : World) : Prop :=
 ∃ a1 c1 b1 a2 c2 b2, e = .returned (.tuple #[.agg #[.slice a1 n1 c1, .slice a2 n2 c2, .int .i64 pl], .int .i64 gn, .int .i64 code]) ∧ PosO w' w.heap.size a1 a2 b1 b2 n1 n2 xs ys ∧ b1 < w'.heap.size ∧ b2 < w'.heap.size ∧ n1 ≤ c1 ∧ n2 ≤ c2 ∧ Below w.heap.size w w'
theorem posM_zero {w u : World} (cd : Int) (hb : Below w.heap.size w u) (h : w.heap.size + 1 < u.heap.size) : PosM 0 0 0 0 cd [] [] w (.returned (.tuple #[.agg #[.slice none 0 0, .slice none 0 0, .int .i64 0], .int .i64 0, .int .i64 cd])) u :=
 ⟨none, 0, w.heap.size, none, 0, w.heap.size + 1, rfl, posO_zero _ _, by omega, h, Nat.le_refl _, Nat.le_refl _, hb⟩
def MmV (c l p pp : Int) (ag : Bool) (pn1 : Nat) (ys : List Int) (LV : Option Res) (cd : Int) (w : World) (e : Ending) (w' : World) : Prop :=
 match LV with
 | none => PosM 0 0 0 0 cd [] [] w e w'
 | some m => PosM pn1 2 (nxV ag pp m) (gnV c l p pp ys m) 0 (tkX c l p pp m.last m.xs) (tkY c l p pp m.last m.xs m.ys) w e w'
theorem zeroP_at2 (p s c l : Int) (st sk re fe ag : Bool) (p1 p2 : Option Addr) (pn1 pc1 pn2 pc2 : Nat) (pp : Int) (w : World) (T U V : TypeId) : ZeroP (((w.alloc (.cells #[.int .i64 p, .int .i64 s, .bool st, .bool sk, .bool re, .bool fe, .bool ag, .int .i64 c, .int .i64 l] T)).alloc (.cells #[.slice p1 pn1 pc1, .slice p2 pn2 pc2, .int .i64 pp] U)).alloc (.cells #[.slice none 0 0, .slice none 0 0, .int .i64 0] V)) (w.heap.size + 1 + 1) := by
 have := zero_new ((w.alloc (.cells #[.int .i64 p, .int .i64 s, .bool st, .bool sk, .bool re, .bool fe, .bool ag, .int .i64 c, .int .i64 l] T)).alloc (.cells #[.slice p1 pn1 pc1, .slice p2 pn2 pc2, .int .i64 pp] U)) V
 simpa using this
theorem but3p (z : Nat) (u : World) (x y t : Value) : But z u (((u.setCell ⟨z, 0, none⟩ x).setCell ⟨z, 1, none⟩ y).setCell ⟨z, 2, none⟩ t) :=
 (((But.refl z u).setCell (p := ⟨z, 0, none⟩) rfl x).setCell (p := ⟨z, 1, none⟩) rfl y).setCell (p := ⟨z, 2, none⟩) rfl t
theorem range_but {u v : World} {b z : Nat} {cs : List Value} (h : u.rangeAt b 0 cs) (hb : b < u.heap.size) (k : But z u v) (hz : b ≠ z) : v.rangeAt b 0 cs := fun j x hj => (k.cell (o := 0 + j) hb hz).trans (h j x hj)
theorem implMake_any (p s c l : Int) (st sk re fe ag : Bool) (p1 p2 : Option Addr) (pn1 pc1 pn2 pc2 : Nat) (pp : Int) (xs ys : List Int) (move : Int) (w : World) (h : PosR w p1 p2 pn1 pn2 xs ys) (hcap : pn1 ≤ pc1) (k : Bool) (hk : okP (okR p s c l st ag) p pn1 pn2 pp xs ys = k) :
  Calls Try.prog 27 #[.agg #[.int .i64 p, .int .i64 s, .bool st, .bool sk, .bool re, .bool fe, .bool ag, .int .i64 c, .int .i64 l], .agg #[.slice p1 pn1 pc1, .slice p2 pn2 pc2, .int .i64 pp], .int .i64 move] w (MmV c l p pp ag pn1 ys (lgV c l p pp fe xs (mvV k p pp st sk re xs ys move)) (lgC c l p pp fe xs (mvCd k p pp st sk re xs ys move) (mvV k p pp st sk re xs ys move)) w) := by
 have HS := Lib.hid ((rp_new p s c l st sk re fe ag p1 p2 pn1 pc1 pn2 pc2 pp w 30 32).below (al1 _ (.cells #[.slice none 0 0, .slice none 0 0, .int .i64 0] 32)))
 have HZ := Lib.hid (zeroP_at2 p s c l st sk re fe ag p1 p2 pn1 pc1 pn2 pc2 pp w 30 32 32)
 have H0 := Lib.hid h
 have HC : Hid (∀ u, Below w.heap.size w u → Calls Try.prog 50 #[.agg #[.int .i64 p, .int .i64 s, .bool st, .bool sk, .bool re, .bool fe, .bool ag, .int .i64 c, .int .i64 l], .agg #[.slice p1 pn1 pc1, .slice p2 pn2 pc2, .int .i64 pp], .int .i64 move] u (MkQ p s c l st sk re fe ag pp pn1 p1 p2 pc1 pc2 (lgV c l p pp fe xs (mvV k p pp st sk re xs ys move)) (lgC c l p pp fe xs (mvCd k p pp st sk re xs ys move) (mvV k p pp st sk re xs ys move)) u)) := Lib.hid (fun u hu => makeL_any p s c l st sk re fe ag p1 p2 pn1 pc1 pn2 pc2 pp xs ys move u (h.below hu) hcap k hk)
 cases hl : lgV c l p pp fe xs (mvV k p pp st sk re xs ys move) with
 | none =>
  have d := lg_none (s := s) (ag := ag) hk h.l1 hl
  rw [hl] at HC
  have HC : Hid (∀ u, Below w.heap.size w u → Calls Try.prog 50 #[.agg #[.int .i64 p, .int .i64 s, .bool st, .bool sk, .bool re, .bool fe, .bool ag, .int .i64 c, .int .i64 l], .agg #[.slice p1 pn1 pc1, .slice p2 pn2 pc2, .int .i64 pp], .int .i64 move] u (MkD (lgC c l p pp fe xs (mvCd k p pp st sk re xs ys move) (mvV k p pp st sk re xs ys move)) u)) := Lib.hid (fun u hu => (HC.out u hu).mono (fun _ _ q => q.d))
  generalize lgC c l p pp fe xs (mvCd k p pp st sk re xs ys move) (mvV k p pp st sk re xs ys move) = cd at *
  have d2 : (cd != 0) = true := by simpa [bne] using d
  clear h hk hcap hl
  go_enter Try.func27, Try.ntmps27
  go_upto_region 1 with fail
  generalize ((w.alloc (.cells #[.int .i64 p, .int .i64 s, .bool st, .bool sk, .bool re, .bool fe, .bool ag, .int .i64 c, .int .i64 l] 30)).alloc (.cells #[.slice p1 pn1 pc1, .slice p2 pn2 pc2, .int .i64 pp] 32)).alloc (.cells #[.slice none 0 0, .slice none 0 0, .int .i64 0] 32) = u at *
  go_cut [10] (fun s10 wx => s10 = .int .i64 cd ∧ Below w.heap.size w wx ∧ ZeroP wx (w.heap.size + 1 + 1))
  case first =>
   obtain ⟨⟨_, r0, r1, r2, r3, r4, r5, r6, r7, r8⟩, ⟨_, g0, g1, g2⟩, -⟩ := HS.out
   go_wp2_with fail
   refine (HC.out _ HS.out.2.2).mono ?_
   rintro e w5 ⟨pz, sz, cz, lz, stz, skz, rez, fez, agz, playerz, s1z, s2z, sn1z, sc1z, sn2z, sc2z, spz, sqz, p1z, p2z, pn1z, pc1z, pn2z, pc2z, ppz, t1z, t2z, tn1z, tc1z, tn2z, tc2z, tpz, tqz, rfl, hb⟩
   have hzu := HZ.out.lt
   have hus := hb.size
   have HZ5 := Lib.hid (((HZ.out.below hb).below (al1 w5 (.cells zero21.toArray 75))).but (but_sc w5.heap.size [.int .i64 pz, .int .i64 sz, .bool stz, .bool skz, .bool rez, .bool fez, .bool agz, .int .i64 cz, .int .i64 lz, .int .i64 playerz, .slice s1z sn1z sc1z, .slice s2z sn2z sc2z, .int .i64 spz, .int .i64 sqz, .slice p1z pn1z pc1z, .slice p2z pn2z pc2z, .int .i64 ppz, .slice t1z tn1z tc1z, .slice t2z tn2z tc2z, .int .i64 tpz, .int .i64 tqz] 0 _) (by omega))
   have HS := Lib.hid (HS.out.below hb)
   clear hb r0 r1 r2 r3 r4 r5 r6 r7 r8 g0 g1 g2
   go_wp2_with (refine wpList_store_mid rfl 75 _ _ rfl w5.heap.size 0 (List.toArray [.int .i64 pz, .int .i64 sz, .bool stz, .bool skz, .bool rez, .bool fez, .bool agz, .int .i64 cz, .int .i64 lz, .int .i64 playerz, .slice s1z sn1z sc1z, .slice s2z sn2z sc2z, .int .i64 spz, .int .i64 sqz, .slice p1z pn1z pc1z, .slice p2z pn2z pc2z, .int .i64 ppz, .slice t1z tn1z tc1z, .slice t2z tn2z tc2z, .int .i64 tpz, .int .i64 tqz]) rfl rfl (thN_new w5 75).th (by kernel_rfl) (mm_one pz sz cz lz stz skz rez fez agz playerz s1z s2z sn1z sc1z sn2z sc2z spz sqz p1z p2z pn1z pc1z pn2z pc2z ppz t1z t2z tn1z tc1z tn2z tc2z tpz tqz) ?_)
   go_meet
   exact ⟨rfl, below_sc w5.heap.size HS.out.2.2.size _ 0 (HS.out.2.2.alloc HS.out.2.2.size _), HZ5.out⟩
  case rest =>
   obtain ⟨rfl, hb, hz⟩ := hcut
   have HB := Lib.hid (show OnW w wc from hb)
   obtain ⟨zl, z0, z1, z2, zf⟩ := hz
   have f0 := zf 0
   have f1 := zf 1
   have f2 := zf 2
   clear hb zf
   go_wp2_with fail
   refine bodyPost_ret (v := .tuple #[.agg #[.slice none 0 0, .slice none 0 0, .int .i64 0], .int .i64 0, .int .i64 cd]) (by simp [results, Try.results27, go_sem, z0, z1, z2]) rfl ?_
   exact posM_zero cd (OnW.set3 HB.out (by omega) _ _ _) (by simp; omega)
 | some m =>
  obtain ⟨hm, hc0⟩ := lg_some (cd := mvCd k p pp st sk re xs ys move) hl
  obtain ⟨rfl, m0, m1, -, fin⟩ := mvV_fin hk h.l1 h.l2 hm
  obtain ⟨rfl, hpl⟩ := pl_of_ok hk
  have HG := Lib.hid (good_fin (t := 0) p s c l st sk re fe ag hk fin)
  have Hk := Lib.hid hk
  have Hpl := Lib.hid hpl
  rw [hl, hc0] at HC
  rw [hc0]
  clear h hk hcap hl hm hc0 fin hpl
  go_enter Try.func27, Try.ntmps27
  go_upto_region 1 with fail
  generalize ((w.alloc (.cells #[.int .i64 p, .int .i64 s, .bool st, .bool sk, .bool re, .bool fe, .bool ag, .int .i64 c, .int .i64 l] 30)).alloc (.cells #[.slice p1 pn1 pc1, .slice p2 2 pc2, .int .i64 pp] 32)).alloc (.cells #[.slice none 0 0, .slice none 0 0, .int .i64 0] 32) = u at *
  go_cut [9, 10] (fun s9 s10 wx => ∃ (s1 s2 : Option Addr) (sc1 sc2 M g1 k1 g2 k2 : Nat), s9 = .pointer (some ⟨M, 0, none⟩) ∧ s10 = .int .i64 0 ∧ MkF w w p s c l st sk re fe ag pp s1 s2 pn1 sc1 sc2 p1 p2 pc1 pc2 m M g1 k1 g2 k2 wx ∧ ZeroP wx (w.heap.size + 1 + 1) ∧ w.heap.size + 1 + 1 < M ∧ w.heap.size + 1 + 1 < g1 ∧ w.heap.size + 1 + 1 < g2)
  case first =>
   obtain ⟨⟨_, r0, r1, r2, r3, r4, r5, r6, r7, r8⟩, ⟨_, y0, y1, y2⟩, -⟩ := HS.out
   go_wp2_with fail
   refine (HC.out _ HS.out.2.2).mono ?_
   rintro e w5 ⟨s1, s2, sc1, sc2, g1, k1, g2, k2, rfl, ho, hl1, hl2, hc1, hc2, hb⟩
   have HF := Lib.hid (mkF_new p s c l st sk re fe ag (s1 := s1) (s2 := s2) (sc1 := sc1) (sc2 := sc2) (p1 := p1) (p2 := p2) (pc1 := pc1) (pc2 := pc2) 75 (Below.trans HS.out.2.2 (Below.mono hb HS.out.2.2.size)) (ho.lower HS.out.2.2.size) hl1 hl2 hc1 hc2)
   have hzu := HZ.out.lt
   have hn1 := ho.o1.new
   have hn2 := ho.o2.new
   have hus := hb.size
   have HZ5 := Lib.hid (((HZ.out.below hb).below (al1 w5 (.cells zero21.toArray 75))).but (but_sc w5.heap.size [.int .i64 p, .int .i64 s, .bool st, .bool sk, .bool re, .bool fe, .bool ag, .int .i64 c, .int .i64 l, .int .i64 pp, .slice s1 pn1 sc1, .slice s2 2 sc2, .int .i64 m.last, .int .i64 m.laps, .slice p1 pn1 pc1, .slice p2 2 pc2, .int .i64 pp, .slice (some ⟨g1, 0, none⟩) pn1 k1, .slice (some ⟨g2, 0, none⟩) 2 k2, .int .i64 m.last, .int .i64 m.laps] 0 _) (by omega))
   clear hb ho hl1 hl2 hc1 hc2 r0 r1 r2 r3 r4 r5 r6 r7 r8 y0 y1 y2
   go_wp2_with (refine wpList_store_mid rfl 75 _ _ rfl w5.heap.size 0 (List.toArray [.int .i64 p, .int .i64 s, .bool st, .bool sk, .bool re, .bool fe, .bool ag, .int .i64 c, .int .i64 l, .int .i64 pp, .slice s1 pn1 sc1, .slice s2 2 sc2, .int .i64 m.last, .int .i64 m.laps, .slice p1 pn1 pc1, .slice p2 2 pc2, .int .i64 pp, .slice (some ⟨g1, 0, none⟩) pn1 k1, .slice (some ⟨g2, 0, none⟩) 2 k2, .int .i64 m.last, .int .i64 m.laps]) rfl rfl (thN_new w5 75).th (by kernel_rfl) (mm_one p s c l st sk re fe ag pp s1 s2 pn1 sc1 2 sc2 m.last m.laps p1 p2 pn1 pc1 2 pc2 pp (some ⟨g1, 0, none⟩) (some ⟨g2, 0, none⟩) pn1 k1 2 k2 m.last m.laps) ?_)
   go_meet
   exact ⟨s1, s2, sc1, sc2, w5.heap.size, g1, k1, g2, k2, rfl, rfl, HF.out, HZ5.out, by omega, by omega, by omega⟩
  case rest =>
   obtain ⟨s1, s2, sc1, sc2, M, g1, k1, g2, k2, rfl, rfl, hF, hZ, hM0, hM1, hM2⟩ := hcut
   have HF := Lib.hid hF
   have HZ2 := Lib.hid hZ
   clear hF hZ HZ
   go_upto_region 4 with fail
   have HF := Lib.hid (HF.out.below (Below.refl _ _).drew)
   have HZ2 := Lib.hid (HZ2.out.below (Below.refl _ _).drew)
   have hyb := (HG.out.1.tk HG.out.2.1 HG.out.2.2)
   have hv0 := posB_getD hyb.2.1 pp.toNat
   have hv1 := getD_le hyb.2.1 pp.toNat
   have hv2 := posB_tot hyb.1
   have hy0 := posB_getD (seedB_parts (okP_parts Hk.out).2.2.2.2).2.1 pp.toNat
   have hy1 := getD_le (seedB_parts (okP_parts Hk.out).2.2.2.2).2.1 pp.toNat
   have hy2 := posB_tot (seedB_parts (okP_parts Hk.out).2.2.2.2).1
   have hy3 := (seedB_parts (okP_parts Hk.out).2.2.2.2).2.2
   have hx3 := HG.out.1.q3
   have HY := Lib.hid (show (0 ≤ (tkY c l p pp m.last m.xs m.ys).getD pp.toNat 0 ∧ (tkY c l p pp m.last m.xs m.ys).getD pp.toNat 0 ≤ 1000000) ∧ 0 ≤ ys.getD pp.toNat 0 ∧ ys.getD pp.toNat 0 ≤ 1000000 from ⟨⟨by omega, by omega⟩, by omega, by omega⟩)
   clear hyb hv0 hv1 hv2 hy0 hy1 hy2 hy3 hx3
   obtain ⟨nx, hnx⟩ : ∃ x, nxV ag pp m = x := ⟨_, rfl⟩
   obtain ⟨gn, hgn⟩ : ∃ x, gnV c l p pp ys m = x := ⟨_, rfl⟩
   have HNx := Lib.hid hnx
   have HGn := Lib.hid hgn
   clear hnx hgn
   refine wp_region_held_drew (S := fun u => u.rangeAt M 0 [.int .i64 p, .int .i64 s, .bool st, .bool sk, .bool re, .bool fe, .bool ag, .int .i64 c, .int .i64 l, .int .i64 pp, .slice s1 pn1 sc1, .slice s2 2 sc2, .int .i64 m.last, .int .i64 m.laps, .slice p1 pn1 pc1, .slice p2 2 pc2, .int .i64 pp, .slice (some ⟨g1, 0, none⟩) pn1 k1, .slice (some ⟨g2, 0, none⟩) 2 k2, .int .i64 m.last, .int .i64 m.laps]) (by kernel_rfl) HF.out.rg (fun hHeld => ?_)
   refine wpAnyH_take (i := 0) rfl (by kernel_rfl) (by kernel_rfl) (by kernel_rfl) (fun _ _ _ h => h) (yieldsIf_load_mid (by rfl) 75 _ rfl M 0 rfl [.int .i64 p, .int .i64 s, .bool st, .bool sk, .bool re, .bool fe, .bool ag, .int .i64 c, .int .i64 l, .int .i64 pp, .slice s1 pn1 sc1, .slice s2 2 sc2, .int .i64 m.last, .int .i64 m.laps, .slice p1 pn1 pc1, .slice p2 2 pc2, .int .i64 pp, .slice (some ⟨g1, 0, none⟩) pn1 k1, .slice (some ⟨g2, 0, none⟩) 2 k2, .int .i64 m.last, .int .i64 m.laps] _ (fun u hu => hu) Try.underlying75 rfl (by kernel_rfl)) hHeld ?_
   simp only [Act.put, List.setIfInBounds_toArray]
   refine wpAnyH_take (i := 2) rfl (by kernel_rfl) (by kernel_rfl) (by kernel_rfl) (fun _ _ _ h => h) (yieldsIf_load_mid (by rfl) 75 _ rfl M 0 rfl [.int .i64 p, .int .i64 s, .bool st, .bool sk, .bool re, .bool fe, .bool ag, .int .i64 c, .int .i64 l, .int .i64 pp, .slice s1 pn1 sc1, .slice s2 2 sc2, .int .i64 m.last, .int .i64 m.laps, .slice p1 pn1 pc1, .slice p2 2 pc2, .int .i64 pp, .slice (some ⟨g1, 0, none⟩) pn1 k1, .slice (some ⟨g2, 0, none⟩) 2 k2, .int .i64 m.last, .int .i64 m.laps] _ (fun u hu => hu) Try.underlying75 rfl (by kernel_rfl)) hHeld ?_
   simp only [Act.put]
   refine wpAnyH_ready (rs := [1]) (by kernel_rfl) (by simp) ?_
   refine AllReadyH.cons rfl (fun K hK => ?_) AllReadyH.nil
   rw [if_pos (by rfl)]
   go_simp
   go_at_call 51
   refine ((nextM_any p s c l st sk re fe ag pp s1 s2 pn1 sc1 2 sc2 m.last m.laps p1 p2 pn1 pc1 2 pc2 pp (some ⟨g1, 0, none⟩) (some ⟨g2, 0, none⟩) pn1 k1 2 k2 m.last m.laps _ Hpl.out).mono (fun e w' h => (show e = .returned (.agg #[.slice (some ⟨g1, 0, none⟩) pn1 k1, .slice (some ⟨g2, 0, none⟩) 2 k2, .int .i64 (nxV ag pp m)]) ∧ _ from h))).mono ?_
   rw [HNx.out]
   rintro e w6 ⟨rfl, hb6⟩
   have HF := Lib.hid (HF.out.below hb6)
   have HZ2 := Lib.hid (HZ2.out.below hb6)
   clear hb6
   dsimp only
   refine hK.out _ _ (HF.out.rg) (fun hHeld => ?_)
   clear hK K
   (try simp only [Act.put, List.setIfInBounds_toArray, List.set_cons_zero, List.set_cons_succ])
   refine wpAnyH_ready (rs := [3]) (by kernel_rfl) (by simp) ?_
   refine AllReadyH.cons rfl (fun K hK => ?_) AllReadyH.nil
   rw [if_pos (by rfl)]
   go_simp
   go_at_call 52
   refine ((gain_any p s c l st sk re fe ag pp s1 s2 pn1 sc1 2 sc2 m.last m.laps p1 p2 pn1 pc1 2 pc2 pp (some ⟨g1, 0, none⟩) (some ⟨g2, 0, none⟩) pn1 k1 2 k2 m.last m.laps (tkY c l p pp m.last m.xs m.ys) ys _ Hpl.out HF.out.ho.o2.row (H0.out.below HF.out.be).r2 (tkY_len.trans HG.out.2.2) H0.out.l2 rfl rfl HY.out.1 HY.out.2).mono (fun e w' h => (show e = .returned (.int .i64 (gnV c l p pp ys m)) ∧ _ from h))).mono ?_
   rw [HGn.out]
   rintro e w7 ⟨rfl, hb7⟩
   have HF := Lib.hid (HF.out.below hb7)
   have HZ2 := Lib.hid (HZ2.out.below hb7)
   clear hb7
   dsimp only
   refine hK.out _ _ (HF.out.rg) (fun hHeld => ?_)
   clear hK K
   (try simp only [Act.put, List.setIfInBounds_toArray, List.set_cons_zero, List.set_cons_succ])
   obtain ⟨zl, z0, z1, z2, zf⟩ := HZ2.out
   have f0 := zf 0
   have f1 := zf 1
   have f2 := zf 2
   clear zf
   refine wpAnyH_ready (rs := [4]) (by kernel_rfl) (by simp) ?_
   refine AllReadyH.cons rfl (fun K hK => ?_) AllReadyH.nil
   rw [if_pos (by rfl)]
   go_simp
   have HRg := Lib.hid (range_but HF.out.rg HF.out.lt (but3p (w.heap.size + 1 + 1) w7 (.slice (some ⟨g1, 0, none⟩) pn1 k1) (.slice (some ⟨g2, 0, none⟩) 2 k2) (.int .i64 nx)) (by omega))
   refine hK.out _ _ (HRg.out) (fun hHeld => ?_)
   clear hK K
   (try simp only [Act.put, List.setIfInBounds_toArray, List.set_cons_zero, List.set_cons_succ])
   refine wpAnyH_ready (rs := [5]) (by kernel_rfl) (by simp) ?_
   refine AllReadyH.cons rfl (fun K hK => ?_) AllReadyH.nil
   rw [if_pos (by rfl)]
   go_simp
   refine hK.out _ _ (HRg.out) (fun hHeld => ?_)
   clear hK K
   (try simp only [Act.put, List.setIfInBounds_toArray, List.set_cons_zero, List.set_cons_succ])
   refine wpAnyH_ready (rs := [6]) (by kernel_rfl) (by simp) ?_
   refine AllReadyH.cons rfl (fun K hK => ?_) AllReadyH.nil
   rw [if_pos (by rfl)]
   go_simp
   refine hK.out _ _ (HRg.out) (fun hHeld => ?_)
   clear hK K
   (try simp only [Act.put, List.setIfInBounds_toArray, List.set_cons_zero, List.set_cons_succ])
   refine wpAnyH_done (by kernel_rfl) ?_ _
   go_wp2_with fail
   refine bodyPost_ret (v := .tuple #[.agg #[.slice (some ⟨g1, 0, none⟩) pn1 k1, .slice (some ⟨g2, 0, none⟩) 2 k2, .int .i64 nx], .int .i64 gn, .int .i64 0]) (by simp [results, Try.results27, go_sem, z0, z1, z2]) rfl ?_
   show PosM pn1 2 (nxV ag pp m) (gnV c l p pp ys m) 0 _ _ w _ _
   rw [HNx.out, HGn.out]
   have hbt := but3p (w.heap.size + 1 + 1) w7 (.slice (some ⟨g1, 0, none⟩) pn1 k1) (.slice (some ⟨g2, 0, none⟩) 2 k2) (.int .i64 nx)
   exact ⟨_, _, g1, _, _, g2, rfl, PosO.but HF.out.ho hbt (by omega) (by omega), by have := HF.out.l1; simpa using this, by have := HF.out.l2; simpa using this, HF.out.h1, HF.out.h2, But.lift HF.out.be hbt (by omega)⟩
/- Rall7 -/
structure AlJ (w : World) (rb pb : Nat) (p s c l : Int) (st sk re fe ag : Bool) (p1 p2 : Option Addr) (pn1 pc1 pn2 pc2 : Nat) (pp : Int) (xs ys : List Int) (k : Nat) (v : Value) (wr : World) : Prop where
 ex : ∃ L, Rs7 wr w.heap.size v L ∧ L.map Prod.fst = rsF (f7 p c l pp st sk re fe ag xs ys) k
 ru : RuAt wr rb p s c l st sk re fe ag
 po : PoAt wr pb p1 p2 pn1 pc1 pn2 pc2 pp
 ps : PosR wr p1 p2 pn1 pn2 xs ys
 be : Below w.heap.size w wr
theorem alJ_mk {w wr : World} {rb pb : Nat} {p s c l : Int} {st sk re fe ag : Bool} {p1 p2 : Option Addr} {pn1 pc1 pn2 pc2 : Nat} {pp : Int} {xs ys : List Int} {k : Nat} {v : Value} (h : RuAt w rb p s c l st sk re fe ag ∧ PoAt w pb p1 p2 pn1 pc1 pn2 pc2 pp ∧ PosR w p1 p2 pn1 pn2 xs ys) (hx : ∃ L, Rs7 wr w.heap.size v L ∧ L.map Prod.fst = rsF (f7 p c l pp st sk re fe ag xs ys) k) (hb : Below w.heap.size w wr) : AlJ w rb pb p s c l st sk re fe ag p1 p2 pn1 pc1 pn2 pc2 pp xs ys k v wr :=
 ⟨hx, h.1.below hb, h.2.1.below hb, h.2.2.below hb, hb⟩
theorem cells7_news (u : World) (T : TypeId) (x : R7 × Q7) (H : Nat) (hH : u.heap.size = H) : ∀ j v, (cells7 x)[j]? = some v → (u.alloc (.cells #[.int .i64 x.1.mv, .int .i64 x.1.gn, .bool x.1.ag, .slice (some ⟨x.2.g1, 0, none⟩) x.2.n1 x.2.k1, .slice (some ⟨x.2.g2, 0, none⟩) 2 x.2.k2, .int .i64 x.1.nx] T)).cell? ((⟨H, 0, none⟩ : Addr).add j) = some v := by
 subst hH
 intro j v hj
 have e : ((⟨u.heap.size, 0, none⟩ : Addr).add j) = ⟨u.heap.size, 0 + j, none⟩ := by
  by_cases h : j = 0 <;> simp [Addr.add, h]
 rw [e, Nat.zero_add]
 match j, hj with
 | 0, hj => cases hj; go_simp
 | 1, hj => cases hj; go_simp
 | 2, hj => cases hj; go_simp
 | 3, hj => cases hj; go_simp
 | 4, hj => cases hj; go_simp
 | 5, hj => cases hj; go_simp
 | n + 6, hj => cases hj
theorem l07All_any (p s c l : Int) (st sk re fe ag : Bool) (p1 p2 : Option Addr) (pn1 pc1 pn2 pc2 : Nat) (pp : Int) (xs ys : List Int) (rb pb : Nat) (w : World) (hr : RuAt w rb p s c l st sk re fe ag) (hq : PoAt w pb p1 p2 pn1 pc1 pn2 pc2 pp) (h : PosR w p1 p2 pn1 pn2 xs ys) (hk : okP (okR p s c l st ag) p pn1 pn2 pp xs ys = true) :
  Calls Try.prog 46 #[.pointer (some ⟨rb, 0, none⟩), .pointer (some ⟨pb, 0, none⟩)] w (RsP (rsF (f7 p c l pp st sk re fe ag xs ys) p.toNat) w) := by
 obtain ⟨q1, -⟩ := okP_parts hk
 obtain ⟨r1, r2, -⟩ := okR_bd q1
 obtain ⟨P, rfl⟩ : ∃ P : Nat, p = (P : Int) := ⟨p.toNat, by omega⟩
 rw [Int.toNat_natCast]
 have hP8 : P ≤ 8 := by omega
 obtain ⟨i0, hi, hz0, hz1, hz2⟩ := info_parts infoR
 have Hk := Lib.hid hk
 have HJ0 : Hid (AlJ w rb pb (P : Int) s c l st sk re fe ag p1 p2 pn1 pc1 pn2 pc2 pp xs ys 0 (.slice (some ⟨w.heap.size, 0, none⟩) 0 0) (w.alloc (.cells #[] 66))) := Lib.hid
  ⟨⟨[], ⟨World.ownsRow_made w #[] 0 (Nat.le_refl _) (by decide) rfl, (fun _ h => by cases h), (fun _ h => by cases h), List.Pairwise.nil⟩, rfl⟩, hr.below (al1 _ _), hq.below (al1 _ _), h.below (al1 _ _), al1 _ _⟩
 have HR0 := Lib.hid (And.intro hr (And.intro hq h))
 clear q1 hk hr hq h
 go_enter Try.func46, Try.ntmps46
 go_wp2_with fail
 generalize w.alloc (.cells #[] 66) = w1 at *
 go_loopw [5, 6] (fun v i wr => ∃ k : Nat, i = .int .i64 k ∧ k ≤ P ∧ AlJ w rb pb (P : Int) s c l st sk re fe ag p1 p2 pn1 pc1 pn2 pc2 pp xs ys k v wr) (fun _ i _ => P - (intOf i).toNat)
 case atStart => exact ⟨0, rfl, Nat.zero_le _, HJ0.out⟩
 case round =>
  obtain ⟨k, rfl, hkP, hJ⟩ := hrel
  have HJ := Lib.hid hJ
  obtain ⟨_, g0, -, -, -, -, -, -, -, -⟩ := hJ.ru
  clear hJ HJ0
  by_cases hlt : k < P
  ·have HM := Lib.hid (l07Make_any (P : Int) s c l st sk re fe ag p1 p2 pn1 pc1 pn2 pc2 pp xs ys rb pb (k : Int) wr HJ.out.ru HJ.out.po HJ.out.ps true Hk.out)
   have hf : f7 (P : Int) c l pp st sk re fe ag xs ys k = (lgV c l (P : Int) pp fe xs (mvV true (P : Int) pp st sk re xs ys (k : Int))).map (r7V c l (P : Int) pp ag ys (k : Int)) := rfl
   have HF := Lib.hid hf
   cases hl : lgV c l (P : Int) pp fe xs (mvV true (P : Int) pp st sk re xs ys (k : Int)) with
   | none =>
    have d := lg_none (s := s) (ag := ag) Hk.out HJ.out.ps.l1 hl
    rw [hl] at HM HF
    generalize lgC c l (P : Int) pp fe xs (mvCd true (P : Int) pp st sk re xs ys (k : Int)) (mvV true (P : Int) pp st sk re xs ys (k : Int)) = cd at *
    have HN : Hid (rsF (f7 (P : Int) c l pp st sk re fe ag xs ys) (k + 1) = rsF (f7 (P : Int) c l pp st sk re fe ag xs ys) k) := Lib.hid (by show _ ++ _ = _; rw [HF.out]; simp)
    clear hf hl HF
    go_wp2_with fail
    refine HM.out.mono ?_
    rintro e w5 ⟨rfl, hb⟩
    have HJ : Hid (AlJ w rb pb (P : Int) s c l st sk re fe ag p1 p2 pn1 pc1 pn2 pc2 pp xs ys (k + 1) u5 (w5.alloc (.cells #[.int .i64 0, .int .i64 0, .bool false, .slice none 0 0, .slice none 0 0, .int .i64 0] 66))) := Lib.hid (by
     obtain ⟨⟨L, hL, hm⟩, h1, h2, h3, h4⟩ := HJ.out
     have hb2 : Below wr.heap.size wr (w5.alloc (.cells #[.int .i64 0, .int .i64 0, .bool false, .slice none 0 0, .slice none 0 0, .int .i64 0] 66)) := Below.alloc hb hb.size _
     exact ⟨⟨L, hL.below hb2, by rw [HN.out]; exact hm⟩, h1.below hb2, h2.below hb2, h3.below hb2, Below.trans h4 (Below.mono hb2 h4.size)⟩)
    clear hb g0
    go_wp2_with fail
    go_roundw
    case rel => exact ⟨k + 1, by go_num, by omega, HJ.out⟩
    case measure => simp [intOf]; omega
   | some m =>
    obtain ⟨hm, hc0⟩ := lg_some (cd := mvCd true (P : Int) pp st sk re xs ys (k : Int)) hl
    rw [hl, hc0] at HM
    rw [hl] at HF
    have HN : Hid (rsF (f7 (P : Int) c l pp st sk re fe ag xs ys) (k + 1) = rsF (f7 (P : Int) c l pp st sk re fe ag xs ys) k ++ [r7V c l (P : Int) pp ag ys (k : Int) m]) := Lib.hid (by show _ ++ _ = _; rw [HF.out]; rfl)
    clear hf hl HF hm hc0
    go_wp2_with fail
    refine HM.out.mono ?_
    rintro e w5 ⟨g1, k1, g2, k2, rfl, ho, hl1, hl2, hc1, hc2, hb⟩
    obtain ⟨L, hL, hLm⟩ := HJ.out.ex
    have hIt : It7 w5 w.heap.size (r7V c l (P : Int) pp ag ys (k : Int) m, ⟨g1, g2, pn1, k1, k2⟩) := ⟨ho.lower HJ.out.be.size, hl1, hl2, hc1, hc2⟩
    have HI := Lib.hid hIt
    have hg1 := ho.o1.new
    have hg2 := ho.o2.new
    have HL := Lib.hid (hL.below hb)
    have HL0 := Lib.hid hL
    have HLm := Lib.hid hLm
    have hLk : L.length ≤ k := by
     have h1 := rsF_len (f7 (P : Int) c l pp st sk re fe ag xs ys) k
     rw [← hLm, List.length_map] at h1
     exact h1
    have HB5 := Lib.hid (Below.trans HJ.out.be (Below.mono hb HJ.out.be.size))
    have HR5 := Lib.hid (And.intro (HJ.out.ru.below hb) (And.intro (HJ.out.po.below hb) (HJ.out.ps.below hb)))
    have hwr : w.heap.size ≤ w5.heap.size := HB5.out.size
    clear hIt ho hL hLm hb g0 hl1 hl2 hc1 hc2
    go_wp2_with (at_builtin; refine wpList_append_lies _ rfl _ _ 63 rfl w.heap.size 66 i0 (.agg #[.int .i64 0, .int .i64 0, .bool false, .slice none 0 0, .slice none 0 0, .int .i64 0]) 6 80 Try.underlying63 hi hz0 hz1 hz2 rfl (by decide) u5 L.length (flat7 L) rfl (own_keepS HL.out.own (Below.alloc (al1 _ _) (by simp) _)) ⟨w5.heap.size + 1, 0, none⟩ 1 1 (cells7 (r7V c l (P : Int) pp ag ys (k : Int) m, ⟨g1, g2, pn1, k1, k2⟩)) rfl rfl (cells7_news (w5.alloc _) 66 (r7V c l (P : Int) pp ag ys (k : Int) m, ⟨g1, g2, pn1, k1, k2⟩) (w5.heap.size + 1) (by simp)) (cells7_one _) (by decide) (by unfold maxLen; omega) (by omega) (by simp; omega) _ rfl ?_; intro g cap w6 hown hgrow hat hlt6)
    have hbA : Below w5.heap.size w5 ((w5.alloc (.cells #[.int .i64 (k : Int), .int .i64 (gnV c l (P : Int) pp ys m), .bool (agV ag m), .slice (some ⟨g1, 0, none⟩) pn1 k1, .slice (some ⟨g2, 0, none⟩) 2 k2, .int .i64 (nxV ag pp m)] 66)).alloc (.cells #[.int .i64 (k : Int), .int .i64 (gnV c l (P : Int) pp ys m), .bool (agV ag m), .slice (some ⟨g1, 0, none⟩) pn1 k1, .slice (some ⟨g2, 0, none⟩) 2 k2, .int .i64 (nxV ag pp m)] 66)) := Below.alloc (al1 _ _) (by simp) _
    have hR6 := Rs7.snoc (H0 := wr.heap.size) HL.out HI.out (fun y hy => ⟨(HL0.out.it y hy).l1, (HL0.out.it y hy).l2⟩) (fun q hq => (own_lt HL0.out.own q hq).2) hg1 hg2 hbA hown hgrow (by simpa using hat)
    have HJ : Hid (AlJ w rb pb (P : Int) s c l st sk re fe ag p1 p2 pn1 pc1 pn2 pc2 pp xs ys (k + 1) (.slice (some ⟨g, 0, none⟩) (L.length + 1) cap) w6) := Lib.hid (alJ_mk HR0.out ⟨L ++ [(r7V c l (P : Int) pp ag ys (k : Int) m, ⟨g1, g2, pn1, k1, k2⟩)], hR6, by rw [List.map_append, HLm.out, HN.out]; rfl⟩ ((Below.trans HB5.out (Below.mono hbA hwr)).grown hgrow (by simp; omega) (fun q hq => (own_lt HL0.out.own q hq).1)))
    clear hown hgrow hat hlt6 hbA hR6 HL HL0 HI HM
    go_wp2_with fail
    go_roundw
    case rel => exact ⟨k + 1, by go_num, by omega, HJ.out⟩
    case measure => simp [intOf]; omega
  ·obtain rfl : k = P := by omega
   go_wp2_with fail
   go_ret
   obtain ⟨L, hL, hm⟩ := HJ.out.ex
   exact ⟨_, L, rfl, hL, hm, HJ.out.be⟩
/- Ri7 -/
structure AiJ (w : World) (p s c l : Int) (st sk re fe ag : Bool) (p1 p2 : Option Addr) (pn1 pc1 pn2 pc2 : Nat) (pp : Int) (xs ys : List Int) (k : Nat) (v : Value) (wr : World) : Prop where
 ex : ∃ L, Rs7 wr (w.heap.size + 2) v L ∧ L.map Prod.fst = rsF (f7 p c l pp st sk re fe ag xs ys) k
 rp : RpAt w p s c l st sk re fe ag p1 p2 pn1 pc1 pn2 pc2 pp wr
def RsC (rs : List R7) (w : World) (e : Ending) (w' : World) : Prop := ∃ v L, e = .returned (.tuple #[v, .int .i64 0]) ∧ Rs7 w' w.heap.size v L ∧ L.map Prod.fst = rs ∧ Below w.heap.size w w'
theorem mkF_w {w w2 U W : World} {p s c l : Int} {st sk re fe ag : Bool} {pp : Int} {s1 s2 : Option Addr} {pn1 sc1 sc2 : Nat} {p1 p2 : Option Addr} {pc1 pc2 : Nat} {m : Res} {M g1 k1 g2 k2 : Nat} (h : MkF w U p s c l st sk re fe ag pp s1 s2 pn1 sc1 sc2 p1 p2 pc1 pc2 m M g1 k1 g2 k2 W) : MkF w2 U p s c l st sk re fe ag pp s1 s2 pn1 sc1 sc2 p1 p2 pc1 pc2 m M g1 k1 g2 k2 W :=
 ⟨h.rg, h.lt, h.ge, h.be, h.ho, h.l1, h.l2, h.h1, h.h2⟩
theorem RpAt.grown {w u v : World} {p s c l : Int} {st sk re fe ag : Bool} {p1 p2 : Option Addr} {pn1 pc1 pn2 pc2 : Nat} {pp : Int} {row : Option Nat} (h : RpAt w p s c l st sk re fe ag p1 p2 pn1 pc1 pn2 pc2 pp u) (hg : u.grownBy v row) (hr : ∀ k, row = some k → w.heap.size + 2 ≤ k) : RpAt w p s c l st sk re fe ag p1 p2 pn1 pc1 pn2 pc2 pp v := by
 obtain ⟨b, hb, hk⟩ : ∃ b, w.heap.size + 2 ≤ b ∧ But b u v := by
  cases row with
  | none => exact ⟨w.heap.size + 2, Nat.le_refl _, but_grown hg (fun k h => by cases h)⟩
  | some b => exact ⟨b, hr b rfl, but_grown hg (fun k h => by cases h; rfl)⟩
 exact ⟨h.1.but hk (by omega), h.2.1.but hk (by omega), But.lift h.2.2 hk (by omega)⟩
theorem range_grown {u v : World} {M : Nat} {cs : List Value} {row : Option Nat} (h : u.rangeAt M 0 cs) (hM : M < u.heap.size) (hg : u.grownBy v row) (hr : ∀ k, row = some k → k ≠ M) : v.rangeAt M 0 cs :=
 fun j x hj => (World.cell?_of_block (a := ⟨M, 0 + j, none⟩) (hg.block M hM (fun e => hr _ e.symm rfl))).trans (h j x hj)
theorem Rs7.lower {u : World} {B C : Nat} {x : Value} {L : List (R7 × Q7)} (h : Rs7 u B x L) (hc : C ≤ B) : Rs7 u C x L := by
 refine ⟨?_, fun y hy => ⟨(h.it y hy).o.lower hc, (h.it y hy).l1, (h.it y hy).l2, (h.it y hy).k1, (h.it y hy).k2⟩, h.ne, h.pw⟩
 obtain ⟨h1, h2 | ⟨g, cap, cur, hv, hb, hr⟩⟩ := h.own
 ·exact ⟨h1, .inl h2⟩
 ·exact ⟨h1, .inr ⟨g, cap, cur, hv, Nat.le_trans hc hb, hr⟩⟩
theorem implRes_no (p s c l : Int) (st sk re fe ag : Bool) (p1 p2 : Option Addr) (pn1 pc1 pn2 pc2 : Nat) (pp : Int) (xs ys : List Int) (w : World) (h : PosR w p1 p2 pn1 pn2 xs ys) (hk : okP (okR p s c l st ag) p pn1 pn2 pp xs ys = false) :
  Calls Try.prog 48 #[.agg #[.int .i64 p, .int .i64 s, .bool st, .bool sk, .bool re, .bool fe, .bool ag, .int .i64 c, .int .i64 l], .agg #[.slice p1 pn1 pc1, .slice p2 pn2 pc2, .int .i64 pp]] w fun e w' => e = .returned (.tuple #[.slice none 0 0, .int .i64 1]) ∧ Below w.heap.size w w' := by
 have HS := Lib.hid (rp_new p s c l st sk re fe ag p1 p2 pn1 pc1 pn2 pc2 pp w 30 32)
 have H0 := Lib.hid h
 have Hk := Lib.hid hk
 clear h hk
 go_enter Try.func48, Try.ntmps48
 go_wp2_with fail
 refine (implValid_any p s c l st sk re fe ag p1 p2 pn1 pc1 pn2 pc2 pp xs ys _ (H0.out.below HS.out.2.2)).mono ?_
 rintro e w5 ⟨rfl, hb⟩
 rw [Hk.out]
 have HS := Lib.hid (HS.out.below hb)
 clear hb
 go_wp2_with fail
 go_ret2
 exact ⟨rfl, HS.out.2.2⟩
theorem implRes_yes (p s c l : Int) (st sk re fe ag : Bool) (p1 p2 : Option Addr) (pn1 pc1 pc2 : Nat) (pp : Int) (xs ys : List Int) (w : World) (h : PosR w p1 p2 pn1 2 xs ys) (hcap : pn1 ≤ pc1) (hk : okP (okR p s c l st ag) p pn1 2 pp xs ys = true) :
  Calls Try.prog 48 #[.agg #[.int .i64 p, .int .i64 s, .bool st, .bool sk, .bool re, .bool fe, .bool ag, .int .i64 c, .int .i64 l], .agg #[.slice p1 pn1 pc1, .slice p2 2 pc2, .int .i64 pp]] w (RsC (rsF (f7 p c l pp st sk re fe ag xs ys) p.toNat) w) := by
 obtain ⟨q1, -⟩ := okP_parts hk
 obtain ⟨r1, r2, -⟩ := okR_bd q1
 obtain ⟨-, hpl⟩ := pl_of_ok hk
 obtain ⟨P, rfl⟩ : ∃ P : Nat, p = (P : Int) := ⟨p.toNat, by omega⟩
 rw [Int.toNat_natCast]
 have hP8 : P ≤ 8 := by omega
 obtain ⟨i0, hi, hz0, hz1, hz2⟩ := info_parts infoR
 have HS := Lib.hid (rp_new (P : Int) s c l st sk re fe ag p1 p2 pn1 pc1 2 pc2 pp w 30 32)
 have H0 := Lib.hid h
 have Hk := Lib.hid hk
 have Hpl := Lib.hid hpl
 clear h hk q1 hpl
 go_enter Try.func48, Try.ntmps48
 go_wp2_with fail
 refine (implValid_any (P : Int) s c l st sk re fe ag p1 p2 pn1 pc1 2 pc2 pp xs ys _ (H0.out.below HS.out.2.2)).mono ?_
 rintro e w5 ⟨rfl, hb⟩
 rw [Hk.out]
 have HJ0 : Hid (AiJ w (P : Int) s c l st sk re fe ag p1 p2 pn1 pc1 2 pc2 pp xs ys 0 (.slice none 0 0) w5) := Lib.hid ⟨⟨[], rs7_nil _ _, rfl⟩, HS.out.below hb⟩
 obtain ⟨⟨_, g0, -, -, -, -, -, -, -, -⟩, -, -⟩ := HJ0.out.rp
 clear hb HS
 go_wp2_with fail
 clear g0
 go_loopw [6, 16] (fun v i wr => ∃ k : Nat, i = .int .i64 k ∧ k ≤ P ∧ AiJ w (P : Int) s c l st sk re fe ag p1 p2 pn1 pc1 2 pc2 pp xs ys k v wr) (fun _ i _ => P - (intOf i).toNat)
 case atStart => exact ⟨0, rfl, Nat.zero_le _, HJ0.out⟩
 case round =>
  obtain ⟨k, rfl, hkP, hJ⟩ := hrel
  have HJ := Lib.hid hJ
  clear hJ HJ0
  by_cases hlt : k < P
  ·have HM := Lib.hid (makeL_any (P : Int) s c l st sk re fe ag p1 p2 pn1 pc1 2 pc2 pp xs ys (k : Int) wr (H0.out.below HJ.out.rp.2.2) hcap true Hk.out)
   have hf : f7 (P : Int) c l pp st sk re fe ag xs ys k = (lgV c l (P : Int) pp fe xs (mvV true (P : Int) pp st sk re xs ys (k : Int))).map (r7V c l (P : Int) pp ag ys (k : Int)) := rfl
   have HF := Lib.hid hf
   obtain ⟨⟨_, g0, g1', g2', g3, g4, g5, g6, g7, g8⟩, ⟨_, t0, t1, t2⟩, -⟩ := HJ.out.rp
   cases hl : lgV c l (P : Int) pp fe xs (mvV true (P : Int) pp st sk re xs ys (k : Int)) with
   | none =>
    have d := lg_none (s := s) (ag := ag) Hk.out H0.out.l1 hl
    rw [hl] at HM HF
    have HM := Lib.hid (HM.out.mono (fun _ _ q => MkQ.d (P : Int) s c l st sk re fe ag q))
    generalize lgC c l (P : Int) pp fe xs (mvCd true (P : Int) pp st sk re xs ys (k : Int)) (mvV true (P : Int) pp st sk re xs ys (k : Int)) = cd at *
    have HN : Hid (rsF (f7 (P : Int) c l pp st sk re fe ag xs ys) (k + 1) = rsF (f7 (P : Int) c l pp st sk re fe ag xs ys) k) := Lib.hid (by show _ ++ _ = _; rw [HF.out]; simp)
    clear hf hl HF
    go_upto_region 7 with fail
    go_cut [9] from 17 to 39 (fun s9 wx => s9 = .int .i64 cd ∧ AiJ w (P : Int) s c l st sk re fe ag p1 p2 pn1 pc1 2 pc2 pp xs ys (k + 1) u6 wx)
    case first =>
     go_wp2_with fail
     refine HM.out.mono ?_
     rintro e w5 ⟨pz, sz, cz, lz, stz, skz, rez, fez, agz, playerz, s1z, s2z, sn1z, sc1z, sn2z, sc2z, spz, sqz, p1z, p2z, pn1z, pc1z, pn2z, pc2z, ppz, t1z, t2z, tn1z, tc1z, tn2z, tc2z, tpz, tqz, rfl, hb⟩
     have HJ : Hid (AiJ w (P : Int) s c l st sk re fe ag p1 p2 pn1 pc1 2 pc2 pp xs ys (k + 1) u6 ((w5.alloc (.cells zero21.toArray 75)).setCells w5.heap.size 0 [.int .i64 pz, .int .i64 sz, .bool stz, .bool skz, .bool rez, .bool fez, .bool agz, .int .i64 cz, .int .i64 lz, .int .i64 playerz, .slice s1z sn1z sc1z, .slice s2z sn2z sc2z, .int .i64 spz, .int .i64 sqz, .slice p1z pn1z pc1z, .slice p2z pn2z pc2z, .int .i64 ppz, .slice t1z tn1z tc1z, .slice t2z tn2z tc2z, .int .i64 tpz, .int .i64 tqz])) := Lib.hid (by
      obtain ⟨⟨L, hL, hm⟩, h1⟩ := HJ.out
      have hb2 := below_sc w5.heap.size hb.size [.int .i64 pz, .int .i64 sz, .bool stz, .bool skz, .bool rez, .bool fez, .bool agz, .int .i64 cz, .int .i64 lz, .int .i64 playerz, .slice s1z sn1z sc1z, .slice s2z sn2z sc2z, .int .i64 spz, .int .i64 sqz, .slice p1z pn1z pc1z, .slice p2z pn2z pc2z, .int .i64 ppz, .slice t1z tn1z tc1z, .slice t2z tn2z tc2z, .int .i64 tpz, .int .i64 tqz] 0 (Below.alloc hb hb.size (.cells zero21.toArray 75))
      exact ⟨⟨L, hL.below hb2, by rw [HN.out]; exact hm⟩, h1.below hb2⟩)
     clear hb g0 g1' g2' g3 g4 g5 g6 g7 g8 t0 t1 t2
     go_wp2_with (refine wpList_store_mid rfl 75 _ _ rfl w5.heap.size 0 (List.toArray [.int .i64 pz, .int .i64 sz, .bool stz, .bool skz, .bool rez, .bool fez, .bool agz, .int .i64 cz, .int .i64 lz, .int .i64 playerz, .slice s1z sn1z sc1z, .slice s2z sn2z sc2z, .int .i64 spz, .int .i64 sqz, .slice p1z pn1z pc1z, .slice p2z pn2z pc2z, .int .i64 ppz, .slice t1z tn1z tc1z, .slice t2z tn2z tc2z, .int .i64 tpz, .int .i64 tqz]) rfl rfl (thN_new w5 75).th (by kernel_rfl) (mm_one pz sz cz lz stz skz rez fez agz playerz s1z s2z sn1z sc1z sn2z sc2z spz sqz p1z p2z pn1z pc1z pn2z pc2z ppz t1z t2z tn1z tc1z tn2z tc2z tpz tqz) ?_)
     go_meet
     exact ⟨rfl, HJ.out⟩
    case rest =>
     obtain ⟨rfl, hJ⟩ := hcut
     have HJ := Lib.hid hJ
     clear hJ HM g0 g1' g2' g3 g4 g5 g6 g7 g8 t0 t1 t2
     go_wp2_with fail
     go_roundw
     case rel => exact ⟨k + 1, by go_num, by omega, HJ.out⟩
     case measure => simp [intOf]; omega
   | some m =>
    obtain ⟨hm, hc0⟩ := lg_some (cd := mvCd true (P : Int) pp st sk re xs ys (k : Int)) hl
    obtain ⟨-, -, -, -, fin⟩ := mvV_fin Hk.out H0.out.l1 H0.out.l2 hm
    have HG := Lib.hid (good_fin (t := 0) (P : Int) s c l st sk re fe ag Hk.out fin)
    rw [hl, hc0] at HM
    rw [hl] at HF
    have HN : Hid (rsF (f7 (P : Int) c l pp st sk re fe ag xs ys) (k + 1) = rsF (f7 (P : Int) c l pp st sk re fe ag xs ys) k ++ [r7V c l (P : Int) pp ag ys (k : Int) m]) := Lib.hid (by show _ ++ _ = _; rw [HF.out]; rfl)
    clear hf hl HF hm hc0 fin
    go_upto_region 7 with fail
    go_cut [8, 9] from 17 to 39 (fun s8 s9 wx => ∃ (s1 s2 : Option Addr) (sc1 sc2 M g1 k1 g2 k2 : Nat), s8 = .pointer (some ⟨M, 0, none⟩) ∧ s9 = .int .i64 0 ∧ MkF w wr (P : Int) s c l st sk re fe ag pp s1 s2 pn1 sc1 sc2 p1 p2 pc1 pc2 m M g1 k1 g2 k2 wx)
    case first =>
     go_wp2_with fail
     refine HM.out.mono ?_
     rintro e w5 ⟨s1, s2, sc1, sc2, g1, k1, g2, k2, rfl, ho, hl1, hl2, hc1, hc2, hb⟩
     have HF := Lib.hid (mkF_new (P : Int) s c l st sk re fe ag (s1 := s1) (s2 := s2) (sc1 := sc1) (sc2 := sc2) (p1 := p1) (p2 := p2) (pc1 := pc1) (pc2 := pc2) 75 hb ho hl1 hl2 hc1 hc2)
     clear hb ho hl1 hl2 hc1 hc2 g0 g1' g2' g3 g4 g5 g6 g7 g8 t0 t1 t2
     go_wp2_with (refine wpList_store_mid rfl 75 _ _ rfl w5.heap.size 0 (List.toArray [.int .i64 (P : Int), .int .i64 s, .bool st, .bool sk, .bool re, .bool fe, .bool ag, .int .i64 c, .int .i64 l, .int .i64 pp, .slice s1 pn1 sc1, .slice s2 2 sc2, .int .i64 m.last, .int .i64 m.laps, .slice p1 pn1 pc1, .slice p2 2 pc2, .int .i64 pp, .slice (some ⟨g1, 0, none⟩) pn1 k1, .slice (some ⟨g2, 0, none⟩) 2 k2, .int .i64 m.last, .int .i64 m.laps]) rfl rfl (thN_new w5 75).th (by kernel_rfl) (mm_one (P : Int) s c l st sk re fe ag pp s1 s2 pn1 sc1 2 sc2 m.last m.laps p1 p2 pn1 pc1 2 pc2 pp (some ⟨g1, 0, none⟩) (some ⟨g2, 0, none⟩) pn1 k1 2 k2 m.last m.laps) ?_)
     go_meet
     exact ⟨s1, s2, sc1, sc2, w5.heap.size, g1, k1, g2, k2, rfl, rfl, mkF_w HF.out⟩
    case rest =>
     obtain ⟨s1, s2, sc1, sc2, M, g1, k1, g2, k2, rfl, rfl, hF⟩ := hcut
     have HF := Lib.hid hF
     clear hF g0 g1' g2' g3 g4 g5 g6 g7 g8 t0 t1 t2 HM
     go_upto_region 9 with fail
     have hgw := HF.out.ge
     obtain ⟨L, hL, hLm⟩ := HJ.out.ex
     have HL0 := Lib.hid hL
     have HLm := Lib.hid hLm
     have hLk : L.length ≤ k := by
      have h1 := rsF_len (f7 (P : Int) c l pp st sk re fe ag xs ys) k
      rw [← hLm, List.length_map] at h1
      exact h1
     have hwr : w.heap.size ≤ wr.heap.size := HJ.out.rp.2.2.size
     have HF := Lib.hid (HF.out.below (Below.refl _ _).drew)
     have hyb := (HG.out.1.tk HG.out.2.1 HG.out.2.2)
     have hv0 := posB_getD hyb.2.1 pp.toNat
     have hv1 := getD_le hyb.2.1 pp.toNat
     have hv2 := posB_tot hyb.1
     have hy0 := posB_getD (seedB_parts (okP_parts Hk.out).2.2.2.2).2.1 pp.toNat
     have hy1 := getD_le (seedB_parts (okP_parts Hk.out).2.2.2.2).2.1 pp.toNat
     have hy2 := posB_tot (seedB_parts (okP_parts Hk.out).2.2.2.2).1
     have hy3 := (seedB_parts (okP_parts Hk.out).2.2.2.2).2.2
     have hx3 := HG.out.1.q3
     have HY := Lib.hid (show (0 ≤ (tkY c l (P : Int) pp m.last m.xs m.ys).getD pp.toNat 0 ∧ (tkY c l (P : Int) pp m.last m.xs m.ys).getD pp.toNat 0 ≤ 1000000) ∧ 0 ≤ ys.getD pp.toNat 0 ∧ ys.getD pp.toNat 0 ≤ 1000000 from ⟨⟨by omega, by omega⟩, by omega, by omega⟩)
     clear hyb hv0 hv1 hv2 hy0 hy1 hy2 hy3 hx3 hL hLm
     obtain ⟨nx, hnx⟩ : ∃ x, nxV ag pp m = x := ⟨_, rfl⟩
     obtain ⟨gn, hgn⟩ : ∃ x, gnV c l (P : Int) pp ys m = x := ⟨_, rfl⟩
     obtain ⟨bA, hbA⟩ : ∃ x, agV ag m = x := ⟨_, rfl⟩
     have HNx := Lib.hid hnx
     have HGn := Lib.hid hgn
     have HBA := Lib.hid hbA
     clear hnx hgn hbA
     refine wp_region_held_drew (S := fun u => u.rangeAt M 0 [.int .i64 (P : Int), .int .i64 s, .bool st, .bool sk, .bool re, .bool fe, .bool ag, .int .i64 c, .int .i64 l, .int .i64 pp, .slice s1 pn1 sc1, .slice s2 2 sc2, .int .i64 m.last, .int .i64 m.laps, .slice p1 pn1 pc1, .slice p2 2 pc2, .int .i64 pp, .slice (some ⟨g1, 0, none⟩) pn1 k1, .slice (some ⟨g2, 0, none⟩) 2 k2, .int .i64 m.last, .int .i64 m.laps]) (by kernel_rfl) HF.out.rg (fun hHeld => ?_)
     refine wpAnyH_take (i := 0) (oi := { dst := some 28, op := Op.move (Operand.tmp 6), type := 63, pos := "l07_moves.go:120", after := #[], guard := none }) (v := u6) rfl (by kernel_rfl) (by kernel_rfl) (by kernel_rfl) (fun _ _ _ h => h) (.inl ⟨by rfl, fun u hu => by go_simp⟩) hHeld ?_
     simp only [Act.put, List.setIfInBounds_toArray, List.set_cons_zero, List.set_cons_succ]
     refine wpAnyH_take (i := 1) (oi := { dst := some 29, op := Op.move (Operand.tmp 7), type := 2, pos := "l07_moves.go:120", after := #[], guard := none }) (v := .int .i64 (k : Int)) rfl (by kernel_rfl) (by kernel_rfl) (by kernel_rfl) (fun _ _ _ h => h) (.inl ⟨by rfl, fun u hu => by go_simp⟩) hHeld ?_
     simp only [Act.put, List.setIfInBounds_toArray, List.set_cons_zero, List.set_cons_succ]
     refine wpAnyH_take (i := 2) rfl (by kernel_rfl) (by kernel_rfl) (by kernel_rfl) (fun _ _ _ h => h) (yieldsIf_load_mid (by rfl) 75 _ rfl M 0 rfl [.int .i64 (P : Int), .int .i64 s, .bool st, .bool sk, .bool re, .bool fe, .bool ag, .int .i64 c, .int .i64 l, .int .i64 pp, .slice s1 pn1 sc1, .slice s2 2 sc2, .int .i64 m.last, .int .i64 m.laps, .slice p1 pn1 pc1, .slice p2 2 pc2, .int .i64 pp, .slice (some ⟨g1, 0, none⟩) pn1 k1, .slice (some ⟨g2, 0, none⟩) 2 k2, .int .i64 m.last, .int .i64 m.laps] _ (fun u hu => hu) Try.underlying75 rfl (by kernel_rfl)) hHeld ?_
     simp only [Act.put, List.setIfInBounds_toArray]
     refine wpAnyH_take (i := 4) rfl (by kernel_rfl) (by kernel_rfl) (by kernel_rfl) (fun _ _ _ h => h) (yieldsIf_load_mid (by rfl) 75 _ rfl M 0 rfl [.int .i64 (P : Int), .int .i64 s, .bool st, .bool sk, .bool re, .bool fe, .bool ag, .int .i64 c, .int .i64 l, .int .i64 pp, .slice s1 pn1 sc1, .slice s2 2 sc2, .int .i64 m.last, .int .i64 m.laps, .slice p1 pn1 pc1, .slice p2 2 pc2, .int .i64 pp, .slice (some ⟨g1, 0, none⟩) pn1 k1, .slice (some ⟨g2, 0, none⟩) 2 k2, .int .i64 m.last, .int .i64 m.laps] _ (fun u hu => hu) Try.underlying75 rfl (by kernel_rfl)) hHeld ?_
     simp only [Act.put]
     refine wpAnyH_take (i := 6) rfl (by kernel_rfl) (by kernel_rfl) (by kernel_rfl) (fun _ _ _ h => h) (yieldsIf_load_mid (by rfl) 75 _ rfl M 0 rfl [.int .i64 (P : Int), .int .i64 s, .bool st, .bool sk, .bool re, .bool fe, .bool ag, .int .i64 c, .int .i64 l, .int .i64 pp, .slice s1 pn1 sc1, .slice s2 2 sc2, .int .i64 m.last, .int .i64 m.laps, .slice p1 pn1 pc1, .slice p2 2 pc2, .int .i64 pp, .slice (some ⟨g1, 0, none⟩) pn1 k1, .slice (some ⟨g2, 0, none⟩) 2 k2, .int .i64 m.last, .int .i64 m.laps] _ (fun u hu => hu) Try.underlying75 rfl (by kernel_rfl)) hHeld ?_
     simp only [Act.put]
     refine wpAnyH_ready (rs := [3]) (by kernel_rfl) (by simp) ?_
     refine AllReadyH.cons rfl (fun K hK => ?_) AllReadyH.nil
     rw [if_pos (by rfl)]
     go_simp
     go_at_call 52
     refine ((gain_any (P : Int) s c l st sk re fe ag pp s1 s2 pn1 sc1 2 sc2 m.last m.laps p1 p2 pn1 pc1 2 pc2 pp (some ⟨g1, 0, none⟩) (some ⟨g2, 0, none⟩) pn1 k1 2 k2 m.last m.laps (tkY c l (P : Int) pp m.last m.xs m.ys) ys _ Hpl.out HF.out.ho.o2.row ((H0.out.below HJ.out.rp.2.2).below HF.out.be).r2 (tkY_len.trans HG.out.2.2) H0.out.l2 rfl rfl HY.out.1 HY.out.2).mono (fun e w' h => (show e = .returned (.int .i64 (gnV c l (P : Int) pp ys m)) ∧ _ from h))).mono ?_
     rw [HGn.out]
     rintro e w7 ⟨rfl, hb7⟩
     have HF := Lib.hid (HF.out.below hb7)
     clear hb7
     dsimp only
     refine hK.out _ _ (HF.out.rg) (fun hHeld => ?_)
     clear hK K
     (try simp only [Act.put, List.setIfInBounds_toArray, List.set_cons_zero, List.set_cons_succ])
     refine wpAnyH_ready (rs := [5]) (by kernel_rfl) (by simp) ?_
     refine AllReadyH.cons rfl (fun K hK => ?_) AllReadyH.nil
     rw [if_pos (by rfl)]
     go_simp
     go_at_call 53
     refine ((again_any (P : Int) s c l st sk re fe ag pp s1 s2 pn1 sc1 2 sc2 m.last m.laps p1 p2 pn1 pc1 2 pc2 pp (some ⟨g1, 0, none⟩) (some ⟨g2, 0, none⟩) pn1 k1 2 k2 m.last m.laps _).mono (fun e w' h => (show e = .returned (.bool (agV ag m)) ∧ _ from h))).mono ?_
     rw [HBA.out]
     rintro e w8 ⟨rfl, hb8⟩
     have HF := Lib.hid (HF.out.below hb8)
     clear hb8
     dsimp only
     refine hK.out _ _ (HF.out.rg) (fun hHeld => ?_)
     clear hK K
     (try simp only [Act.put, List.setIfInBounds_toArray, List.set_cons_zero, List.set_cons_succ])
     refine wpAnyH_ready (rs := [7]) (by kernel_rfl) (by simp) ?_
     refine AllReadyH.cons rfl (fun K hK => ?_) AllReadyH.nil
     rw [if_pos (by rfl)]
     go_simp
     go_at_call 51
     refine ((nextM_any (P : Int) s c l st sk re fe ag pp s1 s2 pn1 sc1 2 sc2 m.last m.laps p1 p2 pn1 pc1 2 pc2 pp (some ⟨g1, 0, none⟩) (some ⟨g2, 0, none⟩) pn1 k1 2 k2 m.last m.laps _ Hpl.out).mono (fun e w' h => (show e = .returned (.agg #[.slice (some ⟨g1, 0, none⟩) pn1 k1, .slice (some ⟨g2, 0, none⟩) 2 k2, .int .i64 (nxV ag pp m)]) ∧ _ from h))).mono ?_
     rw [HNx.out]
     rintro e w9 ⟨rfl, hb9⟩
     have HF := Lib.hid (HF.out.below hb9)
     clear hb9
     dsimp only
     refine hK.out _ _ (HF.out.rg) (fun hHeld => ?_)
     clear hK K
     (try simp only [Act.put, List.setIfInBounds_toArray, List.set_cons_zero, List.set_cons_succ])
     refine wpAnyH_take (i := 8) (oi := { dst := some 36, op := Op.build 66 #[(0, Operand.tmp 29), (1, Operand.tmp 31), (2, Operand.tmp 33), (3, Operand.tmp 35)], type := 66, pos := "l07_moves.go:120", after := #[{ on := 1, ground := Ground.data }, { on := 3, ground := Ground.data }, { on := 5, ground := Ground.data }, { on := 7, ground := Ground.data }], guard := none }) (v := .agg #[.int .i64 (k : Int), .int .i64 gn, .bool bA, .slice (some ⟨g1, 0, none⟩) pn1 k1, .slice (some ⟨g2, 0, none⟩) 2 k2, .int .i64 nx]) rfl (by kernel_rfl) (by kernel_rfl) (by kernel_rfl) (fun _ _ _ h => h) (.inl ⟨by rfl, fun u hu => by go_simp⟩) hHeld ?_
     simp only [Act.put, List.setIfInBounds_toArray, List.set_cons_zero, List.set_cons_succ]
     refine wpAnyH_ready (rs := [9]) (by kernel_rfl) (by simp) ?_
     refine AllReadyH.cons rfl (fun K hK => ?_) AllReadyH.nil
     rw [if_pos (by rfl)]
     go_simp
     have HF1 := Lib.hid (HF.out.below (al1 w9 (.cells #[.int .i64 (k : Int), .int .i64 gn, .bool bA, .slice (some ⟨g1, 0, none⟩) pn1 k1, .slice (some ⟨g2, 0, none⟩) 2 k2, .int .i64 nx] 66)))
     have HRg := Lib.hid HF1.out.rg
     refine hK.out _ _ (HRg.out) (fun hHeld => ?_)
     clear hK K
     (try simp only [Act.put, List.setIfInBounds_toArray, List.set_cons_zero, List.set_cons_succ])
     have HL9 := Lib.hid (HL0.out.below HF.out.be)
     have hw9 : wr.heap.size ≤ w9.heap.size := HF.out.be.bel.size
     refine wpAnyH_ready (rs := [10]) (by kernel_rfl) (by simp) ?_
     refine AllReadyH.cons rfl (fun K hK => ?_) AllReadyH.nil
     refine step_append_lies _ rfl _ _ 63 rfl (w.heap.size + 2) 66 i0 (.agg #[.int .i64 0, .int .i64 0, .bool false, .slice none 0 0, .slice none 0 0, .int .i64 0]) 6 80 Try.underlying63 hi hz0 hz1 hz2 rfl (by decide) u6 L.length (flat7 L) rfl (own_keepS HL9.out.own (al1 _ _)) ⟨w9.heap.size, 0, none⟩ 1 1 [.int .i64 (k : Int), .int .i64 gn, .bool bA, .slice (some ⟨g1, 0, none⟩) pn1 k1, .slice (some ⟨g2, 0, none⟩) 2 k2, .int .i64 nx] rfl rfl (cells7_news w9 66 (⟨(k : Int), gn, bA, nx, [], []⟩, ⟨g1, g2, pn1, k1, k2⟩) w9.heap.size rfl) (cells7_one (⟨(k : Int), gn, bA, nx, [], []⟩, ⟨g1, g2, pn1, k1, k2⟩)) (by decide) (by unfold maxLen; omega) (by omega) (by have := HJ.out.rp.2.1.1; simp; omega) (w9.heap.size + 1) (by simp) ?_
     intro g cap w6 hown hgrow hat hlt6
     have e7 : cells7 (r7V c l (P : Int) pp ag ys (k : Int) m, ⟨g1, g2, pn1, k1, k2⟩) = [.int .i64 (k : Int), .int .i64 gn, .bool bA, .slice (some ⟨g1, 0, none⟩) pn1 k1, .slice (some ⟨g2, 0, none⟩) 2 k2, .int .i64 nx] := by
      show [Value.int .i64 (k : Int), .int .i64 (gnV c l (P : Int) pp ys m), .bool (agV ag m), .slice (some ⟨g1, 0, none⟩) pn1 k1, .slice (some ⟨g2, 0, none⟩) 2 k2, .int .i64 (nxV ag pp m)] = _
      rw [HGn.out, HBA.out, HNx.out]
     rw [← e7] at hown
     have hg1 := HF.out.ho.o1.new
     have hg2 := HF.out.ho.o2.new
     have hrp2 : w.heap.size + 2 ≤ wr.heap.size := HJ.out.rp.2.1.1
     have hIt : It7 w9 (w.heap.size + 2) (r7V c l (P : Int) pp ag ys (k : Int) m, ⟨g1, g2, pn1, k1, k2⟩) := ⟨HF.out.ho.lower hrp2, HF.out.l1, HF.out.l2, HF.out.h1, HF.out.h2⟩
     have hR6 := Rs7.snoc (H0 := wr.heap.size) HL9.out hIt (fun y hy => ⟨(HL0.out.it y hy).l1, (HL0.out.it y hy).l2⟩) (fun q hq => (own_lt HL0.out.own q hq).2) hg1 hg2 (al1 w9 (.cells #[.int .i64 (k : Int), .int .i64 gn, .bool bA, .slice (some ⟨g1, 0, none⟩) pn1 k1, .slice (some ⟨g2, 0, none⟩) 2 k2, .int .i64 nx] 66)) hown hgrow (by simpa using hat)
     have HJ : Hid (AiJ w (P : Int) s c l st sk re fe ag p1 p2 pn1 pc1 2 pc2 pp xs ys (k + 1) (.slice (some ⟨g, 0, none⟩) (L.length + 1) cap) w6) := Lib.hid ⟨⟨L ++ [(r7V c l (P : Int) pp ag ys (k : Int) m, ⟨g1, g2, pn1, k1, k2⟩)], hR6, by rw [List.map_append, HLm.out, HN.out]; rfl⟩, RpAt.grown ((HJ.out.rp.below HF.out.be).below (al1 w9 (.cells #[.int .i64 (k : Int), .int .i64 gn, .bool bA, .slice (some ⟨g1, 0, none⟩) pn1 k1, .slice (some ⟨g2, 0, none⟩) 2 k2, .int .i64 nx] 66))) hgrow (fun q hq => (own_lt HL0.out.own q hq).1)⟩
     have HRg6 := Lib.hid (range_grown HF1.out.rg HF1.out.lt hgrow (fun q hq => by have := (own_lt HL0.out.own q hq).2; omega))
     clear hown hgrow hat hlt6 hR6 hIt e7 HL9 HL0 HF HF1 HRg
     refine hK.out _ _ (HRg6.out) (fun hHeld => ?_)
     clear hK K
     (try simp only [Act.put, List.setIfInBounds_toArray])
     refine wpAnyH_ready (rs := [11]) (by kernel_rfl) (by simp) ?_
     refine AllReadyH.cons rfl (fun K hK => ?_) AllReadyH.nil
     rw [if_pos (by rfl)]
     go_simp
     refine hK.out _ _ (HRg6.out) (fun hHeld => ?_)
     clear hK K
     (try simp only [Act.put, List.setIfInBounds_toArray, List.set_cons_zero, List.set_cons_succ])
     refine wpAnyH_done (by kernel_rfl) ?_ _
     go_wp2_with fail
     go_roundw
     case rel => exact ⟨k + 1, by go_num, by omega, HJ.out⟩
     case measure => simp [intOf]; omega
  ·obtain rfl : k = P := by omega
   go_wp2_with fail
   go_ret2
   obtain ⟨L, hL, hm⟩ := HJ.out.ex
   exact ⟨_, L, rfl, hL.lower (Nat.le_add_right _ 2), hm, HJ.out.rp.2.2⟩
/- Lm7 -/
def RowC (n : Nat) (cd : Int) (xs : List Int) (w : World) (e : Ending) (w' : World) : Prop :=
 ∃ v, e = .returned (.tuple #[v, .int .i64 cd]) ∧ w'.ownsRow w.heap.size 2 1 v n (nvs xs) ∧ Below w.heap.size w w'
theorem Rs7.shape {u : World} {B : Nat} {v : Value} {L : List (R7 × Q7)} (h : Rs7 u B v L) : ∃ a cap, v = .slice a L.length cap ∧ (L ≠ [] → ∃ g, a = some ⟨g, 0, none⟩) := by
 obtain ⟨h1, ⟨rfl, hn⟩ | ⟨g, cap, cur, rfl, hb, hg, hr⟩⟩ := h.own
 ·exact ⟨none, 0, by rw [hn], fun hne => absurd (List.eq_nil_of_length_eq_zero hn) hne⟩
 ·exact ⟨_, cap, rfl, fun _ => ⟨g, rfl⟩⟩
def mvs (rs : List R7) : List Int := rs.map R7.mv
theorem mvs_take {L : List (R7 × Q7)} {k : Nat} {x : R7 × Q7} (h : L[k]? = some x) : mvs ((L.take (k + 1)).map Prod.fst) = mvs ((L.take k).map Prod.fst) ++ [x.1.mv] := by
 have hlt : k < L.length := (List.getElem?_eq_some_iff.1 h).1
 rw [List.take_add_one, h]
 simp [mvs]
theorem own_grown {u w' : World} {B B' e e' z z' n n' : Nat} {v x : Value} {xs ys : List Value} (h : u.ownsRow B e z v n xs) (hrow : u.ownsRow B' e' z' x n' ys) (he : e ≠ e') (hg : u.grownBy w' x.ownBlock) : w'.ownsRow B e z v n xs := by
 obtain ⟨h1, h2 | ⟨g, cap, cur, hv, hb, hh, hr⟩⟩ := h
 ·exact ⟨h1, .inl h2⟩
 ·refine ⟨h1, .inr ⟨g, cap, cur, hv, hb, ?_, hr⟩⟩
  rw [hg.block g (Array.getElem?_eq_some_iff.1 hh).1 ?_]
  ·exact hh
  ·intro e1
   obtain ⟨_, ⟨rfl, _⟩ | ⟨g', cap', cur', rfl, hb', hh', _⟩⟩ := hrow
   ·cases e1
   ·simp only [Value.ownBlock, Option.some.injEq] at e1
    subst e1
    rw [hh] at hh'
    simp only [Option.some.injEq, Obj.cells.injEq] at hh'
    exact he hh'.2.1
theorem own7_cell {u : World} {B g n cap : Nat} {L : List (R7 × Q7)} (h : u.ownsRow B 66 6 (.slice (some ⟨g, 0, none⟩) n cap) n (flat7 L)) (hn : L.length = n) {i : Nat} {x : R7 × Q7} (hi : L[i]? = some x) {o : Nat} (ho : o < 6) : u.cell? ⟨g, i * 6 + o, none⟩ = (cells7 x)[o]? := by
 obtain ⟨h1, ⟨e, -⟩ | ⟨g', cap', cur, hv, hb, hg, hn', hc, hs, ht⟩⟩ := h
 ·cases e
 ·simp only [Value.slice.injEq, Option.some.injEq, Addr.mk.injEq] at hv
  obtain ⟨⟨rfl, -⟩, -, rfl⟩ := hv
  have e := flat7_at L i x hi o ho
  rw [← ht, List.getElem?_take] at e
  have hL : i < L.length := (List.getElem?_eq_some_iff.1 hi).1
  rw [if_pos (by omega)] at e
  rw [← e]
  simp [World.cell?, hg]
structure LmJ (w : World) (L : List (R7 × Q7)) (v : Value) (k : Nat) (s : Value) (wr : World) : Prop where
 own : wr.ownsRow w.heap.size 66 6 v L.length (flat7 L)
 row : wr.ownsRow w.heap.size 2 1 s k (nvs (mvs ((L.take k).map Prod.fst)))
 be : Below w.heap.size w wr
theorem implLegal_no (p s c l : Int) (st sk re fe ag : Bool) (p1 p2 : Option Addr) (pn1 pc1 pn2 pc2 : Nat) (pp : Int) (xs ys : List Int) (w : World) (h : PosR w p1 p2 pn1 pn2 xs ys) (hk : okP (okR p s c l st ag) p pn1 pn2 pp xs ys = false) :
  Calls Try.prog 21 #[.agg #[.int .i64 p, .int .i64 s, .bool st, .bool sk, .bool re, .bool fe, .bool ag, .int .i64 c, .int .i64 l], .agg #[.slice p1 pn1 pc1, .slice p2 pn2 pc2, .int .i64 pp]] w (RowC 0 1 [] w) := by
 have HS := Lib.hid (rp_new p s c l st sk re fe ag p1 p2 pn1 pc1 pn2 pc2 pp w 30 32)
 have HC : Hid (∀ u, Below w.heap.size w u → Calls Try.prog 48 #[.agg #[.int .i64 p, .int .i64 s, .bool st, .bool sk, .bool re, .bool fe, .bool ag, .int .i64 c, .int .i64 l], .agg #[.slice p1 pn1 pc1, .slice p2 pn2 pc2, .int .i64 pp]] u fun e w' => e = .returned (.tuple #[.slice none 0 0, .int .i64 1]) ∧ Below u.heap.size u w') := Lib.hid (fun u hu => implRes_no p s c l st sk re fe ag p1 p2 pn1 pc1 pn2 pc2 pp xs ys u (h.below hu) hk)
 clear h hk
 go_enter Try.func21, Try.ntmps21
 go_wp2_with fail
 refine (HC.out _ HS.out.2.2).mono ?_
 rintro e w5 ⟨rfl, hb⟩
 have HS := Lib.hid (HS.out.below hb)
 clear hb
 go_wp2_with fail
 go_ret2
 exact ⟨_, rfl, World.ownsRow_nil _ _ _ _, HS.out.2.2⟩
theorem implLegal_yes (p s c l : Int) (st sk re fe ag : Bool) (p1 p2 : Option Addr) (pn1 pc1 pc2 : Nat) (pp : Int) (xs ys : List Int) (w : World) (h : PosR w p1 p2 pn1 2 xs ys) (hcap : pn1 ≤ pc1) (hk : okP (okR p s c l st ag) p pn1 2 pp xs ys = true) :
  Calls Try.prog 21 #[.agg #[.int .i64 p, .int .i64 s, .bool st, .bool sk, .bool re, .bool fe, .bool ag, .int .i64 c, .int .i64 l], .agg #[.slice p1 pn1 pc1, .slice p2 2 pc2, .int .i64 pp]] w (RowC (rsF (f7 p c l pp st sk re fe ag xs ys) p.toNat).length 0 (mvs (rsF (f7 p c l pp st sk re fe ag xs ys) p.toNat)) w) := by
 obtain ⟨q1, -⟩ := okP_parts hk
 obtain ⟨r1, r2, -⟩ := okR_bd q1
 have hlen := rsF_len (f7 p c l pp st sk re fe ag xs ys) p.toNat
 have HS := Lib.hid (rp_new p s c l st sk re fe ag p1 p2 pn1 pc1 2 pc2 pp w 30 32)
 have HC : Hid (∀ u, Below w.heap.size w u → Calls Try.prog 48 #[.agg #[.int .i64 p, .int .i64 s, .bool st, .bool sk, .bool re, .bool fe, .bool ag, .int .i64 c, .int .i64 l], .agg #[.slice p1 pn1 pc1, .slice p2 2 pc2, .int .i64 pp]] u (RsC (rsF (f7 p c l pp st sk re fe ag xs ys) p.toNat) u)) := Lib.hid (fun u hu => implRes_yes p s c l st sk re fe ag p1 p2 pn1 pc1 pc2 pp xs ys u (h.below hu) hcap hk)
 obtain ⟨i0, hi, hz0, hz1, hz2⟩ := info_parts infoN
 have hl8 : (rsF (f7 p c l pp st sk re fe ag xs ys) p.toNat).length ≤ 8 := by omega
 generalize rsF (f7 p c l pp st sk re fe ag xs ys) p.toNat = rs at *
 clear h hk q1 hcap hlen
 go_enter Try.func21, Try.ntmps21
 go_wp2_with fail
 refine (HC.out _ HS.out.2.2).mono ?_
 rintro e w5 ⟨v, L, rfl, hR, hLm, hb⟩
 obtain ⟨a, cap, rfl, hsh⟩ := hR.shape
 have hLn : L.length = rs.length := by rw [← hLm, List.length_map]
 have HLn := Lib.hid hLn
 have HLm := Lib.hid hLm
 have Hsh := Lib.hid hsh
 have hLk : L.length ≤ 8 := by omega
 have HJ0 : Hid (LmJ w L (.slice a L.length cap) 0 (.slice none 0 0) w5) := Lib.hid ⟨(hR.lower HS.out.2.2.size).own, World.ownsRow_nil _ _ _ _, Below.trans HS.out.2.2 (Below.mono hb HS.out.2.2.size)⟩
 have hw5 : w.heap.size + 2 ≤ w5.heap.size := Nat.le_trans HS.out.2.1.1 hb.size
 clear hb hR hLm hsh HS hLn
 generalize hN : L.length = N at *
 have HN := Lib.hid hN
 clear hN
 go_wp2_with fail
 go_loopw [8, 22] (fun sv i wr => ∃ k : Nat, i = .int .i64 k ∧ k ≤ N ∧ LmJ w L (.slice a N cap) k sv wr) (fun _ i _ => N - (intOf i).toNat)
 case atStart => exact ⟨0, rfl, Nat.zero_le _, HJ0.out⟩
 case round =>
  obtain ⟨k, rfl, hkN, hJ⟩ := hrel
  have HJ := Lib.hid hJ
  clear hJ HJ0
  by_cases hlt : k < N
  ·obtain ⟨x, hx⟩ : ∃ x, L[k]? = some x := ⟨L[k]'(by rw [HN.out]; exact hlt), List.getElem?_eq_getElem _⟩
   have Hx := Lib.hid hx
   obtain ⟨g, rfl⟩ := Hsh.out (by intro e; subst e; cases hx)
   have hno := HN.out
   have ho := HJ.out.own
   rw [hno] at ho
   have c0 := own7_cell ho hno hx (o := 0) (by omega)
   have c1 := own7_cell ho hno hx (o := 1) (by omega)
   have c2 := own7_cell ho hno hx (o := 2) (by omega)
   have c3 := own7_cell ho hno hx (o := 3) (by omega)
   have c4 := own7_cell ho hno hx (o := 4) (by omega)
   have c5 := own7_cell ho hno hx (o := 5) (by omega)
   simp only [cells7, Nat.add_zero, List.getElem?_cons_zero, List.getElem?_cons_succ] at c0 c1 c2 c3 c4 c5
   clear hx
   have k0 : (0 : Int) ≤ (k : Int) := by omega
   have k1 : (k : Int) < (N : Int) := by omega
   clear ho hno
   have hwr : w.heap.size ≤ wr.heap.size := HJ.out.be.size
   have hbA : Below wr.heap.size wr ((wr.alloc (.cells #[.int .i64 x.1.mv, .int .i64 x.1.gn, .bool x.1.ag, .slice (some ⟨x.2.g1, 0, none⟩) x.2.n1 x.2.k1, .slice (some ⟨x.2.g2, 0, none⟩) 2 x.2.k2, .int .i64 x.1.nx] 66)).alloc (.cells #[.int .i64 x.1.mv] 2)) := Below.alloc (al1 _ _) (by simp) _
   have HbA := Lib.hid hbA
   clear hbA
   go_wp2_with (at_builtin; refine wpList_append_own _ rfl _ _ 24 rfl w.heap.size 2 i0 (.int .i64 0) 1 8 Try.underlying24 hi hz0 hz1 hz2 rfl (by decide) u8 k (nvs (mvs ((L.take k).map Prod.fst))) rfl (own_keep HJ.out.row HbA.out) ⟨_, 0, none⟩ 1 1 (nvs [x.1.mv]) rfl (by simp [nvs]) (row_news (show RowN _ (some ⟨wr.heap.size + 1, 0, none⟩) [x.1.mv] from by have h := row_1 (wr.alloc (.cells #[.int .i64 x.1.mv, .int .i64 x.1.gn, .bool x.1.ag, .slice (some ⟨x.2.g1, 0, none⟩) x.2.n1 x.2.k1, .slice (some ⟨x.2.g2, 0, none⟩) 2 x.2.k2, .int .i64 x.1.nx] 66)) x.1.mv 2; rw [World.size_alloc] at h; exact h)) (nvs_cell _) (by unfold maxLen; omega) (by omega) (by simp; omega) ?_; intro v1 w3 hown1 hgrow1 hnil1)
   have HJ : Hid (LmJ w L (.slice (some ⟨g, 0, none⟩) N cap) (k + 1) v1 w3) := Lib.hid ⟨own_grown (own_keepS HJ.out.own HbA.out) (own_keep HJ.out.row HbA.out) (by decide) hgrow1, by rw [mvs_take Hx.out, nvs_app]; exact hown1, Below.grown (Below.trans HJ.out.be (Below.mono HbA.out hwr)) hgrow1 (by simp; omega) (fun q hq => (own_lt HJ.out.row q hq).1)⟩
   clear hown1 hgrow1 hnil1 c0 c1 c2 c3 c4 c5
   go_wp2_with fail
   go_roundw
   case rel => exact ⟨k + 1, by go_num, by omega, HJ.out⟩
   case measure => simp [intOf]; omega
  ·obtain rfl : k = N := by omega
   have k1 : ¬ (k : Int) < (k : Int) := by omega
   go_wp2_with fail
   go_ret2
   have hr := HJ.out.row
   rw [List.take_of_length_le (Nat.le_of_eq HN.out), HLm.out] at hr
   rw [← HLn.out]
   exact ⟨_, rfl, hr, HJ.out.be⟩
theorem implCan_any (p s c l : Int) (st sk re fe ag : Bool) (p1 p2 : Option Addr) (pn1 pc1 pn2 pc2 : Nat) (pp : Int) (xs ys : List Int) (w : World) (h : PosR w p1 p2 pn1 pn2 xs ys) (hcap : pn1 ≤ pc1) (k : Bool) (hk : okP (okR p s c l st ag) p pn1 pn2 pp xs ys = k) :
  Calls Try.prog 19 #[.agg #[.int .i64 p, .int .i64 s, .bool st, .bool sk, .bool re, .bool fe, .bool ag, .int .i64 c, .int .i64 l], .agg #[.slice p1 pn1 pc1, .slice p2 pn2 pc2, .int .i64 pp]] w fun e w' => e = .returned (.bool (k && decide (0 < (rsF (f7 p c l pp st sk re fe ag xs ys) p.toNat).length))) ∧ Below w.heap.size w w' := by
 have HS := Lib.hid (rp_new p s c l st sk re fe ag p1 p2 pn1 pc1 pn2 pc2 pp w 30 32)
 obtain ⟨n, cd, L, hn, hC⟩ : ∃ (n : Nat) (cd : Int) (L : List Int), (k && decide (0 < (rsF (f7 p c l pp st sk re fe ag xs ys) p.toNat).length)) = decide (0 < n) ∧ ∀ u, Below w.heap.size w u → Calls Try.prog 21 #[.agg #[.int .i64 p, .int .i64 s, .bool st, .bool sk, .bool re, .bool fe, .bool ag, .int .i64 c, .int .i64 l], .agg #[.slice p1 pn1 pc1, .slice p2 pn2 pc2, .int .i64 pp]] u (RowC n cd L u) := by
  cases k with
  | false => exact ⟨0, 1, [], rfl, fun u hu => implLegal_no p s c l st sk re fe ag p1 p2 pn1 pc1 pn2 pc2 pp xs ys u (h.below hu) hk⟩
  | true =>
   obtain ⟨rfl, -⟩ := pl_of_ok hk
   exact ⟨_, 0, _, rfl, fun u hu => implLegal_yes p s c l st sk re fe ag p1 p2 pn1 pc1 pc2 pp xs ys u (h.below hu) hcap hk⟩
 rw [hn]
 have HC := Lib.hid hC
 clear h hk hC hcap hn
 go_enter Try.func19, Try.ntmps19
 go_wp2_with fail
 refine (HC.out _ HS.out.2.2).mono ?_
 rintro e w5 ⟨v, rfl, hown, hb⟩
 obtain ⟨a, cap, rfl⟩ : ∃ a cap, v = .slice a n cap := by
  obtain ⟨h1, ⟨rfl, hn⟩ | ⟨g, cap, cur, rfl, hb, hg, hr⟩⟩ := hown
  ·exact ⟨none, 0, by rw [hn]⟩
  ·exact ⟨_, cap, rfl⟩
 have HS := Lib.hid (HS.out.below hb)
 clear hb hown
 go_wp2_with fail
 go_ret
 exact ⟨by simp, HS.out.2.2⟩
/- LmS -/
theorem specLegal_no (p s c l : Int) (st sk re fe ag : Bool) (p1 p2 : Option Addr) (pn1 pc1 pn2 pc2 : Nat) (pp : Int) (xs ys : List Int) (w : World) (h : PosR w p1 p2 pn1 pn2 xs ys) (hk : okP (okR p s c l st ag) p pn1 pn2 pp xs ys = false) :
  Calls Try.prog 20 #[.agg #[.int .i64 p, .int .i64 s, .bool st, .bool sk, .bool re, .bool fe, .bool ag, .int .i64 c, .int .i64 l], .agg #[.slice p1 pn1 pc1, .slice p2 pn2 pc2, .int .i64 pp]] w (RowC 0 1 [] w) := by
 have HS := Lib.hid (rp_new p s c l st sk re fe ag p1 p2 pn1 pc1 pn2 pc2 pp w 30 32)
 have HC : Hid (∀ u, RpAt w p s c l st sk re fe ag p1 p2 pn1 pc1 pn2 pc2 pp u → Calls Try.prog 45 #[.pointer (some ⟨w.heap.size, 0, none⟩), .pointer (some ⟨w.heap.size + 1, 0, none⟩)] u (Still (.bool false) u)) := Lib.hid (fun u hu => l04Ok_at p s c l st sk re fe ag p1 p2 pn1 pc1 pn2 pc2 pp xs ys _ _ u hu.1 hu.2.1 (h.below hu.2.2) _ hk)
 clear h hk
 go_enter Try.func20, Try.ntmps20
 go_wp2_with fail
 refine (HC.out _ HS.out).mono ?_
 rintro e w5 ⟨rfl, m, rfl⟩
 have HS := Lib.hid (HS.out.below (below_dn (Below.refl _ _) m))
 go_wp2_with fail
 go_ret2
 exact ⟨_, rfl, World.ownsRow_nil _ _ _ _, HS.out.2.2⟩
theorem specLegal_yes (p s c l : Int) (st sk re fe ag : Bool) (p1 p2 : Option Addr) (pn1 pc1 pc2 : Nat) (pp : Int) (xs ys : List Int) (w : World) (h : PosR w p1 p2 pn1 2 xs ys) (hk : okP (okR p s c l st ag) p pn1 2 pp xs ys = true) :
  Calls Try.prog 20 #[.agg #[.int .i64 p, .int .i64 s, .bool st, .bool sk, .bool re, .bool fe, .bool ag, .int .i64 c, .int .i64 l], .agg #[.slice p1 pn1 pc1, .slice p2 2 pc2, .int .i64 pp]] w (RowC (rsF (f7 p c l pp st sk re fe ag xs ys) p.toNat).length 0 (mvs (rsF (f7 p c l pp st sk re fe ag xs ys) p.toNat)) w) := by
 obtain ⟨q1, -⟩ := okP_parts hk
 obtain ⟨r1, r2, -⟩ := okR_bd q1
 have hlen := rsF_len (f7 p c l pp st sk re fe ag xs ys) p.toNat
 have HS := Lib.hid (rp_new p s c l st sk re fe ag p1 p2 pn1 pc1 2 pc2 pp w 30 32)
 have HK : Hid (∀ u, RpAt w p s c l st sk re fe ag p1 p2 pn1 pc1 2 pc2 pp u → Calls Try.prog 45 #[.pointer (some ⟨w.heap.size, 0, none⟩), .pointer (some ⟨w.heap.size + 1, 0, none⟩)] u (Still (.bool true) u)) := Lib.hid (fun u hu => l04Ok_at p s c l st sk re fe ag p1 p2 pn1 pc1 2 pc2 pp xs ys _ _ u hu.1 hu.2.1 (h.below hu.2.2) _ hk)
 have HC : Hid (∀ u, RpAt w p s c l st sk re fe ag p1 p2 pn1 pc1 2 pc2 pp u → Calls Try.prog 46 #[.pointer (some ⟨w.heap.size, 0, none⟩), .pointer (some ⟨w.heap.size + 1, 0, none⟩)] u (RsP (rsF (f7 p c l pp st sk re fe ag xs ys) p.toNat) u)) := Lib.hid (fun u hu => l07All_any p s c l st sk re fe ag p1 p2 pn1 pc1 2 pc2 pp xs ys _ _ u hu.1 hu.2.1 (h.below hu.2.2) hk)
 obtain ⟨i0, hi, hz0, hz1, hz2⟩ := info_parts infoN
 have hl8 : (rsF (f7 p c l pp st sk re fe ag xs ys) p.toNat).length ≤ 8 := by omega
 generalize rsF (f7 p c l pp st sk re fe ag xs ys) p.toNat = rs at *
 clear h hk q1 hlen
 go_enter Try.func20, Try.ntmps20
 go_wp2_with fail
 refine (HK.out _ HS.out).mono ?_
 rintro e w4 ⟨rfl, m, rfl⟩
 have HS := Lib.hid (HS.out.below (below_dn (Below.refl _ _) m))
 generalize (((w.alloc (.cells #[.int .i64 p, .int .i64 s, .bool st, .bool sk, .bool re, .bool fe, .bool ag, .int .i64 c, .int .i64 l] 30)).alloc (.cells #[.slice p1 pn1 pc1, .slice p2 2 pc2, .int .i64 pp] 32)).drewN m) = w4 at *
 go_upto_region 4 with fail
 have hrow0 := World.ownsRow_made (e := 2) (size := 1) w4 #[] 0 (Nat.le_refl _) (by decide) rfl
 have HRow := Lib.hid (own_lower hrow0 HS.out.2.2.size)
 have HS := Lib.hid (HS.out.below (al1 w4 (.cells #[] 2)))
 generalize w4.alloc (.cells #[] 2) = w6 at *
 generalize w4.heap.size = G0 at *
 clear hrow0
 go_wp2_with fail
 refine (HC.out _ HS.out).mono ?_
 rintro e w5 ⟨v, L, rfl, hR, hLm, hb⟩
 obtain ⟨a, cap, rfl, hsh⟩ := hR.shape
 have hLn : L.length = rs.length := by rw [← hLm, List.length_map]
 have HLn := Lib.hid hLn
 have HLm := Lib.hid hLm
 have Hsh := Lib.hid hsh
 have hLk : L.length ≤ 8 := by omega
 have HJ0 : Hid (LmJ w L (.slice a L.length cap) 0 (.slice (some ⟨G0, 0, none⟩) 0 0) w5) := Lib.hid ⟨(hR.lower HS.out.2.2.size).own, own_keep HRow.out hb, Below.trans HS.out.2.2 (Below.mono hb HS.out.2.2.size)⟩
 clear hb hR hLm hsh HS hLn HRow
 generalize hN : L.length = N at *
 have HN := Lib.hid hN
 clear hN
 go_wp2_with fail
 go_loopw [6, 8] (fun sv i wr => ∃ k : Nat, i = .int .i64 k ∧ k ≤ N ∧ LmJ w L (.slice a N cap) k sv wr) (fun _ i _ => N - (intOf i).toNat)
 case atStart => exact ⟨0, rfl, Nat.zero_le _, HJ0.out⟩
 case round =>
  obtain ⟨k, rfl, hkN, hJ⟩ := hrel
  have HJ := Lib.hid hJ
  clear hJ HJ0
  by_cases hlt : k < N
  ·obtain ⟨x, hx⟩ : ∃ x, L[k]? = some x := ⟨L[k]'(by rw [HN.out]; exact hlt), List.getElem?_eq_getElem _⟩
   have Hx := Lib.hid hx
   obtain ⟨g, rfl⟩ := Hsh.out (by intro e; subst e; cases hx)
   have hno := HN.out
   have ho := HJ.out.own
   rw [hno] at ho
   have c0 := own7_cell ho hno hx (o := 0) (by omega)
   simp only [cells7, Nat.add_zero, List.getElem?_cons_zero] at c0
   clear hx
   have k0 : (0 : Int) ≤ (k : Int) := by omega
   have k1 : (k : Int) < (N : Int) := by omega
   clear ho hno
   have hwr : w.heap.size ≤ wr.heap.size := HJ.out.be.size
   go_wp2_with (at_builtin; refine wpList_append_own _ rfl _ _ 24 rfl w.heap.size 2 i0 (.int .i64 0) 1 8 Try.underlying24 hi hz0 hz1 hz2 rfl (by decide) u6 k (nvs (mvs ((L.take k).map Prod.fst))) rfl (own_keep HJ.out.row (al1 _ _)) ⟨_, 0, none⟩ 1 1 (nvs [x.1.mv]) rfl (by simp [nvs]) (row_news (row_1 wr x.1.mv 2)) (nvs_cell _) (by unfold maxLen; omega) (by omega) (by simp; omega) ?_; intro v1 w3 hown1 hgrow1 hnil1)
   have HJ : Hid (LmJ w L (.slice (some ⟨g, 0, none⟩) N cap) (k + 1) v1 w3) := Lib.hid ⟨own_grown (own_keepS HJ.out.own (al1 _ _)) (own_keep HJ.out.row (al1 _ _)) (by decide) hgrow1, by rw [mvs_take Hx.out, nvs_app]; exact hown1, Below.grown (Below.trans HJ.out.be (Below.mono (al1 _ _) hwr)) hgrow1 (by simp; omega) (fun q hq => (own_lt HJ.out.row q hq).1)⟩
   clear hown1 hgrow1 hnil1 c0
   go_wp2_with fail
   go_roundw
   case rel => exact ⟨k + 1, by go_num, by omega, HJ.out⟩
   case measure => simp [intOf]; omega
  ·obtain rfl : k = N := by omega
   have k1 : ¬ (k : Int) < (k : Int) := by omega
   go_wp2_with fail
   go_ret2
   have hr := HJ.out.row
   rw [List.take_of_length_le (Nat.le_of_eq HN.out), HLm.out] at hr
   rw [← HLn.out]
   exact ⟨_, rfl, hr, HJ.out.be⟩
theorem specCan_any (p s c l : Int) (st sk re fe ag : Bool) (p1 p2 : Option Addr) (pn1 pc1 pn2 pc2 : Nat) (pp : Int) (xs ys : List Int) (w : World) (h : PosR w p1 p2 pn1 pn2 xs ys) (k : Bool) (hk : okP (okR p s c l st ag) p pn1 pn2 pp xs ys = k) :
  Calls Try.prog 18 #[.agg #[.int .i64 p, .int .i64 s, .bool st, .bool sk, .bool re, .bool fe, .bool ag, .int .i64 c, .int .i64 l], .agg #[.slice p1 pn1 pc1, .slice p2 pn2 pc2, .int .i64 pp]] w fun e w' => e = .returned (.bool (k && decide (0 < (rsF (f7 p c l pp st sk re fe ag xs ys) p.toNat).length))) ∧ Below w.heap.size w w' := by
 have HS := Lib.hid (rp_new p s c l st sk re fe ag p1 p2 pn1 pc1 pn2 pc2 pp w 30 32)
 have HK : Hid (∀ u, RpAt w p s c l st sk re fe ag p1 p2 pn1 pc1 pn2 pc2 pp u → Calls Try.prog 45 #[.pointer (some ⟨w.heap.size, 0, none⟩), .pointer (some ⟨w.heap.size + 1, 0, none⟩)] u (Still (.bool k) u)) := Lib.hid (fun u hu => l04Ok_at p s c l st sk re fe ag p1 p2 pn1 pc1 pn2 pc2 pp xs ys _ _ u hu.1 hu.2.1 (h.below hu.2.2) _ hk)
 have HC : Hid (k = true → ∀ u, RpAt w p s c l st sk re fe ag p1 p2 pn1 pc1 pn2 pc2 pp u → Calls Try.prog 46 #[.pointer (some ⟨w.heap.size, 0, none⟩), .pointer (some ⟨w.heap.size + 1, 0, none⟩)] u (RsP (rsF (f7 p c l pp st sk re fe ag xs ys) p.toNat) u)) := Lib.hid (fun hkt u hu => l07All_any p s c l st sk re fe ag p1 p2 pn1 pc1 pn2 pc2 pp xs ys _ _ u hu.1 hu.2.1 (h.below hu.2.2) (hk.trans hkt))
 generalize rsF (f7 p c l pp st sk re fe ag xs ys) p.toNat = rs at *
 clear h hk
 go_enter Try.func18, Try.ntmps18
 go_wp2_with fail
 refine (HK.out _ HS.out).mono ?_
 rintro e w4 ⟨rfl, m, rfl⟩
 have HS := Lib.hid (HS.out.below (below_dn (Below.refl _ _) m))
 cases k with
 | false =>
  go_wp2_with fail
  go_ret
  exact ⟨rfl, HS.out.2.2⟩
 | true =>
  have HC2 : Hid (∀ u, RpAt w p s c l st sk re fe ag p1 p2 pn1 pc1 pn2 pc2 pp u → Calls Try.prog 46 #[.pointer (some ⟨w.heap.size, 0, none⟩), .pointer (some ⟨w.heap.size + 1, 0, none⟩)] u (RsP rs u)) := Lib.hid (HC.out rfl)
  clear HC
  go_wp2_with fail
  refine (HC2.out _ HS.out).mono ?_
  rintro e w5 ⟨v, L, rfl, hR, hLm, hb⟩
  obtain ⟨a, cap, rfl, -⟩ := hR.shape
  have HLn : Hid (L.length = rs.length) := Lib.hid (by rw [← hLm, List.length_map])
  have HS := Lib.hid (HS.out.below hb)
  clear hb hR hLm
  go_wp2_with fail
  go_ret
  exact ⟨by rw [← HLn.out]; simp, HS.out.2.2⟩
theorem legal_ex (p s c l : Int) (st sk re fe ag : Bool) (pn1 pn2 : Nat) (pp : Int) (xs ys : List Int) (l1 : xs.length = pn1) (l2 : ys.length = pn2) : ∃ (L : List Int) (n : Nat) (cd : Int), L.length = n ∧ n ≤ 1000000 ∧
  (∀ (a1 a2 : Option Addr) (u : World), PosR u a1 a2 pn1 pn2 xs ys → Calls Try.prog 20 #[.agg #[.int .i64 p, .int .i64 s, .bool st, .bool sk, .bool re, .bool fe, .bool ag, .int .i64 c, .int .i64 l], .agg #[.slice a1 pn1 pn1, .slice a2 pn2 pn2, .int .i64 pp]] u (RowC n cd L u)) ∧
  (∀ (a1 a2 : Option Addr) (u : World), PosR u a1 a2 pn1 pn2 xs ys → Calls Try.prog 21 #[.agg #[.int .i64 p, .int .i64 s, .bool st, .bool sk, .bool re, .bool fe, .bool ag, .int .i64 c, .int .i64 l], .agg #[.slice a1 pn1 pn1, .slice a2 pn2 pn2, .int .i64 pp]] u (RowC n cd L u)) := by
 rcases hk : okP (okR p s c l st ag) p pn1 pn2 pp xs ys with _ | _
 ·exact ⟨[], 0, 1, rfl, by omega, fun a1 a2 u h => specLegal_no p s c l st sk re fe ag _ _ _ _ _ _ _ xs ys u h hk, fun a1 a2 u h => implLegal_no p s c l st sk re fe ag _ _ _ _ _ _ _ xs ys u h hk⟩
 ·obtain ⟨rfl, -⟩ := pl_of_ok hk
  have hlen := rsF_len (f7 p c l pp st sk re fe ag xs ys) p.toNat
  obtain ⟨r1, r2, -⟩ := okR_bd (okP_parts hk).1
  exact ⟨_, _, 0, by simp [mvs], by omega, fun a1 a2 u h => specLegal_yes p s c l st sk re fe ag _ _ _ _ _ _ xs ys u h hk, fun a1 a2 u h => implLegal_yes p s c l st sk re fe ag _ _ _ _ _ _ xs ys u h (Nat.le_refl _) hk⟩
/- Tk8 -/
theorem z4_atS (p s c l : Int) (st sk re fe ag : Bool) (p1 p2 : Option Addr) (pn1 pc1 pn2 pc2 : Nat) (pp pq : Int) (w : World) (T U V : TypeId) : Z4 (((w.alloc (.cells #[.int .i64 p, .int .i64 s, .bool st, .bool sk, .bool re, .bool fe, .bool ag, .int .i64 c, .int .i64 l] T)).alloc (.cells #[.slice p1 pn1 pc1, .slice p2 pn2 pc2, .int .i64 pp, .int .i64 pq] U)).alloc (.cells #[.slice none 0 0, .slice none 0 0, .int .i64 0, .int .i64 0] V)) (w.heap.size + 1 + 1) := by
 have := z4_new ((w.alloc (.cells #[.int .i64 p, .int .i64 s, .bool st, .bool sk, .bool re, .bool fe, .bool ag, .int .i64 c, .int .i64 l] T)).alloc (.cells #[.slice p1 pn1 pc1, .slice p2 pn2 pc2, .int .i64 pp, .int .i64 pq] U)) V
 simpa using this
theorem implTake_no (p s c l : Int) (st sk re fe ag : Bool) (player : Int) (p1 p2 : Option Addr) (pn1 pc1 pn2 pc2 : Nat) (pp pq : Int) (xs ys : List Int) (w : World) (h : PosR w p1 p2 pn1 pn2 xs ys) (hk : okS (okR p s c l st ag) p st pn1 pn2 pp pq player xs ys = false) :
  Calls Try.prog 36 #[.agg #[.int .i64 p, .int .i64 s, .bool st, .bool sk, .bool re, .bool fe, .bool ag, .int .i64 c, .int .i64 l], .agg #[.slice p1 pn1 pc1, .slice p2 pn2 pc2, .int .i64 pp, .int .i64 pq], .int .i64 player] w (SoZ 0 0 0 0 1 [] [] w) := by
 have H0 := Lib.hid h
 have Hk := Lib.hid hk
 have HS := Lib.hid ((rs_new p s c l st sk re fe ag p1 p2 pn1 pc1 pn2 pc2 pp pq w 30 50).below (al1 _ (.cells #[.slice none 0 0, .slice none 0 0, .int .i64 0, .int .i64 0] 50)))
 have HZ := Lib.hid (z4_atS p s c l st sk re fe ag p1 p2 pn1 pc1 pn2 pc2 pp pq w 30 50 50)
 clear h hk
 go_enter Try.func36, Try.ntmps36
 go_wp2_with fail
 refine (beginC_no p s c l st sk re fe ag player p1 p2 pn1 pc1 pn2 pc2 pp pq xs ys _ (H0.out.below HS.out.2.2) Hk.out).mono ?_
 rintro e w2 ⟨rfl, hb⟩
 have HS := Lib.hid (HS.out.below hb)
 have hus := HZ.out.lt
 obtain ⟨zl, z0, z1, z2, z3, f0, f1, f2, f3⟩ := HZ.out.below hb
 clear hb
 have hne : w2.heap.size ≠ w.heap.size + 1 + 1 := by omega
 have hne' : w.heap.size + 1 + 1 ≠ w2.heap.size := by omega
 go_wp2_with fail
 refine bodyPost_ret (v := .tuple #[.agg #[.slice none 0 0, .slice none 0 0, .int .i64 0, .int .i64 0], .int .i64 1]) (by simp [results, Try.results36, go_sem, z0, z1, z2, z3, zl]) rfl ?_
 exact soZ_zero 1 (OnW.below (OnW.set4 HS.out.2.2 (by omega) _ _ _ _) (al1 _ _)) (by simp; omega)
theorem implTake_yes (p s c l : Int) (st sk re fe ag : Bool) (player : Int) (p1 p2 : Option Addr) (pn1 pc1 pc2 : Nat) (pp pq : Int) (xs ys : List Int) (w : World) (h : PosR w p1 p2 pn1 2 xs ys) (hk : okS (okR p s c l st ag) p st pn1 2 pp pq player xs ys = true) (hcap : pn1 ≤ pc1) :
  Calls Try.prog 36 #[.agg #[.int .i64 p, .int .i64 s, .bool st, .bool sk, .bool re, .bool fe, .bool ag, .int .i64 c, .int .i64 l], .agg #[.slice p1 pn1 pc1, .slice p2 2 pc2, .int .i64 pp, .int .i64 pq], .int .i64 player] w (SoZ pn1 2 pp pq 0 (tkX c l p player pp xs) (tkY c l p player pp xs ys) w) := by
 have G := Lib.hid (good_of p s c l st sk re fe ag hk)
 have H0 := Lib.hid h
 have Hk := Lib.hid hk
 have Hcap := Lib.hid hcap
 have HS := Lib.hid ((rs_new p s c l st sk re fe ag p1 p2 pn1 pc1 2 pc2 pp pq w 30 50).below (al1 _ (.cells #[.slice none 0 0, .slice none 0 0, .int .i64 0, .int .i64 0] 50)))
 have HZ := Lib.hid (z4_atS p s c l st sk re fe ag p1 p2 pn1 pc1 2 pc2 pp pq w 30 50 50)
 clear h hk hcap
 go_enter Try.func36, Try.ntmps36
 go_wp2_with fail
 refine (beginC_yes p s c l st sk re fe ag player p1 p2 pn1 pc1 2 pc2 pp pq xs ys _ (H0.out.below HS.out.2.2) Hk.out).mono ?_
 rintro e w2 ⟨rfl, hb⟩
 have HS := Lib.hid (HS.out.below hb)
 have HZ := Lib.hid (HZ.out.below hb)
 have HX := Lib.hid (cp_new p s c l st sk re fe ag player p1 p2 pn1 pc1 2 pc2 pp pq w2 73)
 obtain ⟨⟨_, c0, c1, c2, c3, c4, c5, c6, c7, c8, c9, c10, c11, c12, c13⟩, -⟩ := HX.out
 clear hb
 go_wp2_with fail
 refine (capTake_any p s c l st sk re fe ag player p1 p2 pn1 pc1 pc2 pp pq xs ys _ (H0.out.below (HS.out.below (al1 _ _)).2.2) G.out Hcap.out).mono ?_
 rintro e w5 ⟨b1, k1, b2, k2, rfl, ho, hl1, hl2, hc1, hc2, hb⟩
 have hz2 := HZ.out.lt
 have HB := Lib.hid (show OnW w w5 from ((HS.out.below (al1 _ _)).below hb).2.2)
 obtain ⟨zl, z0, z1, z2, z3, f0, f1, f2, f3⟩ := (HZ.out.below (al1 _ _)).below hb
 have HO := Lib.hid ho
 have n1 := ho.o1.new
 have n2 := ho.o2.new
 simp at n1 n2
 clear hb ho c0 c1 c2 c3 c4 c5 c6 c7 c8 c9 c10 c11 c12 c13
 go_wp2_with fail
 refine bodyPost_ret (v := .tuple #[.agg #[.slice (some ⟨b1, 0, none⟩) pn1 k1, .slice (some ⟨b2, 0, none⟩) 2 k2, .int .i64 pp, .int .i64 pq], .int .i64 0]) (by simp [results, Try.results36, go_sem, z0, z1, z2, z3]) rfl ?_
 exact ⟨some ⟨b1, 0, none⟩, k1, b1, some ⟨b2, 0, none⟩, k2, b2, rfl, (PosO.set4 HO.out _ _ _ _ (by omega) (by omega)).lower (by simp; omega), by simpa using hl1, by simpa using hl2, hc1, hc2, OnW.set4 HB.out (by omega) _ _ _ _⟩
theorem specTake_no (p s c l : Int) (st sk re fe ag : Bool) (player : Int) (p1 p2 : Option Addr) (pn1 pc1 pn2 pc2 : Nat) (pp pq : Int) (xs ys : List Int) (w : World) (h : PosR w p1 p2 pn1 pn2 xs ys) (hk : okS (okR p s c l st ag) p st pn1 pn2 pp pq player xs ys = false) :
  Calls Try.prog 34 #[.agg #[.int .i64 p, .int .i64 s, .bool st, .bool sk, .bool re, .bool fe, .bool ag, .int .i64 c, .int .i64 l], .agg #[.slice p1 pn1 pc1, .slice p2 pn2 pc2, .int .i64 pp, .int .i64 pq], .int .i64 player] w (SoZ 0 0 0 0 1 [] [] w) := by
 have H0 := Lib.hid h
 have Hk := Lib.hid hk
 have HS := Lib.hid ((rs_new p s c l st sk re fe ag p1 p2 pn1 pc1 pn2 pc2 pp pq w 30 50).below (al1 _ (.cells #[.slice none 0 0, .slice none 0 0, .int .i64 0, .int .i64 0] 50)))
 have HZ := Lib.hid (z4_atS p s c l st sk re fe ag p1 p2 pn1 pc1 pn2 pc2 pp pq w 30 50 50)
 clear h hk
 go_enter Try.func34, Try.ntmps34
 go_wp2_with fail
 refine (l06Ok_any p s c l st sk re fe ag p1 p2 pn1 pc1 pn2 pc2 pp pq xs ys player _ _ _ HS.out.1 HS.out.2.1 (H0.out.below HS.out.2.2) _ Hk.out).mono ?_
 rintro e w2 ⟨rfl, hb⟩
 have HS := Lib.hid (HS.out.below hb)
 have hus := HZ.out.lt
 obtain ⟨zl, z0, z1, z2, z3, f0, f1, f2, f3⟩ := HZ.out.below hb
 clear hb
 go_wp2_with fail
 refine bodyPost_ret (v := .tuple #[.agg #[.slice none 0 0, .slice none 0 0, .int .i64 0, .int .i64 0], .int .i64 1]) (by simp [results, Try.results34, go_sem, z0, z1, z2, z3]) rfl ?_
 exact soZ_zero 1 (OnW.set4 HS.out.2.2 (by omega) _ _ _ _) (by simp; omega)
theorem specTake_yes (p s c l : Int) (st sk re fe ag : Bool) (player : Int) (p1 p2 : Option Addr) (pn1 pc1 pc2 : Nat) (pp pq : Int) (xs ys : List Int) (w : World) (h : PosR w p1 p2 pn1 2 xs ys) (hk : okS (okR p s c l st ag) p st pn1 2 pp pq player xs ys = true) :
  Calls Try.prog 34 #[.agg #[.int .i64 p, .int .i64 s, .bool st, .bool sk, .bool re, .bool fe, .bool ag, .int .i64 c, .int .i64 l], .agg #[.slice p1 pn1 pc1, .slice p2 2 pc2, .int .i64 pp, .int .i64 pq], .int .i64 player] w (SoZ pn1 2 pp pq 0 (tkX c l p player pp xs) (tkY c l p player pp xs ys) w) := by
 have G := Lib.hid (good_of p s c l st sk re fe ag hk)
 have H0 := Lib.hid h
 have Hk := Lib.hid hk
 have HS := Lib.hid ((rs_new p s c l st sk re fe ag p1 p2 pn1 pc1 2 pc2 pp pq w 30 50).below (al1 _ (.cells #[.slice none 0 0, .slice none 0 0, .int .i64 0, .int .i64 0] 50)))
 have HZ := Lib.hid (z4_atS p s c l st sk re fe ag p1 p2 pn1 pc1 2 pc2 pp pq w 30 50 50)
 clear h hk
 go_enter Try.func34, Try.ntmps34
 go_wp2_with fail
 refine (l06Ok_any p s c l st sk re fe ag p1 p2 pn1 pc1 2 pc2 pp pq xs ys player _ _ _ HS.out.1 HS.out.2.1 (H0.out.below HS.out.2.2) _ Hk.out).mono ?_
 rintro e w2 ⟨rfl, hb⟩
 have HS := Lib.hid (HS.out.below hb)
 have HZ := Lib.hid (HZ.out.below hb)
 clear hb
 go_wp2_with fail
 refine (l06Take_any p s c l st sk re fe ag player p1 p2 pn1 pc1 pc2 pp pq xs ys _ _ _ HS.out.1 HS.out.2.1 (H0.out.below HS.out.2.2) G.out).mono ?_
 rintro e w5 ⟨b1, k1, b2, k2, rfl, ho, hl1, hl2, hc1, hc2, hb⟩
 have hz2 := HZ.out.lt
 have HB := Lib.hid (show OnW w w5 from (HS.out.below hb).2.2)
 obtain ⟨zl, z0, z1, z2, z3, f0, f1, f2, f3⟩ := HZ.out.below hb
 have HO := Lib.hid ho
 have n1 := ho.o1.new
 have n2 := ho.o2.new
 clear hb ho
 go_wp2_with fail
 refine bodyPost_ret (v := .tuple #[.agg #[.slice (some ⟨b1, 0, none⟩) pn1 k1, .slice (some ⟨b2, 0, none⟩) 2 k2, .int .i64 pp, .int .i64 pq], .int .i64 0]) (by simp [results, Try.results34, go_sem, z0, z1, z2, z3]) rfl ?_
 exact ⟨some ⟨b1, 0, none⟩, k1, b1, some ⟨b2, 0, none⟩, k2, b2, rfl, (PosO.set4 HO.out _ _ _ _ (by omega) (by omega)).lower (by omega), by simpa using hl1, by simpa using hl2, hc1, hc2, OnW.set4 HB.out (by omega) _ _ _ _⟩
theorem take_ex (p s c l : Int) (st sk re fe ag : Bool) (pn1 pn2 : Nat) (pp pq : Int) (xs ys : List Int) (player : Int) (l1 : xs.length = pn1) (l2 : ys.length = pn2) :
  ∃ (m1 m2 : Nat) (pl pk cd : Int) (us vs : List Int), m1 ≤ 10000000 ∧ m2 ≤ 10000000 ∧
   (∀ (g1 g2 : Nat) (w : World), PosR w (some ⟨g1, 0, none⟩) (some ⟨g2, 0, none⟩) pn1 pn2 xs ys → Calls Try.prog 34 #[.agg #[.int .i64 p, .int .i64 s, .bool st, .bool sk, .bool re, .bool fe, .bool ag, .int .i64 c, .int .i64 l], .agg #[.slice (some ⟨g1, 0, none⟩) pn1 pn1, .slice (some ⟨g2, 0, none⟩) pn2 pn2, .int .i64 pp, .int .i64 pq], .int .i64 player] w (SoZ m1 m2 pl pk cd us vs w)) ∧
   (∀ (g1 g2 : Nat) (w : World), PosR w (some ⟨g1, 0, none⟩) (some ⟨g2, 0, none⟩) pn1 pn2 xs ys → Calls Try.prog 36 #[.agg #[.int .i64 p, .int .i64 s, .bool st, .bool sk, .bool re, .bool fe, .bool ag, .int .i64 c, .int .i64 l], .agg #[.slice (some ⟨g1, 0, none⟩) pn1 pn1, .slice (some ⟨g2, 0, none⟩) pn2 pn2, .int .i64 pp, .int .i64 pq], .int .i64 player] w (SoZ m1 m2 pl pk cd us vs w)) := by
 cases hk : okS (okR p s c l st ag) p st pn1 pn2 pp pq player xs ys
 ·exact ⟨0, 0, 0, 0, 1, [], [], by omega, by omega, fun g1 g2 w h => specTake_no p s c l st sk re fe ag player _ _ _ _ _ _ _ _ xs ys w h hk, fun g1 g2 w h => implTake_no p s c l st sk re fe ag player _ _ _ _ _ _ _ _ xs ys w h hk⟩
 ·have g := good_of p s c l st sk re fe ag hk
  obtain rfl : pn2 = 2 := g.n2
  exact ⟨pn1, 2, pp, pq, 0, _, _, by have := g.n1; have := g.p2; omega, by omega, fun g1 g2 w h => specTake_yes p s c l st sk re fe ag player _ _ _ _ _ _ _ xs ys w h hk, fun g1 g2 w h => implTake_yes p s c l st sk re fe ag player _ _ _ _ _ _ _ xs ys w h hk (Nat.le_refl _)⟩
/- Rm9 -/
theorem Ot6.but {u v : World} {z b : Nat} {mv gn : Int} {bb : Bool} {v3 v4 v5 : Value} (h : Ot6 u z mv gn bb v3 v4 v5) (k : But b u v) (hb : z ≠ b) : Ot6 v z mv gn bb v3 v4 v5 := by
 have e := fun o => k.cell (o := o) h.lt hb
 exact ⟨Nat.lt_of_lt_of_le h.lt k.size, (e _).trans h.c0, (e _).trans h.c1, (e _).trans h.c2, (e _).trans h.c3, (e _).trans h.c4, (e _).trans h.c5, fun o => (k.frozen h.lt hb).trans (h.fr o)⟩
theorem specMake_any (p s c l : Int) (st sk re fe ag : Bool) (p1 p2 : Option Addr) (pn1 pc1 pn2 pc2 : Nat) (pp : Int) (xs ys : List Int) (move : Int) (w : World) (h : PosR w p1 p2 pn1 pn2 xs ys) (k : Bool) (hk : okP (okR p s c l st ag) p pn1 pn2 pp xs ys = k) :
  Calls Try.prog 26 #[.agg #[.int .i64 p, .int .i64 s, .bool st, .bool sk, .bool re, .bool fe, .bool ag, .int .i64 c, .int .i64 l], .agg #[.slice p1 pn1 pc1, .slice p2 pn2 pc2, .int .i64 pp], .int .i64 move] w (MmV c l p pp ag pn1 ys (lgV c l p pp fe xs (mvV k p pp st sk re xs ys move)) (lgC c l p pp fe xs (mvCd k p pp st sk re xs ys move) (mvV k p pp st sk re xs ys move)) w) := by
 have HS := Lib.hid ((rp_new p s c l st sk re fe ag p1 p2 pn1 pc1 pn2 pc2 pp w 30 32).below (al1 _ (.cells #[.slice none 0 0, .slice none 0 0, .int .i64 0] 32)))
 have HZ := Lib.hid (zeroP_at2 p s c l st sk re fe ag p1 p2 pn1 pc1 pn2 pc2 pp w 30 32 32)
 have HC : Hid (∀ u, RpAt w p s c l st sk re fe ag p1 p2 pn1 pc1 pn2 pc2 pp u → Calls Try.prog 49 #[.pointer (some ⟨w.heap.size, 0, none⟩), .pointer (some ⟨w.heap.size + 1, 0, none⟩), .int .i64 move] u (MrQ c l p pp ag pn1 xs ys move (lgV c l p pp fe xs (mvV k p pp st sk re xs ys move)) (lgC c l p pp fe xs (mvCd k p pp st sk re xs ys move) (mvV k p pp st sk re xs ys move)) u)) := Lib.hid (fun u hu => l07Make_any p s c l st sk re fe ag p1 p2 pn1 pc1 pn2 pc2 pp xs ys _ _ move u hu.1 hu.2.1 (h.below hu.2.2) k hk)
 cases hl : lgV c l p pp fe xs (mvV k p pp st sk re xs ys move) with
 | none =>
  rw [hl] at HC
  generalize lgC c l p pp fe xs (mvCd k p pp st sk re xs ys move) (mvV k p pp st sk re xs ys move) = cd at *
  clear h hk hl
  go_enter Try.func26, Try.ntmps26
  go_upto_region 1 with fail
  generalize ((w.alloc (.cells #[.int .i64 p, .int .i64 s, .bool st, .bool sk, .bool re, .bool fe, .bool ag, .int .i64 c, .int .i64 l] 30)).alloc (.cells #[.slice p1 pn1 pc1, .slice p2 pn2 pc2, .int .i64 pp] 32)).alloc (.cells #[.slice none 0 0, .slice none 0 0, .int .i64 0] 32) = u at *
  go_wp2_with fail
  refine (HC.out _ HS.out).mono ?_
  rintro e w5 ⟨rfl, hb⟩
  have hzu := HZ.out.lt
  have hus := hb.size
  have HS := Lib.hid (HS.out.below hb)
  have HZ2 := Lib.hid (HZ.out.below hb)
  clear hb
  go_upto_region 2 with fail
  have HZ3 := Lib.hid (HZ2.out.below (al1 w5 (.cells #[.int .i64 0, .int .i64 0, .bool false, .slice none 0 0, .slice none 0 0, .int .i64 0] 66)))
  have HO := Lib.hid (ot6_new w5 66 0 0 false (.slice none 0 0) (.slice none 0 0) (.int .i64 0))
  have HB3 := Lib.hid (show OnW w _ from HS.out.2.2.alloc HS.out.2.2.size (.cells #[.int .i64 0, .int .i64 0, .bool false, .slice none 0 0, .slice none 0 0, .int .i64 0] 66))
  have hX : w.heap.size + 1 + 1 < w5.heap.size := by omega
  generalize w5.alloc (.cells #[.int .i64 0, .int .i64 0, .bool false, .slice none 0 0, .slice none 0 0, .int .i64 0] 66) = w6 at *
  generalize w5.heap.size = X at *
  have hne : X ≠ w.heap.size + 1 + 1 := by omega
  have hne' : w.heap.size + 1 + 1 ≠ X := by omega
  obtain ⟨ol, o0, o1, o2, o3, o4, o5, ofr⟩ := HO.out
  obtain ⟨zl, z0, z1, z2, zf⟩ := HZ3.out
  have f0 := zf 0
  have f1 := zf 1
  have f2 := zf 2
  clear zf ofr
  have HT : Hid (∀ u : World, Ot6 u X 0 0 false (.slice none 0 0) (.slice none 0 0) (.int .i64 0) → X < u.heap.size ∧ u.cell? ⟨X, 0, none⟩ = some (.int .i64 0) ∧ u.cell? ⟨X, 1, none⟩ = some (.int .i64 0) ∧ u.cell? ⟨X, 2, none⟩ = some (.bool false) ∧ u.cell? ⟨X, 3, none⟩ = some (.slice none 0 0) ∧ u.cell? ⟨X, 4, none⟩ = some (.slice none 0 0) ∧ u.cell? ⟨X, 5, none⟩ = some (.int .i64 0)) := Lib.hid (fun u h => ⟨h.lt, h.c0, h.c1, h.c2, h.c3, h.c4, h.c5⟩)
  clear ol o0 o1 o2 o3 o4 o5
  go_region_held3 (fun u => X < u.heap.size ∧ u.cell? ⟨X, 0, none⟩ = some (.int .i64 0) ∧ u.cell? ⟨X, 1, none⟩ = some (.int .i64 0) ∧ u.cell? ⟨X, 2, none⟩ = some (.bool false) ∧ u.cell? ⟨X, 3, none⟩ = some (.slice none 0 0) ∧ u.cell? ⟨X, 4, none⟩ = some (.slice none 0 0) ∧ u.cell? ⟨X, 5, none⟩ = some (.int .i64 0)) (first | with_reducible exact HT.out _ HO.out | with_reducible exact HT.out _ HO.out.drew | with_reducible exact HT.out _ (HO.out.but (but3p _ _ _ _ _) hne) | with_reducible exact HT.out _ (HO.out.drew.but (but3p _ _ _ _ _) hne) | with_reducible exact HT.out _ (HO.out.but (but3p _ _ _ _ _) hne).drew)
   (fail)
  go_wp2_with fail
  refine bodyPost_ret (v := .tuple #[.agg #[.slice none 0 0, .slice none 0 0, .int .i64 0], .int .i64 0, .int .i64 cd]) (by simp [results, Try.results26, go_sem, z0, z1, z2]) rfl ?_
  exact posM_zero cd (OnW.drew (OnW.set3 HB3.out (by omega) _ _ _)) (by simp; omega)
 | some m =>
  obtain ⟨hm, hc0⟩ := lg_some (cd := mvCd k p pp st sk re xs ys move) hl
  rw [hl, hc0] at HC
  rw [hc0]
  clear h hk hl hm hc0
  go_enter Try.func26, Try.ntmps26
  go_upto_region 1 with fail
  generalize ((w.alloc (.cells #[.int .i64 p, .int .i64 s, .bool st, .bool sk, .bool re, .bool fe, .bool ag, .int .i64 c, .int .i64 l] 30)).alloc (.cells #[.slice p1 pn1 pc1, .slice p2 pn2 pc2, .int .i64 pp] 32)).alloc (.cells #[.slice none 0 0, .slice none 0 0, .int .i64 0] 32) = u at *
  go_wp2_with fail
  refine (HC.out _ HS.out).mono ?_
  rintro e w5 ⟨g1, k1, g2, k2, rfl, ho, hl1, hl2, hc1, hc2, hb⟩
  have hzu := HZ.out.lt
  have hn1 := ho.o1.new
  have hn2 := ho.o2.new
  have hus := hb.size
  obtain ⟨nx, hnx⟩ : ∃ x, nxV ag pp m = x := ⟨_, rfl⟩
  obtain ⟨gn, hgn⟩ : ∃ x, gnV c l p pp ys m = x := ⟨_, rfl⟩
  obtain ⟨bA, hbA⟩ : ∃ x, agV ag m = x := ⟨_, rfl⟩
  rw [hnx, hgn, hbA]
  have HNx := Lib.hid hnx
  have HGn := Lib.hid hgn
  have HS := Lib.hid (HS.out.below hb)
  have HZ2 := Lib.hid (HZ.out.below hb)
  have HO5 := Lib.hid (show PosO w5 w.heap.size _ _ _ _ _ _ _ _ from ho.lower (by omega))
  clear hb hnx hgn hbA ho
  go_upto_region 2 with fail
  have HZ3 := Lib.hid (HZ2.out.below (al1 w5 (.cells #[.int .i64 move, .int .i64 gn, .bool bA, .slice (some ⟨g1, 0, none⟩) pn1 k1, .slice (some ⟨g2, 0, none⟩) 2 k2, .int .i64 nx] 66)))
  have HO := Lib.hid (ot6_new w5 66 move gn bA (.slice (some ⟨g1, 0, none⟩) pn1 k1) (.slice (some ⟨g2, 0, none⟩) 2 k2) (.int .i64 nx))
  have HB3 := Lib.hid (show OnW w _ from HS.out.2.2.alloc HS.out.2.2.size (.cells #[.int .i64 move, .int .i64 gn, .bool bA, .slice (some ⟨g1, 0, none⟩) pn1 k1, .slice (some ⟨g2, 0, none⟩) 2 k2, .int .i64 nx] 66))
  have HO6 := Lib.hid (PosO.below HO5.out (al1 w5 (.cells #[.int .i64 move, .int .i64 gn, .bool bA, .slice (some ⟨g1, 0, none⟩) pn1 k1, .slice (some ⟨g2, 0, none⟩) 2 k2, .int .i64 nx] 66)))
  have hX : w.heap.size + 1 + 1 < w5.heap.size := by omega
  have hl1' : g1 < (w5.alloc (.cells #[.int .i64 move, .int .i64 gn, .bool bA, .slice (some ⟨g1, 0, none⟩) pn1 k1, .slice (some ⟨g2, 0, none⟩) 2 k2, .int .i64 nx] 66)).heap.size := by simp; omega
  have hl2' : g2 < (w5.alloc (.cells #[.int .i64 move, .int .i64 gn, .bool bA, .slice (some ⟨g1, 0, none⟩) pn1 k1, .slice (some ⟨g2, 0, none⟩) 2 k2, .int .i64 nx] 66)).heap.size := by simp; omega
  generalize w5.alloc (.cells #[.int .i64 move, .int .i64 gn, .bool bA, .slice (some ⟨g1, 0, none⟩) pn1 k1, .slice (some ⟨g2, 0, none⟩) 2 k2, .int .i64 nx] 66) = w6 at *
  generalize w5.heap.size = X at *
  have hne : X ≠ w.heap.size + 1 + 1 := by omega
  have hne' : w.heap.size + 1 + 1 ≠ X := by omega
  obtain ⟨ol, o0, o1, o2, o3, o4, o5, ofr⟩ := HO.out
  obtain ⟨zl, z0, z1, z2, zf⟩ := HZ3.out
  have f0 := zf 0
  have f1 := zf 1
  have f2 := zf 2
  clear zf ofr
  have HT : Hid (∀ u : World, Ot6 u X move gn bA (.slice (some ⟨g1, 0, none⟩) pn1 k1) (.slice (some ⟨g2, 0, none⟩) 2 k2) (.int .i64 nx) → X < u.heap.size ∧ u.cell? ⟨X, 0, none⟩ = some (.int .i64 move) ∧ u.cell? ⟨X, 1, none⟩ = some (.int .i64 gn) ∧ u.cell? ⟨X, 2, none⟩ = some (.bool bA) ∧ u.cell? ⟨X, 3, none⟩ = some (.slice (some ⟨g1, 0, none⟩) pn1 k1) ∧ u.cell? ⟨X, 4, none⟩ = some (.slice (some ⟨g2, 0, none⟩) 2 k2) ∧ u.cell? ⟨X, 5, none⟩ = some (.int .i64 nx)) := Lib.hid (fun u h => ⟨h.lt, h.c0, h.c1, h.c2, h.c3, h.c4, h.c5⟩)
  clear ol o0 o1 o2 o3 o4 o5
  go_region_held3 (fun u => X < u.heap.size ∧ u.cell? ⟨X, 0, none⟩ = some (.int .i64 move) ∧ u.cell? ⟨X, 1, none⟩ = some (.int .i64 gn) ∧ u.cell? ⟨X, 2, none⟩ = some (.bool bA) ∧ u.cell? ⟨X, 3, none⟩ = some (.slice (some ⟨g1, 0, none⟩) pn1 k1) ∧ u.cell? ⟨X, 4, none⟩ = some (.slice (some ⟨g2, 0, none⟩) 2 k2) ∧ u.cell? ⟨X, 5, none⟩ = some (.int .i64 nx)) (first | with_reducible exact HT.out _ HO.out | with_reducible exact HT.out _ HO.out.drew | with_reducible exact HT.out _ (HO.out.but (but3p _ _ _ _ _) hne) | with_reducible exact HT.out _ (HO.out.drew.but (but3p _ _ _ _ _) hne) | with_reducible exact HT.out _ (HO.out.but (but3p _ _ _ _ _) hne).drew)
   (fail)
  go_wp2_with fail
  refine bodyPost_ret (v := .tuple #[.agg #[.slice (some ⟨g1, 0, none⟩) pn1 k1, .slice (some ⟨g2, 0, none⟩) 2 k2, .int .i64 nx], .int .i64 gn, .int .i64 0]) (by simp [results, Try.results26, go_sem, z0, z1, z2]) rfl ?_
  show PosM pn1 2 (nxV ag pp m) (gnV c l p pp ys m) 0 _ _ w _ _
  rw [HNx.out, HGn.out]
  have hbt := but3p (w.heap.size + 1 + 1) w6 (.slice (some ⟨g1, 0, none⟩) pn1 k1) (.slice (some ⟨g2, 0, none⟩) 2 k2) (.int .i64 nx)
  exact ⟨_, _, g1, _, _, g2, rfl, (PosO.but HO6.out hbt (by omega) (by omega)).below (Below.refl _ _).drew, by simpa using hl1', by simpa using hl2', hc1, hc2, OnW.drew (But.lift HB3.out hbt (by omega))⟩
theorem make_ex (p s c l : Int) (st sk re fe ag : Bool) (pn1 pn2 : Nat) (pp : Int) (xs ys : List Int) (move : Int) (l1 : xs.length = pn1) (l2 : ys.length = pn2) :
  ∃ (m1 m2 : Nat) (pl gn cd : Int) (us vs : List Int), m1 ≤ 10000000 ∧ m2 ≤ 10000000 ∧
   (∀ (g1 g2 : Nat) (w : World), PosR w (some ⟨g1, 0, none⟩) (some ⟨g2, 0, none⟩) pn1 pn2 xs ys → Calls Try.prog 26 #[.agg #[.int .i64 p, .int .i64 s, .bool st, .bool sk, .bool re, .bool fe, .bool ag, .int .i64 c, .int .i64 l], .agg #[.slice (some ⟨g1, 0, none⟩) pn1 pn1, .slice (some ⟨g2, 0, none⟩) pn2 pn2, .int .i64 pp], .int .i64 move] w (PosM m1 m2 pl gn cd us vs w)) ∧
   (∀ (g1 g2 : Nat) (w : World), PosR w (some ⟨g1, 0, none⟩) (some ⟨g2, 0, none⟩) pn1 pn2 xs ys → Calls Try.prog 27 #[.agg #[.int .i64 p, .int .i64 s, .bool st, .bool sk, .bool re, .bool fe, .bool ag, .int .i64 c, .int .i64 l], .agg #[.slice (some ⟨g1, 0, none⟩) pn1 pn1, .slice (some ⟨g2, 0, none⟩) pn2 pn2, .int .i64 pp], .int .i64 move] w (PosM m1 m2 pl gn cd us vs w)) := by
 generalize hk : okP (okR p s c l st ag) p pn1 pn2 pp xs ys = k
 have hs := fun g1 g2 w h => specMake_any p s c l st sk re fe ag (some ⟨g1, 0, none⟩) (some ⟨g2, 0, none⟩) pn1 pn1 pn2 pn2 pp xs ys move w h k hk
 have hi := fun g1 g2 w h => implMake_any p s c l st sk re fe ag (some ⟨g1, 0, none⟩) (some ⟨g2, 0, none⟩) pn1 pn1 pn2 pn2 pp xs ys move w h (Nat.le_refl _) k hk
 cases hm : lgV c l p pp fe xs (mvV k p pp st sk re xs ys move) with
 | none =>
  rw [hm] at hs hi
  exact ⟨0, 0, 0, 0, _, [], [], by omega, by omega, hs, hi⟩
 | some m =>
  have e := (lg_some (cd := mvCd k p pp st sk re xs ys move) hm).1
  obtain ⟨-, hn⟩ := mvV_n1 hk l1 e
  rw [hm] at hs hi
  exact ⟨pn1, 2, _, _, 0, _, _, by omega, by omega, hs, hi⟩
/- WatC -/
section
variable {w u v : World} {p s c l : Int} {st sk re fe ag : Bool} {p1 p2 : Option Addr} {pn1 pc1 pn2 pc2 : Nat} {pp pq : Int}
theorem RsAt.setB (h : RsAt w p s c l st sk re fe ag p1 p2 pn1 pc1 pn2 pc2 pp pq u) {z : Nat} (hz : w.heap.size + 1 < z) (x y t q : Value) : RsAt w p s c l st sk re fe ag p1 p2 pn1 pc1 pn2 pc2 pp pq ((((u.setCell ⟨z, 0, none⟩ x).setCell ⟨z, 1, none⟩ y).setCell ⟨z, 2, none⟩ t).setCell ⟨z, 3, none⟩ q) :=
 ⟨h.1.but (but4 z u x y t q) (by omega), h.2.1.but (but4 z u x y t q) (by omega), OnW.set4 h.2.2 (by omega) x y t q⟩
theorem RsAt.but2 {b c' : Nat} (h : RsAt w p s c l st sk re fe ag p1 p2 pn1 pc1 pn2 pc2 pp pq u) (k : But2 b c' u v) (hb : w.heap.size + 1 < b) (hc : w.heap.size + 1 < c') : RsAt w p s c l st sk re fe ag p1 p2 pn1 pc1 pn2 pc2 pp pq v := by
 obtain ⟨⟨h0, h1⟩, ⟨h2, h3⟩, hw⟩ := h
 have e1 := fun o => k.cell (d := w.heap.size) (o := o) h0 (by omega) (by omega)
 have e2 := fun o => k.cell (d := w.heap.size + 1) (o := o) h2 (by omega) (by omega)
 exact ⟨⟨Nat.lt_of_lt_of_le h0 k.size, by rw [e1, e1, e1, e1, e1, e1, e1, e1, e1]; exact h1⟩, ⟨Nat.lt_of_lt_of_le h2 k.size, by rw [e2, e2, e2, e2]; exact h3⟩, k.below hw (by omega) (by omega) hw.size⟩
end
/- Greedy -/
def bst (r0 : R7) : List R7 → R7
 | [] => r0
 | x :: r => bst (if r0.gn < x.gn then x else r0) r
theorem bst_snoc : ∀ (l : List R7) (r0 x : R7), bst r0 (l ++ [x]) = if (bst r0 l).gn < x.gn then x else bst r0 l
 | [], _, _ => rfl
 | y :: l, r0, x => bst_snoc l (if r0.gn < y.gn then y else r0) x
def gv (rs : List R7) : Option R7 := match rs with | [] => none | x :: r => some (bst x (x :: r))
def gvA (k : Bool) (rs : List R7) : Int := if k = true then (match gv rs with | none => 0 | some y => y.mv) else 0
def gvB (k : Bool) (rs : List R7) : Int := if k = true then (match gv rs with | none => 0 | some y => y.gn) else 0
def gvC (k : Bool) (rs : List R7) : Int := if k = true then (match gv rs with | none => 3 | some y => 0) else 1
theorem own7_cell6 {u : World} {B g n cap : Nat} {L : List (R7 × Q7)} (h : u.ownsRow B 66 6 (.slice (some ⟨g, 0, none⟩) n cap) n (flat7 L)) (hn : L.length = n) {i : Nat} {x : R7 × Q7} (hi : L[i]? = some x) : u.cell? ⟨g, i * 6, none⟩ = some (.int .i64 x.1.mv) ∧ u.cell? ⟨g, i * 6 + 1, none⟩ = some (.int .i64 x.1.gn) ∧ u.cell? ⟨g, i * 6 + 2, none⟩ = some (.bool x.1.ag) ∧ u.cell? ⟨g, i * 6 + 3, none⟩ = some (.slice (some ⟨x.2.g1, 0, none⟩) x.2.n1 x.2.k1) ∧ u.cell? ⟨g, i * 6 + 4, none⟩ = some (.slice (some ⟨x.2.g2, 0, none⟩) 2 x.2.k2) ∧ u.cell? ⟨g, i * 6 + 5, none⟩ = some (.int .i64 x.1.nx) :=
 ⟨own7_cell h hn hi (o := 0) (by omega), own7_cell h hn hi (o := 1) (by omega), own7_cell h hn hi (o := 2) (by omega), own7_cell h hn hi (o := 3) (by omega), own7_cell h hn hi (o := 4) (by omega), own7_cell h hn hi (o := 5) (by omega)⟩
structure Be6 (u : World) (z : Nat) (mv gn : Int) : Prop where
 lt : z < u.heap.size
 ex : ∃ (b : Bool) (a3 : Option Addr) (n3 c3 : Nat) (a4 : Option Addr) (n4 c4 : Nat) (nx : Int), u.cell? ⟨z, 0, none⟩ = some (.int .i64 mv) ∧ u.cell? ⟨z, 1, none⟩ = some (.int .i64 gn) ∧ u.cell? ⟨z, 2, none⟩ = some (.bool b) ∧ u.cell? ⟨z, 3, none⟩ = some (.slice a3 n3 c3) ∧ u.cell? ⟨z, 4, none⟩ = some (.slice a4 n4 c4) ∧ u.cell? ⟨z, 5, none⟩ = some (.int .i64 nx)
 fr : ∀ o, u.frozen? ⟨z, o, none⟩ = false
theorem Be6.below {u v : World} {z : Nat} {mv gn : Int} (h : Be6 u z mv gn) (k : Below u.heap.size u v) : Be6 v z mv gn := by
 obtain ⟨lt, ⟨b, a3, n3, c3, a4, n4, c4, nx, h0, h1, h2, h3, h4, h5⟩, fr⟩ := h
 have e := fun o => k.cell (p := ⟨z, o, none⟩) lt
 exact ⟨Nat.lt_of_lt_of_le lt k.size, ⟨b, a3, n3, c3, a4, n4, c4, nx, (e _).trans h0, (e _).trans h1, (e _).trans h2, (e _).trans h3, (e _).trans h4, (e _).trans h5⟩, fun o => (k.frozen (p := ⟨z, o, none⟩) lt).trans (fr o)⟩
theorem Be6.th {u : World} {z : Nat} {mv gn : Int} (h : Be6 u z mv gn) : u.there z 0 6 := by
 obtain ⟨lt, ⟨b, a3, n3, c3, a4, n4, c4, nx, h0, h1, h2, h3, h4, h5⟩, fr⟩ := h
 intro j hj
 have e : j = 0 ∨ j = 1 ∨ j = 2 ∨ j = 3 ∨ j = 4 ∨ j = 5 := by omega
 rcases e with rfl | rfl | rfl | rfl | rfl | rfl
 ·exact ⟨by rw [Nat.zero_add, h0]; rfl, fr _⟩
 ·exact ⟨by rw [Nat.zero_add, h1]; rfl, fr _⟩
 ·exact ⟨by rw [Nat.zero_add, h2]; rfl, fr _⟩
 ·exact ⟨by rw [Nat.zero_add, h3]; rfl, fr _⟩
 ·exact ⟨by rw [Nat.zero_add, h4]; rfl, fr _⟩
 ·exact ⟨by rw [Nat.zero_add, h5]; rfl, fr _⟩
theorem be6_new (w : World) (mv gn : Int) (b : Bool) (a3 : Option Addr) (n3 c3 : Nat) (a4 : Option Addr) (n4 c4 : Nat) (nx : Int) (T : TypeId) : Be6 (w.alloc (.cells #[.int .i64 mv, .int .i64 gn, .bool b, .slice a3 n3 c3, .slice a4 n4 c4, .int .i64 nx] T)) w.heap.size mv gn :=
 ⟨by simp, ⟨b, a3, n3, c3, a4, n4, c4, nx, by go_simp, by go_simp, by go_simp, by go_simp, by go_simp, by go_simp⟩, fun o => by go_simp⟩
theorem but6g (z : Nat) (u : World) (x0 x1 x2 x3 x4 x5 : Value) : But z u ((((((u.setCell ⟨z, 0, none⟩ x0).setCell ⟨z, 1, none⟩ x1).setCell ⟨z, 2, none⟩ x2).setCell ⟨z, 3, none⟩ x3).setCell ⟨z, 4, none⟩ x4).setCell ⟨z, 5, none⟩ x5) :=
 ((((((But.refl z u).setCell (p := ⟨z, 0, none⟩) rfl x0).setCell (p := ⟨z, 1, none⟩) rfl x1).setCell (p := ⟨z, 2, none⟩) rfl x2).setCell (p := ⟨z, 3, none⟩) rfl x3).setCell (p := ⟨z, 4, none⟩) rfl x4).setCell (p := ⟨z, 5, none⟩) rfl x5
theorem Be6.set {u : World} {z : Nat} {mv gn : Int} (h : Be6 u z mv gn) (mv' gn' : Int) (b : Bool) (a3 : Option Addr) (n3 c3 : Nat) (a4 : Option Addr) (n4 c4 : Nat) (nx : Int) : Be6 ((((((u.setCell ⟨z, 0, none⟩ (.int .i64 mv')).setCell ⟨z, 1, none⟩ (.int .i64 gn')).setCell ⟨z, 2, none⟩ (.bool b)).setCell ⟨z, 3, none⟩ (.slice a3 n3 c3)).setCell ⟨z, 4, none⟩ (.slice a4 n4 c4)).setCell ⟨z, 5, none⟩ (.int .i64 nx)) z mv' gn' := by
 obtain ⟨lt, ⟨b', a3', n3', c3', a4', n4', c4', nx', h0, h1, h2, h3, h4, h5⟩, fr⟩ := h
 have f0 := fr 0
 have f1 := fr 1
 have f2 := fr 2
 have f3 := fr 3
 have f4 := fr 4
 have f5 := fr 5
 exact ⟨by simpa using lt, ⟨b, a3, n3, c3, a4, n4, c4, nx, by go_simp, by go_simp, by go_simp, by go_simp, by go_simp, by go_simp⟩, fun o => by
  have := fr o
  go_simp⟩
theorem own_but6 {u u' : World} {z B e s n cap g : Nat} {xs : List Value} (h : u.ownsRow B e s (.slice (some ⟨g, 0, none⟩) n cap) n xs) (k : But z u u') (hz : g ≠ z) : u'.ownsRow B e s (.slice (some ⟨g, 0, none⟩) n cap) n xs := by
 obtain ⟨h1, h2 | ⟨g', cap', cur, hv, hb, hg, hr⟩⟩ := h
 ·exact ⟨h1, .inl h2⟩
 ·have e : g = g' := by
   simp only [Value.slice.injEq, Option.some.injEq, Addr.mk.injEq] at hv
   exact hv.1.1
  exact ⟨h1, .inr ⟨g', cap', cur, hv, hb, by rw [k.block g' (Array.getElem?_eq_some_iff.1 hg).1 (e ▸ hz)]; exact hg, hr⟩⟩
structure GmJ (w : World) (L : List (R7 × Q7)) (g cap z : Nat) (x0 : R7) (k : Nat) (wr : World) : Prop where
 own : wr.ownsRow w.heap.size 66 6 (.slice (some ⟨g, 0, none⟩) L.length cap) L.length (flat7 L)
 bs : Be6 wr z (bst x0 ((L.take k).map Prod.fst)).mv (bst x0 ((L.take k).map Prod.fst)).gn
 be : Below w.heap.size w wr
 gz : g ≠ z
 zl : w.heap.size ≤ z
def Tr (a b c : Int) (w : World) (e : Ending) (w' : World) : Prop := e = .returned (.tuple #[.int .i64 a, .int .i64 b, .int .i64 c]) ∧ Below w.heap.size w w'
theorem gv_cons {L : List (R7 × Q7)} {rs : List R7} {x : R7 × Q7} (hm : L.map Prod.fst = rs) (h : L[0]? = some x) : gv rs = some (bst x.1 rs) := by
 cases L with
 | nil => cases h
 | cons y L =>
  simp only [List.getElem?_cons_zero, Option.some.injEq] at h
  subst h
  subst hm
  rfl
theorem map_take_next {L : List (R7 × Q7)} {k : Nat} {x : R7 × Q7} (h : L[k]? = some x) : (L.take (k + 1)).map Prod.fst = (L.take k).map Prod.fst ++ [x.1] := by
 rw [List.take_add_one, h]
 simp
theorem implGreedy_no (p s c l : Int) (st sk re fe ag : Bool) (p1 p2 : Option Addr) (pn1 pc1 pn2 pc2 : Nat) (pp : Int) (xs ys : List Int) (w : World) (h : PosR w p1 p2 pn1 pn2 xs ys) (hk : okP (okR p s c l st ag) p pn1 pn2 pp xs ys = false) :
  Calls Try.prog 16 #[.agg #[.int .i64 p, .int .i64 s, .bool st, .bool sk, .bool re, .bool fe, .bool ag, .int .i64 c, .int .i64 l], .agg #[.slice p1 pn1 pc1, .slice p2 pn2 pc2, .int .i64 pp]] w (Tr 0 0 1 w) := by
 have HS := Lib.hid (rp_new p s c l st sk re fe ag p1 p2 pn1 pc1 pn2 pc2 pp w 30 32)
 have HC : Hid (∀ u, Below w.heap.size w u → Calls Try.prog 48 #[.agg #[.int .i64 p, .int .i64 s, .bool st, .bool sk, .bool re, .bool fe, .bool ag, .int .i64 c, .int .i64 l], .agg #[.slice p1 pn1 pc1, .slice p2 pn2 pc2, .int .i64 pp]] u fun e w' => e = .returned (.tuple #[.slice none 0 0, .int .i64 1]) ∧ Below u.heap.size u w') := Lib.hid (fun u hu => implRes_no p s c l st sk re fe ag p1 p2 pn1 pc1 pn2 pc2 pp xs ys u (h.below hu) hk)
 clear h hk
 go_enter Try.func16, Try.ntmps16
 go_wp2_with fail
 refine (HC.out _ HS.out.2.2).mono ?_
 rintro e w5 ⟨rfl, hb⟩
 have HS := Lib.hid (HS.out.below hb)
 clear hb
 go_wp2_with fail
 go_ret3
 exact ⟨rfl, HS.out.2.2⟩
theorem implGreedy_yes (p s c l : Int) (st sk re fe ag : Bool) (p1 p2 : Option Addr) (pn1 pc1 pc2 : Nat) (pp : Int) (xs ys : List Int) (w : World) (h : PosR w p1 p2 pn1 2 xs ys) (hcap : pn1 ≤ pc1) (hk : okP (okR p s c l st ag) p pn1 2 pp xs ys = true) :
  Calls Try.prog 16 #[.agg #[.int .i64 p, .int .i64 s, .bool st, .bool sk, .bool re, .bool fe, .bool ag, .int .i64 c, .int .i64 l], .agg #[.slice p1 pn1 pc1, .slice p2 2 pc2, .int .i64 pp]] w (Tr (gvA true (rsF (f7 p c l pp st sk re fe ag xs ys) p.toNat)) (gvB true (rsF (f7 p c l pp st sk re fe ag xs ys) p.toNat)) (gvC true (rsF (f7 p c l pp st sk re fe ag xs ys) p.toNat)) w) := by
 obtain ⟨q1, -⟩ := okP_parts hk
 obtain ⟨r1, r2, -⟩ := okR_bd q1
 have hlen := rsF_len (f7 p c l pp st sk re fe ag xs ys) p.toNat
 have HS := Lib.hid (rp_new p s c l st sk re fe ag p1 p2 pn1 pc1 2 pc2 pp w 30 32)
 have HC : Hid (∀ u, Below w.heap.size w u → Calls Try.prog 48 #[.agg #[.int .i64 p, .int .i64 s, .bool st, .bool sk, .bool re, .bool fe, .bool ag, .int .i64 c, .int .i64 l], .agg #[.slice p1 pn1 pc1, .slice p2 2 pc2, .int .i64 pp]] u (RsC (rsF (f7 p c l pp st sk re fe ag xs ys) p.toNat) u)) := Lib.hid (fun u hu => implRes_yes p s c l st sk re fe ag p1 p2 pn1 pc1 pc2 pp xs ys u (h.below hu) hcap hk)
 have hl8 : (rsF (f7 p c l pp st sk re fe ag xs ys) p.toNat).length ≤ 8 := by omega
 generalize (rsF (f7 p c l pp st sk re fe ag xs ys) p.toNat) = rs at *
 clear h hk q1 hcap hlen
 go_enter Try.func16, Try.ntmps16
 go_wp2_with fail
 refine (HC.out _ HS.out.2.2).mono ?_
 rintro e w5 ⟨v, L, rfl, hR, hLm, hb⟩
 obtain ⟨a, cap, rfl, hsh⟩ := hR.shape
 have hLn : L.length = rs.length := by rw [← hLm, List.length_map]
 have HLm := Lib.hid hLm
 have hLk : L.length ≤ 8 := by omega
 by_cases h0 : L = []
 ·subst h0
  obtain rfl : rs = [] := by rw [← hLm]; rfl
  have HB := Lib.hid (Below.trans HS.out.2.2 (Below.mono hb HS.out.2.2.size))
  clear hb hR hLm hsh hLn HC HLm HS
  go_wp2_with fail
  go_ret3
  exact ⟨rfl, HB.out⟩
 obtain ⟨g, rfl⟩ := hsh h0
 obtain ⟨x0, hx0⟩ : ∃ x, L[0]? = some x := by
  cases L with
  | nil => exact absurd rfl h0
  | cons y L => exact ⟨y, rfl⟩
 have hn0 : 0 < L.length := List.length_pos_iff.2 h0
 have hown := (hR.lower HS.out.2.2.size).own
 have hbe : Below w.heap.size w w5 := Below.trans HS.out.2.2 (Below.mono hb HS.out.2.2.size)
 obtain ⟨c0, c1, c2, c3, c4, c5⟩ := own7_cell6 hown rfl hx0
 simp only [Nat.zero_mul, Nat.zero_add] at c0 c1 c2 c3 c4 c5
 have hg5 := (own_lt hown g rfl).2
 have hJ0 : GmJ w L g cap w5.heap.size x0.1 0 (w5.alloc (.cells #[.int .i64 x0.1.mv, .int .i64 x0.1.gn, .bool x0.1.ag, .slice (some ⟨x0.2.g1, 0, none⟩) x0.2.n1 x0.2.k1, .slice (some ⟨x0.2.g2, 0, none⟩) 2 x0.2.k2, .int .i64 x0.1.nx] 66)) := ⟨own_keepS hown (al1 _ _), be6_new w5 _ _ _ _ _ _ _ _ _ _ _, Below.trans hbe (Below.mono (al1 _ _) hbe.size), Nat.ne_of_lt hg5, hbe.size⟩
 have HJ0 := Lib.hid hJ0
 have Hx0 := Lib.hid hx0
 clear hb hR hLm hsh HS HC hown hbe hJ0 hx0 hg5 hLn
 generalize hN : L.length = N at *
 have HN := Lib.hid hN
 clear hN
 have hN0 : ((N : Int) == 0) = false := by simp; omega
 go_wp2_with fail
 clear c0 c1 c2 c3 c4 c5
 generalize hz : w5.heap.size = z at *
 generalize w5.alloc (.cells #[.int .i64 x0.1.mv, .int .i64 x0.1.gn, .bool x0.1.ag, .slice (some ⟨x0.2.g1, 0, none⟩) x0.2.n1 x0.2.k1, .slice (some ⟨x0.2.g2, 0, none⟩) 2 x0.2.k2, .int .i64 x0.1.nx] 66) = w6 at *
 clear hz
 go_loopw [29] (fun i wr => ∃ k : Nat, i = .int .i64 k ∧ k ≤ N ∧ GmJ w L g cap z x0.1 k wr) (fun i _ => N - (intOf i).toNat)
 case atStart => exact ⟨0, rfl, Nat.zero_le _, HJ0.out⟩
 case round =>
  obtain ⟨k, rfl, hkN, hJ⟩ := hrel
  have HJ := Lib.hid hJ
  clear hJ HJ0
  have HN2 := HN.out
  by_cases hlt : k < N
  ·obtain ⟨x, hx⟩ : ∃ x, L[k]? = some x := ⟨L[k]'(by rw [HN2]; exact hlt), List.getElem?_eq_getElem _⟩
   have Hx := Lib.hid hx
   have ho := HJ.out.own
   obtain ⟨c0, c1, c2, c3, c4, c5⟩ := own7_cell6 ho rfl hx
   have Hz : Hid (g ≠ z ∧ w.heap.size ≤ z) := Lib.hid ⟨HJ.out.gz, HJ.out.zl⟩
   have HB := Lib.hid (HJ.out.bs.below (al1 wr (.cells #[.int .i64 x.1.mv, .int .i64 x.1.gn, .bool x.1.ag, .slice (some ⟨x.2.g1, 0, none⟩) x.2.n1 x.2.k1, .slice (some ⟨x.2.g2, 0, none⟩) 2 x.2.k2, .int .i64 x.1.nx] 66)))
   have HO := Lib.hid (own_keepS ho (al1 wr (.cells #[.int .i64 x.1.mv, .int .i64 x.1.gn, .bool x.1.ag, .slice (some ⟨x.2.g1, 0, none⟩) x.2.n1 x.2.k1, .slice (some ⟨x.2.g2, 0, none⟩) 2 x.2.k2, .int .i64 x.1.nx] 66)))
   have HE := Lib.hid (Below.trans HJ.out.be (Below.mono (al1 wr (.cells #[.int .i64 x.1.mv, .int .i64 x.1.gn, .bool x.1.ag, .slice (some ⟨x.2.g1, 0, none⟩) x.2.n1 x.2.k1, .slice (some ⟨x.2.g2, 0, none⟩) 2 x.2.k2, .int .i64 x.1.nx] 66)) HJ.out.be.size))
   obtain ⟨zl, ⟨b, a3, n3, k3, a4, n4, k4, nx, d0, d1, d2, d3, d4, d5⟩, fr⟩ := HJ.out.bs
   have f0 := fr 0
   have f1 := fr 1
   have f2 := fr 2
   have f3 := fr 3
   have f4 := fr 4
   have f5 := fr 5
   have hnx : (bst x0.1 ((L.take (k + 1)).map Prod.fst)) = if (bst x0.1 ((L.take k).map Prod.fst)).gn < x.1.gn then x.1 else bst x0.1 ((L.take k).map Prod.fst) := by
    rw [map_take_next hx]
    exact bst_snoc _ _ _
   have Hnx := Lib.hid hnx
   generalize hy : bst x0.1 ((L.take k).map Prod.fst) = y at *
   clear hy hnx fr hx ho
   have k0 : (0 : Int) ≤ (k : Int) := by omega
   have k1 : (k : Int) < (N : Int) := by omega
   have hne : ¬ wr.heap.size = z := by omega
   have hne2 : ¬ z = wr.heap.size := by omega
   by_cases hg : y.gn < x.1.gn
   ·have e := Hnx.out
    rw [if_pos hg] at e
    have HK : Hid (bst x0.1 ((L.take (k + 1)).map Prod.fst) = x.1) := Lib.hid e
    clear e Hnx HJ HN2
    have HT : Hid (World.there (wr.alloc (.cells #[.int .i64 x.1.mv, .int .i64 x.1.gn, .bool x.1.ag, .slice (some ⟨x.2.g1, 0, none⟩) x.2.n1 x.2.k1, .slice (some ⟨x.2.g2, 0, none⟩) 2 x.2.k2, .int .i64 x.1.nx] 66)) z 0 (Array.size (#[.int .i64 x.1.mv, .int .i64 x.1.gn, .bool x.1.ag, .slice (some ⟨x.2.g1, 0, none⟩) x.2.n1 x.2.k1, .slice (some ⟨x.2.g2, 0, none⟩) 2 x.2.k2, .int .i64 x.1.nx] : Array Value))) := Lib.hid HB.out.th
    have HO1 : Hid (Array.all (#[.int .i64 x.1.mv, .int .i64 x.1.gn, .bool x.1.ag, .slice (some ⟨x.2.g1, 0, none⟩) x.2.n1 x.2.k1, .slice (some ⟨x.2.g2, 0, none⟩) 2 x.2.k2, .int .i64 x.1.nx] : Array Value) (·.oneCell') = true) := Lib.hid (by simp [Value.oneCell'])
    have HB6 : Hid (Be6 (World.setCells (wr.alloc (.cells #[.int .i64 x.1.mv, .int .i64 x.1.gn, .bool x.1.ag, .slice (some ⟨x.2.g1, 0, none⟩) x.2.n1 x.2.k1, .slice (some ⟨x.2.g2, 0, none⟩) 2 x.2.k2, .int .i64 x.1.nx] 66)) z 0 (#[.int .i64 x.1.mv, .int .i64 x.1.gn, .bool x.1.ag, .slice (some ⟨x.2.g1, 0, none⟩) x.2.n1 x.2.k1, .slice (some ⟨x.2.g2, 0, none⟩) 2 x.2.k2, .int .i64 x.1.nx] : Array Value).toList) z x.1.mv x.1.gn) := Lib.hid (HB.out.set x.1.mv x.1.gn x.1.ag (some ⟨x.2.g1, 0, none⟩) x.2.n1 x.2.k1 (some ⟨x.2.g2, 0, none⟩) 2 x.2.k2 x.1.nx)
    have HO6 : Hid (World.ownsRow (World.setCells (wr.alloc (.cells #[.int .i64 x.1.mv, .int .i64 x.1.gn, .bool x.1.ag, .slice (some ⟨x.2.g1, 0, none⟩) x.2.n1 x.2.k1, .slice (some ⟨x.2.g2, 0, none⟩) 2 x.2.k2, .int .i64 x.1.nx] 66)) z 0 (#[.int .i64 x.1.mv, .int .i64 x.1.gn, .bool x.1.ag, .slice (some ⟨x.2.g1, 0, none⟩) x.2.n1 x.2.k1, .slice (some ⟨x.2.g2, 0, none⟩) 2 x.2.k2, .int .i64 x.1.nx] : Array Value).toList) w.heap.size 66 6 (.slice (some ⟨g, 0, none⟩) L.length cap) L.length (flat7 L)) := Lib.hid (own_but6 HO.out (but6g z (wr.alloc (.cells #[.int .i64 x.1.mv, .int .i64 x.1.gn, .bool x.1.ag, .slice (some ⟨x.2.g1, 0, none⟩) x.2.n1 x.2.k1, .slice (some ⟨x.2.g2, 0, none⟩) 2 x.2.k2, .int .i64 x.1.nx] 66)) (.int .i64 x.1.mv) (.int .i64 x.1.gn) (.bool x.1.ag) (.slice (some ⟨x.2.g1, 0, none⟩) x.2.n1 x.2.k1) (.slice (some ⟨x.2.g2, 0, none⟩) 2 x.2.k2) (.int .i64 x.1.nx)) Hz.out.1)
    have HE6 : Hid (Below w.heap.size w (World.setCells (wr.alloc (.cells #[.int .i64 x.1.mv, .int .i64 x.1.gn, .bool x.1.ag, .slice (some ⟨x.2.g1, 0, none⟩) x.2.n1 x.2.k1, .slice (some ⟨x.2.g2, 0, none⟩) 2 x.2.k2, .int .i64 x.1.nx] 66)) z 0 (#[.int .i64 x.1.mv, .int .i64 x.1.gn, .bool x.1.ag, .slice (some ⟨x.2.g1, 0, none⟩) x.2.n1 x.2.k1, .slice (some ⟨x.2.g2, 0, none⟩) 2 x.2.k2, .int .i64 x.1.nx] : Array Value).toList)) := Lib.hid (But.lift HE.out (but6g z (wr.alloc (.cells #[.int .i64 x.1.mv, .int .i64 x.1.gn, .bool x.1.ag, .slice (some ⟨x.2.g1, 0, none⟩) x.2.n1 x.2.k1, .slice (some ⟨x.2.g2, 0, none⟩) 2 x.2.k2, .int .i64 x.1.nx] 66)) (.int .i64 x.1.mv) (.int .i64 x.1.gn) (.bool x.1.ag) (.slice (some ⟨x.2.g1, 0, none⟩) x.2.n1 x.2.k1) (.slice (some ⟨x.2.g2, 0, none⟩) 2 x.2.k2) (.int .i64 x.1.nx)) Hz.out.2)
    clear HB HO HE
    go_upto_region 11 with fail
    go_wp2_with ((refine wpList_store_mid rfl 66 _ _ rfl z 0 #[.int .i64 x.1.mv, .int .i64 x.1.gn, .bool x.1.ag, .slice (some ⟨x.2.g1, 0, none⟩) x.2.n1 x.2.k1, .slice (some ⟨x.2.g2, 0, none⟩) 2 x.2.k2, .int .i64 x.1.nx] (by rfl) (by rfl) HT.out (by kernel_rfl) HO1.out ?_; generalize (World.setCells (wr.alloc (.cells #[.int .i64 x.1.mv, .int .i64 x.1.gn, .bool x.1.ag, .slice (some ⟨x.2.g1, 0, none⟩) x.2.n1 x.2.k1, .slice (some ⟨x.2.g2, 0, none⟩) 2 x.2.k2, .int .i64 x.1.nx] 66)) z 0 (#[.int .i64 x.1.mv, .int .i64 x.1.gn, .bool x.1.ag, .slice (some ⟨x.2.g1, 0, none⟩) x.2.n1 x.2.k1, .slice (some ⟨x.2.g2, 0, none⟩) 2 x.2.k2, .int .i64 x.1.nx] : Array Value).toList) = U6 at *))
    go_roundw
    case rel => exact ⟨k + 1, by go_num, by omega, ⟨HO6.out, by rw [HK.out]; exact HB6.out, HE6.out, Hz.out.1, Hz.out.2⟩⟩
    case measure => simp [intOf]; omega
   ·have e := Hnx.out
    rw [if_neg hg] at e
    have HK : Hid (bst x0.1 ((L.take (k + 1)).map Prod.fst) = y) := Lib.hid e
    have hd : decide (y.gn < x.1.gn) = false := by simpa using hg
    clear e Hnx HJ HN2 hg
    go_wp2_with fail
    go_roundw
    case rel => exact ⟨k + 1, by go_num, by omega, ⟨HO.out, by rw [HK.out]; exact HB.out, HE.out, Hz.out.1, Hz.out.2⟩⟩
    case measure => simp [intOf]; omega
  ·obtain rfl : k = N := by omega
   have k1 : ¬ (k : Int) < (k : Int) := by omega
   obtain ⟨zl, ⟨b, a3, n3, k3, a4, n4, k4, nx, d0, d1, d2, d3, d4, d5⟩, fr⟩ := HJ.out.bs
   have hv : gv rs = some (bst x0.1 ((L.take k).map Prod.fst)) := by
    rw [List.take_of_length_le (Nat.le_of_eq HN2), HLm.out]
    exact gv_cons HLm.out Hx0.out
   have Hv := Lib.hid hv
   generalize hy : bst x0.1 ((L.take k).map Prod.fst) = y at *
   clear hy hv HN2
   have HE := Lib.hid HJ.out.be
   clear HJ
   go_wp2_with fail
   go_quiet (fail)
   go_wp2_with fail
   go_ret3
   have v1 : gvA true rs = y.mv := by simp only [gvA, Hv.out, if_true]
   have v2 : gvB true rs = y.gn := by simp only [gvB, Hv.out, if_true]
   have v3 : gvC true rs = 0 := by simp only [gvC, Hv.out, if_true]
   rw [v1, v2, v3]
   exact ⟨rfl, by first | exact HE.out | exact below_dn HE.out _⟩
theorem specGreedy_no (p s c l : Int) (st sk re fe ag : Bool) (p1 p2 : Option Addr) (pn1 pc1 pn2 pc2 : Nat) (pp : Int) (xs ys : List Int) (w : World) (h : PosR w p1 p2 pn1 pn2 xs ys) (hk : okP (okR p s c l st ag) p pn1 pn2 pp xs ys = false) :
  Calls Try.prog 13 #[.agg #[.int .i64 p, .int .i64 s, .bool st, .bool sk, .bool re, .bool fe, .bool ag, .int .i64 c, .int .i64 l], .agg #[.slice p1 pn1 pc1, .slice p2 pn2 pc2, .int .i64 pp]] w (Tr 0 0 1 w) := by
 have HS := Lib.hid (rp_new p s c l st sk re fe ag p1 p2 pn1 pc1 pn2 pc2 pp w 30 32)
 have HC : Hid (∀ u, RpAt w p s c l st sk re fe ag p1 p2 pn1 pc1 pn2 pc2 pp u → Calls Try.prog 45 #[.pointer (some ⟨w.heap.size, 0, none⟩), .pointer (some ⟨w.heap.size + 1, 0, none⟩)] u (Still (.bool false) u)) := Lib.hid (fun u hu => l04Ok_at p s c l st sk re fe ag p1 p2 pn1 pc1 pn2 pc2 pp xs ys _ _ u hu.1 hu.2.1 (h.below hu.2.2) _ hk)
 clear h hk
 go_enter Try.func13, Try.ntmps13
 go_wp2_with fail
 refine (HC.out _ HS.out).mono ?_
 rintro e w5 ⟨rfl, m, rfl⟩
 have HS := Lib.hid (HS.out.below (below_dn (Below.refl _ _) m))
 go_wp2_with fail
 go_ret3
 exact ⟨rfl, HS.out.2.2⟩
structure GrJ (w : World) (L : List (R7 × Q7)) (g cap : Nat) (x0 : R7) (k bi : Nat) (wr : World) : Prop where
 own : wr.ownsRow w.heap.size 66 6 (.slice (some ⟨g, 0, none⟩) L.length cap) L.length (flat7 L)
 at_ : ∃ y, L[bi]? = some y ∧ y.1 = bst x0 ((L.take k).map Prod.fst)
 be : Below w.heap.size w wr
theorem GrJ.dn {w : World} {L : List (R7 × Q7)} {g cap : Nat} {x0 : R7} {k bi : Nat} {wr : World} (h : GrJ w L g cap x0 k bi wr) (m : Nat) : GrJ w L g cap x0 k bi (wr.drewN m) :=
 ⟨own_keepS h.own (below_dn (Below.refl _ _) m), h.at_, below_dn h.be m⟩
theorem specGreedy_yes (p s c l : Int) (st sk re fe ag : Bool) (p1 p2 : Option Addr) (pn1 pc1 pc2 : Nat) (pp : Int) (xs ys : List Int) (w : World) (h : PosR w p1 p2 pn1 2 xs ys) (hk : okP (okR p s c l st ag) p pn1 2 pp xs ys = true) :
  Calls Try.prog 13 #[.agg #[.int .i64 p, .int .i64 s, .bool st, .bool sk, .bool re, .bool fe, .bool ag, .int .i64 c, .int .i64 l], .agg #[.slice p1 pn1 pc1, .slice p2 2 pc2, .int .i64 pp]] w (Tr (gvA true (rsF (f7 p c l pp st sk re fe ag xs ys) p.toNat)) (gvB true (rsF (f7 p c l pp st sk re fe ag xs ys) p.toNat)) (gvC true (rsF (f7 p c l pp st sk re fe ag xs ys) p.toNat)) w) := by
 obtain ⟨q1, -⟩ := okP_parts hk
 obtain ⟨r1, r2, -⟩ := okR_bd q1
 have hlen := rsF_len (f7 p c l pp st sk re fe ag xs ys) p.toNat
 have HS := Lib.hid (rp_new p s c l st sk re fe ag p1 p2 pn1 pc1 2 pc2 pp w 30 32)
 have HK : Hid (∀ u, RpAt w p s c l st sk re fe ag p1 p2 pn1 pc1 2 pc2 pp u → Calls Try.prog 45 #[.pointer (some ⟨w.heap.size, 0, none⟩), .pointer (some ⟨w.heap.size + 1, 0, none⟩)] u (Still (.bool true) u)) := Lib.hid (fun u hu => l04Ok_at p s c l st sk re fe ag p1 p2 pn1 pc1 2 pc2 pp xs ys _ _ u hu.1 hu.2.1 (h.below hu.2.2) _ hk)
 have HC : Hid (∀ u, RpAt w p s c l st sk re fe ag p1 p2 pn1 pc1 2 pc2 pp u → Calls Try.prog 46 #[.pointer (some ⟨w.heap.size, 0, none⟩), .pointer (some ⟨w.heap.size + 1, 0, none⟩)] u (RsP (rsF (f7 p c l pp st sk re fe ag xs ys) p.toNat) u)) := Lib.hid (fun u hu => l07All_any p s c l st sk re fe ag p1 p2 pn1 pc1 2 pc2 pp xs ys _ _ u hu.1 hu.2.1 (h.below hu.2.2) hk)
 have hl8 : (rsF (f7 p c l pp st sk re fe ag xs ys) p.toNat).length ≤ 8 := by omega
 generalize (rsF (f7 p c l pp st sk re fe ag xs ys) p.toNat) = rs at *
 clear h hk q1 hlen
 go_enter Try.func13, Try.ntmps13
 go_wp2_with fail
 refine (HK.out _ HS.out).mono ?_
 rintro e w4 ⟨rfl, m, rfl⟩
 have HS := Lib.hid (HS.out.below (below_dn (Below.refl _ _) m))
 generalize (((w.alloc (.cells #[.int .i64 p, .int .i64 s, .bool st, .bool sk, .bool re, .bool fe, .bool ag, .int .i64 c, .int .i64 l] 30)).alloc (.cells #[.slice p1 pn1 pc1, .slice p2 2 pc2, .int .i64 pp] 32)).drewN m) = w4 at *
 go_wp2_with fail
 refine (HC.out _ HS.out).mono ?_
 rintro e w5 ⟨v, L, rfl, hR, hLm, hb⟩
 obtain ⟨a, cap, rfl, hsh⟩ := hR.shape
 have hLn : L.length = rs.length := by rw [← hLm, List.length_map]
 have HLm := Lib.hid hLm
 have hLk : L.length ≤ 8 := by omega
 by_cases h0 : L = []
 ·subst h0
  obtain rfl : rs = [] := by rw [← hLm]; rfl
  have HB := Lib.hid (Below.trans HS.out.2.2 (Below.mono hb HS.out.2.2.size))
  clear hb hR hLm hsh hLn HC HK HLm HS
  go_wp2_with fail
  go_ret3
  exact ⟨rfl, HB.out⟩
 obtain ⟨g, rfl⟩ := hsh h0
 obtain ⟨x0, hx0⟩ : ∃ x, L[0]? = some x := by
  cases L with
  | nil => exact absurd rfl h0
  | cons y L => exact ⟨y, rfl⟩
 have hn0 : 0 < L.length := List.length_pos_iff.2 h0
 have hJ0 : GrJ w L g cap x0.1 1 0 w5 := ⟨(hR.lower HS.out.2.2.size).own, ⟨x0, hx0, by rw [show (1 : Nat) = 0 + 1 from rfl, map_take_next hx0]; simp [bst]⟩, Below.trans HS.out.2.2 (Below.mono hb HS.out.2.2.size)⟩
 have HJ0 := Lib.hid hJ0
 have Hx0 := Lib.hid hx0
 clear hb hR hLm hsh HS HC HK hJ0 hx0 hLn
 generalize hN : L.length = N at *
 have HN := Lib.hid hN
 clear hN
 have hN0 : ((N : Int) == 0) = false := by simp; omega
 go_wp2_with fail
 go_loopw [8, 9] (fun bv i wr => ∃ k bi : Nat, i = .int .i64 k ∧ bv = .int .i64 bi ∧ 1 ≤ k ∧ k ≤ N ∧ bi < N ∧ GrJ w L g cap x0.1 k bi wr) (fun _ i _ => N - (intOf i).toNat)
 case atStart => exact ⟨1, 0, rfl, rfl, Nat.le_refl _, hn0, hn0, HJ0.out⟩
 case round =>
  obtain ⟨k, bi, rfl, rfl, hk1, hkN, hbi, hJ⟩ := hrel
  have HJ := Lib.hid hJ
  clear hJ HJ0
  have HN2 := HN.out
  obtain ⟨y, hy, hyb⟩ := HJ.out.at_
  obtain ⟨d0, d1, -, -, -, -⟩ := own7_cell6 HJ.out.own rfl hy
  have Hyb := Lib.hid hyb
  have Hy := Lib.hid hy
  have b0 : (0 : Int) ≤ (bi : Int) := by omega
  have b1 : (bi : Int) < (N : Int) := by omega
  clear hy hyb
  by_cases hlt : k < N
  ·obtain ⟨x, hx⟩ : ∃ x, L[k]? = some x := ⟨L[k]'(by rw [HN2]; exact hlt), List.getElem?_eq_getElem _⟩
   have Hx := Lib.hid hx
   obtain ⟨-, c1, -, -, -, -⟩ := own7_cell6 HJ.out.own rfl hx
   clear hx HN2
   have k0 : (0 : Int) ≤ (k : Int) := by omega
   have k1 : (k : Int) < (N : Int) := by omega
   by_cases hg : y.1.gn < x.1.gn
   ·go_wp2_with fail
    go_quiet (fail)
    go_wp2_with fail
    go_roundw
    case rel => exact ⟨k + 1, k, by go_num, rfl, by omega, by omega, by omega, (GrJ.dn ⟨HJ.out.own, ⟨x, Hx.out, by rw [map_take_next Hx.out, bst_snoc, ← Hyb.out, if_pos hg]⟩, HJ.out.be⟩ _ : GrJ w L g cap x0.1 (k + 1) k _)⟩
    case measure => simp [intOf]; omega
   ·have hd : decide (y.1.gn < x.1.gn) = false := by simpa using hg
    have Hg := Lib.hid hg
    clear hg
    go_wp2_with fail
    go_quiet (fail)
    go_wp2_with fail
    go_roundw
    case rel => exact ⟨k + 1, bi, by go_num, rfl, by omega, by omega, by omega, (GrJ.dn ⟨HJ.out.own, ⟨y, Hy.out, by rw [map_take_next Hx.out, bst_snoc, ← Hyb.out, if_neg (by first | exact Hg.out | exact Int.not_lt.2 Hg.out)]⟩, HJ.out.be⟩ _ : GrJ w L g cap x0.1 (k + 1) bi _)⟩
    case measure => simp [intOf]; omega
  ·obtain rfl : k = N := by omega
   have k1 : ¬ (k : Int) < (k : Int) := by omega
   have hv : gv rs = some y.1 := by
    rw [Hyb.out, List.take_of_length_le (Nat.le_of_eq HN2), HLm.out]
    exact gv_cons HLm.out Hx0.out
   have Hv := Lib.hid hv
   clear hv HN2
   go_wp2_with fail
   go_quiet (fail)
   go_wp2_with fail
   go_ret3
   have v1 : gvA true rs = y.1.mv := by simp only [gvA, Hv.out, if_true]
   have v2 : gvB true rs = y.1.gn := by simp only [gvB, Hv.out, if_true]
   have v3 : gvC true rs = 0 := by simp only [gvC, Hv.out, if_true]
   rw [v1, v2, v3]
   exact ⟨rfl, by first | exact HJ.out.be | exact below_dn HJ.out.be _⟩
theorem implGreedy_any (p s c l : Int) (st sk re fe ag : Bool) (p1 p2 : Option Addr) (pn1 pc1 pn2 pc2 : Nat) (pp : Int) (xs ys : List Int) (w : World) (h : PosR w p1 p2 pn1 pn2 xs ys) (hcap : pn1 ≤ pc1) (k : Bool) (hk : okP (okR p s c l st ag) p pn1 pn2 pp xs ys = k) :
  Calls Try.prog 16 #[.agg #[.int .i64 p, .int .i64 s, .bool st, .bool sk, .bool re, .bool fe, .bool ag, .int .i64 c, .int .i64 l], .agg #[.slice p1 pn1 pc1, .slice p2 pn2 pc2, .int .i64 pp]] w fun e w' => e = .returned (.tuple #[.int .i64 (gvA k (rsF (f7 p c l pp st sk re fe ag xs ys) p.toNat)), .int .i64 (gvB k (rsF (f7 p c l pp st sk re fe ag xs ys) p.toNat)), .int .i64 (gvC k (rsF (f7 p c l pp st sk re fe ag xs ys) p.toNat))]) ∧ Below w.heap.size w w' := by
 cases k with
 | false => exact implGreedy_no p s c l st sk re fe ag p1 p2 pn1 pc1 pn2 pc2 pp xs ys w h hk
 | true =>
  obtain ⟨rfl, -⟩ := pl_of_ok hk
  exact implGreedy_yes p s c l st sk re fe ag p1 p2 pn1 pc1 pc2 pp xs ys w h hcap hk
theorem specGreedy_any (p s c l : Int) (st sk re fe ag : Bool) (p1 p2 : Option Addr) (pn1 pc1 pn2 pc2 : Nat) (pp : Int) (xs ys : List Int) (w : World) (h : PosR w p1 p2 pn1 pn2 xs ys) (k : Bool) (hk : okP (okR p s c l st ag) p pn1 pn2 pp xs ys = k) :
  Calls Try.prog 13 #[.agg #[.int .i64 p, .int .i64 s, .bool st, .bool sk, .bool re, .bool fe, .bool ag, .int .i64 c, .int .i64 l], .agg #[.slice p1 pn1 pc1, .slice p2 pn2 pc2, .int .i64 pp]] w fun e w' => e = .returned (.tuple #[.int .i64 (gvA k (rsF (f7 p c l pp st sk re fe ag xs ys) p.toNat)), .int .i64 (gvB k (rsF (f7 p c l pp st sk re fe ag xs ys) p.toNat)), .int .i64 (gvC k (rsF (f7 p c l pp st sk re fe ag xs ys) p.toNat))]) ∧ Below w.heap.size w w' := by
 cases k with
 | false => exact specGreedy_no p s c l st sk re fe ag p1 p2 pn1 pc1 pn2 pc2 pp xs ys w h hk
 | true =>
  obtain ⟨rfl, -⟩ := pl_of_ok hk
  exact specGreedy_yes p s c l st sk re fe ag p1 p2 pn1 pc1 pc2 pp xs ys w h hk
/- RinP -/
def RIn (u : World) (lo hi : Nat) (a : Option Addr) (b : Nat) (L : List Int) : Prop := OutN u lo a b L ∧ (L ≠ [] → b < hi) ∧ hi ≤ u.heap.size
section
variable {u v : World} {lo hi b c d : Nat} {a : Option Addr} {L : List Int}
theorem RIn.below (h : RIn u lo hi a b L) (k : Below u.heap.size u v) : RIn v lo hi a b L := ⟨h.1.below k, h.2.1, Nat.le_trans h.2.2 k.size⟩
theorem RIn.drew (h : RIn u lo hi a b L) : RIn u.drew lo hi a b L := h.below (Below.refl _ _).drew
theorem RIn.but2 (h : RIn u lo hi a b L) (k : But2 c d u v) (hc : hi ≤ c ∨ c < lo) (hd : hi ≤ d ∨ d < lo) : RIn v lo hi a b L := by
 obtain ⟨ho, hlt, hs⟩ := h
 refine ⟨?_, hlt, Nat.le_trans hs k.size⟩
 by_cases hne : L = []
 ·subst hne
  exact ⟨rowN_nil _ _, ho.at_b, ho.new, fun h => absurd rfl h⟩
 ·have h1 := hlt hne
  have h2 := ho.new
  exact ho.but2 k (by omega) (by omega)
end
theorem rin_own {u : World} {lo n : Nat} {v : Value} {L : List Int} (h : u.ownsRow lo 2 1 v n (nvs L)) (hn : L.length = n) (hle : n ≤ 1000000) : ∃ a c b, v = .slice a n c ∧ RIn u lo u.heap.size a b L := by
 by_cases hne : L = []
 ·subst hne
  obtain ⟨_, ⟨hv, h0⟩ | ⟨g, cap, cur, hv, hb, _⟩⟩ := h
  ·subst h0
   exact ⟨none, 0, lo, hv, ⟨rowN_nil _ _, (fun _ _ e => by cases e), Nat.le_refl _, fun h => absurd rfl h⟩, (fun h => absurd rfl h), Nat.le_refl _⟩
  ·exact ⟨_, cap, g, hv, ⟨rowN_nil _ _, (fun _ _ e => by cases e; rfl), hb, fun h => absurd rfl h⟩, (fun h => absurd rfl h), Nat.le_refl _⟩
 ·obtain ⟨c, b, hv, ho, hlt, _⟩ := outN_own h hn (by omega) hne
  exact ⟨_, c, b, hv, ho, (fun _ => hlt), Nat.le_refl _⟩
def XIn (u : World) (lo x1 x2 n1 n2 : Nat) (xs ys : List Int) : Prop := PosO u lo (some ⟨x1, 0, none⟩) (some ⟨x2, 0, none⟩) x1 x2 n1 n2 xs ys
theorem XIn.below {u v : World} {lo x1 x2 n1 n2 : Nat} {xs ys : List Int} (h : XIn u lo x1 x2 n1 n2 xs ys) (k : Below u.heap.size u v) : XIn v lo x1 x2 n1 n2 xs ys := PosO.below h k
theorem XIn.drew {u : World} {lo x1 x2 n1 n2 : Nat} {xs ys : List Int} (h : XIn u lo x1 x2 n1 n2 xs ys) : XIn u.drew lo x1 x2 n1 n2 xs ys := PosO.below h (Below.refl _ _).drew
def GIn (u : World) (lo : Nat) (a : Option Addr) (b n : Nat) : Prop := OutN u lo a b (marksN 1 n)
theorem GIn.below {u v : World} {lo b n : Nat} {a : Option Addr} (h : GIn u lo a b n) (k : Below u.heap.size u v) : GIn v lo a b n := OutN.below h k
theorem GIn.drew {u : World} {lo b n : Nat} {a : Option Addr} (h : GIn u lo a b n) : GIn u.drew lo a b n := OutN.below h (Below.refl _ _).drew
end Go.Proofs.Ytdhkfkfoibddnaa
