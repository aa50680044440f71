/- Rn9, Ok8, Pl8, Pm8, Pm9, Bp8, Pl9, Rp8, Vg8, Rep8, Rep9, RpO, one after the other. No conditions. -/
import Derived.Test.YtenpnilljjfmkaaVb3
import Derived.Deep.AppendLies
import Derived.Deep.DeepCutAuto
/- Rn9 -/
namespace Go.Proofs.Ytenpnilljjfmkaa
open Go.Joins Go.ChangeShapes Go.WideShapes Go.ChangeAt Go.RowKit Go.Deep
set_option linter.unusedVariables false

/-- What l08Run has found. -/
def RunR (f : Ps → Int → Option R7) (q : Ps) (ms : List Int) (L : List (Ps × Q7)) (gs : List Int) : Prop :=
  match runO f q ms with
  | none => gs.length < ms.length
  | some rs => L.map Prod.fst = q :: rs.map R7.ps ∧ gs = rs.map R7.gn
def RunP (f : Ps → Int → Option R7) (q : Ps) (ms : List Int) (w : World) (e : Ending) (w' : World) : Prop :=
  ∃ v1 v2 L gs, e = .returned (.tuple #[v1, v2]) ∧ Rs3 w' w.heap.size v1 L ∧ w'.ownsRow w.heap.size 2 1 v2 gs.length (nvs gs) ∧ L.length = gs.length + 1 ∧ gs.length ≤ ms.length ∧ RunR f q ms L gs ∧ Below w.heap.size w w'
/-- Between two moves. -/
def RnJ (w : World) (gb nb n1 : Nat) (p s c l : Int) (st sk re fe ag : Bool) (f : Ps → Int → Option R7) (q : Ps) (ms : List Int) (k : Nat) (v1 v2 : Value) (u : World) : Prop :=
  RuAt u gb p s c l st sk re fe ag ∧ ∃ L rs h1 h2 d1 d2, RnK w nb n1 v1 v2 L (rs.map R7.gn) h1 h2 d1 d2 (lastP q rs) u ∧ runO f q (ms.take k) = some rs ∧ L.map Prod.fst = q :: rs.map R7.ps ∧ rs.length = k
theorem slice_own {u : World} {B e s n : Nat} {v : Value} {xs : List Value} (h : u.ownsRow B e s v n xs) : ∃ a c, v = .slice a n c := by
  obtain ⟨_, ⟨rfl, rfl⟩ | ⟨g, cap, cur, rfl, -⟩⟩ := h
  · exact ⟨_, _, rfl⟩
  · exact ⟨_, _, rfl⟩
theorem rnk_start {w w1 w4 : World} {n1 g1 g2 c1 c2 h1 h2 d1 d2 : Nat} {q : Ps} (T : TypeId) (hb1 : Below w.heap.size w w1) (hi : It3 w1 w.heap.size (q, ⟨g1, g2, n1, c1, c2⟩)) (X : World) (hX : X = (w1.alloc (.cells #[.slice (some ⟨g1, 0, none⟩) n1 c1, .slice (some ⟨g2, 0, none⟩) 2 c2, .int .i64 q.pl] 29)).alloc (.cells #[] 2)) (hb4 : Below X.heap.size X w4)
    (ho : PosO w4 X.heap.size (some ⟨h1, 0, none⟩) (some ⟨h2, 0, none⟩) h1 h2 n1 2 q.xs q.ys) (l1 : h1 < w4.heap.size) (l2 : h2 < w4.heap.size) (k1 : n1 ≤ d1) (k2 : 2 ≤ d2) :
    RnK w w4.heap.size n1 (.slice (some ⟨w1.heap.size, 0, none⟩) 1 1) (.slice (some ⟨w1.heap.size + 1, 0, none⟩) 0 0) [(q, ⟨g1, g2, n1, c1, c2⟩)] [] h1 h2 d1 d2 q (w4.alloc (.cells #[.slice (some ⟨h1, 0, none⟩) n1 d1, .slice (some ⟨h2, 0, none⟩) 2 d2, .int .i64 q.pl] T)) := by
  have hs : X.heap.size = w1.heap.size + 1 + 1 := by rw [hX]; simp
  have hXb : Below w1.heap.size w1 X := by rw [hX]; exact Below.alloc (al1 _ _) (by simp) _
  have hb5 : Below w1.heap.size w1 (w4.alloc (.cells #[.slice (some ⟨h1, 0, none⟩) n1 d1, .slice (some ⟨h2, 0, none⟩) 2 d2, .int .i64 q.pl] T)) := (hXb.trans (hb4.mono hXb.size)).alloc (by have := hb4.size; omega) _
  have o1 := own_one3 w1 (q, ⟨g1, g2, n1, c1, c2⟩) w.heap.size hb1.size
  have o2 := World.ownsRow_made (base := w.heap.size) (e := 2) (size := 1) (w1.alloc (.cells #[.slice (some ⟨g1, 0, none⟩) n1 c1, .slice (some ⟨g2, 0, none⟩) 2 c2, .int .i64 q.pl] 29)) #[] 0 (by have := hb1.size; simp; omega) (by decide) rfl
  rw [World.size_alloc, ← hX] at o2
  have o1' := own_keepS o1 (al1 _ (.cells #[] 2))
  rw [← hX] at o1'
  have hs4 := hb4.size
  have hm1 : g1 < w1.heap.size := hi.l1
  have hm2 : g2 < w1.heap.size := hi.l2
  have hm3 : w.heap.size ≤ g1 := hi.o.o1.new
  have hm4 : w.heap.size ≤ g2 := hi.o.o2.new
  have n1' := ho.o1.new
  have n2' := ho.o2.new
  have hz := hb1.size
  refine ⟨⟨own_keepS (own_keepS o1' hb4) (al1 _ _), fun y hy => ?_, fun y hy i hh => ?_, List.pairwise_singleton _ _⟩, own_keepS (own_keepS o2 hb4) (al1 _ _), po_new _ _ _ _ _ _ _ w4 T, fun o => by go_simp, (ho.below (al1 _ _)).lower (by omega), by simp; omega, by simp; omega, k1, k2, by omega, fun i hh => ?_, fun i j hh hj => ?_, fun j hj => ?_, fun y hy => ⟨fun j hj => ?_, ?_⟩, ⟨by omega, by omega⟩, hb1.trans (hb5.mono hz)⟩
  · rw [List.mem_singleton] at hy
    subst hy
    exact hi.below hb5
  · rw [List.mem_singleton] at hy
    subst hy
    have hi' : w1.heap.size = i := by simpa [Value.ownBlock] using hh
    simp only
    omega
  · have hi' : w1.heap.size = i := by simpa [Value.ownBlock] using hh
    omega
  · have hi' : w1.heap.size = i := by simpa [Value.ownBlock] using hh
    have hj' : w1.heap.size + 1 = j := by simpa [Value.ownBlock] using hj
    omega
  · have hj' : w1.heap.size + 1 = j := by simpa [Value.ownBlock] using hj
    omega
  · rw [List.mem_singleton] at hy
    subst hy
    have hj' : w1.heap.size + 1 = j := by simpa [Value.ownBlock] using hj
    simp only
    omega
  · rw [List.mem_singleton] at hy
    subst hy
    simp only
    omega
set_option maxHeartbeats 8000000 in
set_option maxRecDepth 100000 in
theorem l08Run_any (p s c l : Int) (st sk re fe ag : Bool) (p1 p2 : Option Addr) (pn1 pc1 pc2 : Nat) (pp : Int) (xs ys ms : List Int) (gb : Nat) (mm : Option Addr) (mn mc : Nat) (w : World) (hr : RuAt w gb p s c l st sk re fe ag) (hq : Po9 w gb p1 p2 pn1 pc1 2 pc2 pp) (h : PosR w p1 p2 pn1 2 xs ys) (hm : RowN w mm ms) (lm : ms.length = mn) (hmn : mn ≤ 1000000) (hk : OkQ p s c l st ag pn1 ⟨pp, xs, ys⟩) :
    Calls Try.prog 41 #[.pointer (some ⟨gb, 0, none⟩), .pointer (some ⟨gb, 9, none⟩), .slice mm mn mc] w (RunP (stp p c l st sk re fe ag) ⟨pp, xs, ys⟩ ms w) := by
  obtain ⟨i0, hi, hz0, hz1, hz2⟩ := info_parts infoPo
  obtain ⟨i1, hi1, hy0, hy1, hy2⟩ := info_parts infoN
  obtain ⟨okr, ok2, -, -, -⟩ := okP_parts hk.ok
  have hp2 := (okR_bd okr).1
  have ne1 : xs ≠ [] := by intro e; have h1 := hk.l1; simp only at h1; rw [e] at h1; simp at h1; omega
  have ne2 : ys ≠ [] := by intro e; have h1 := hk.l2; simp only at h1; rw [e] at h1; simp at h1
  have HQ0 := Lib.hid hq
  have HR0 := Lib.hid hr
  have H := Lib.hid h
  have HM := Lib.hid hm
  have Hlm := Lib.hid lm
  have HK := Lib.hid hk
  have NE := Lib.hid (And.intro ne1 ne2)
  clear okr ok2 hp2 ne1 ne2 hq h hm lm hk hr
  go_enter Try.func41, Try.ntmps41
  go_wp2_with fail
  refine (l04Own9_any p1 p2 pn1 pc1 2 pc2 pp xs ys gb w HQ0.out H.out NE.out.1 NE.out.2).mono ?_
  rintro e w1 ⟨g1, c1, g2, c2, rfl, ho, l1, l2, k1, k2, hb⟩
  have hb1 := Lib.hid hb
  have O1 := Lib.hid (show It3 w1 w.heap.size (⟨pp, xs, ys⟩, ⟨g1, g2, pn1, c1, c2⟩) from ⟨ho, l1, l2, k1, k2⟩)
  clear ho l1 l2 k1 k2 hb
  go_wp2_with fail
  obtain ⟨X, hX⟩ : ∃ X, X = (w1.alloc (.cells #[.slice (some ⟨g1, 0, none⟩) pn1 c1, .slice (some ⟨g2, 0, none⟩) 2 c2, .int .i64 pp] 29)).alloc (.cells #[] 2) := ⟨_, rfl⟩
  rw [← hX]
  have hbX : Below w.heap.size w X := by rw [hX]; exact hb1.out.trans ((Below.alloc (al1 _ _) (by simp) _).mono hb1.out.size)
  refine (l04Own9_any p1 p2 pn1 pc1 2 pc2 pp xs ys gb X (HQ0.out.below hbX) (H.out.below hbX) NE.out.1 NE.out.2).mono ?_
  rintro e w4 ⟨h1, d1, h2, d2, rfl, ho, l1, l2, k1, k2, hb⟩
  have HK0 := Lib.hid (rnk_start (w := w) 29 hb1.out O1.out X hX hb ho l1 l2 k1 k2)
  have HR := Lib.hid (HR0.out.below HK0.out.be)
  clear hb1 O1 hX hbX ho l1 l2 k1 k2 hb
  go_wp2_with fail
  generalize w4.alloc (.cells #[.slice (some ⟨h1, 0, none⟩) pn1 d1, .slice (some ⟨h2, 0, none⟩) 2 d2, .int .i64 pp] 29) = w5 at *
  generalize hnb : w4.heap.size = nb at *
  clear hnb
  generalize hv1 : (Value.slice (some ⟨w1.heap.size, 0, none⟩) 1 1) = v1 at *
  generalize hv2 : (Value.slice (some ⟨w1.heap.size + 1, 0, none⟩) 0 0) = v2 at *
  clear hv1 hv2
  go_loopw [8, 9, 11] (fun v1 v2 i wr => ∃ k : Nat, i = .int .i64 k ∧ k ≤ mn ∧ RnJ w gb nb pn1 p s c l st sk re fe ag (stp p c l st sk re fe ag) ⟨pp, xs, ys⟩ ms k v1 v2 wr) (fun _ _ i _ => mn - (intOf i).toNat)
  case atStart => exact ⟨0, rfl, Nat.zero_le _, HR.out, _, [], h1, h2, d1, d2, HK0.out, rfl, rfl, rfl⟩
  case round =>
    clear HK0 HR
    obtain ⟨k, rfl, hkn, hru, L, rs, h1', h2', d1', d2', hK, hrun, hmap, hlen⟩ := hrel
    have HJ := Lib.hid hK
    have HRu := Lib.hid hru
    have HRun := Lib.hid (And.intro hrun (And.intro hmap hlen))
    clear hK hru hrun hmap hlen
    by_cases hlt : k < mn
    · obtain ⟨m, hm⟩ : ∃ m, ms[k]? = some m := ⟨ms[k]'(by rw [Hlm.out]; exact hlt), List.getElem?_eq_getElem _⟩
      have hne : ms ≠ [] := by intro e; subst e; cases hm
      obtain ⟨ga, oa, hga, hgl, hca⟩ := (HM.out.below HJ.out.be).2.resolve_left hne
      have y1 := hca k _ hm
      subst hga
      have HMk := Lib.hid hm
      have k0 : (0 : Int) ≤ (k : Int) := by omega
      have kq : (k : Int) < (mn : Int) := by omega
      have hok := run_ok HK.out HRun.out.1
      have HOk := Lib.hid hok
      have hMk := l07Make_any p s c l st sk re fe ag (some ⟨h1', 0, none⟩) (some ⟨h2', 0, none⟩) pn1 d1' 2 d2' (lastP ⟨pp, xs, ys⟩ rs).pl (lastP ⟨pp, xs, ys⟩ rs).xs (lastP ⟨pp, xs, ys⟩ rs).ys gb nb m wr HRu.out HJ.out.po HJ.out.o.r true hok.ok
      have hst : stp p c l st sk re fe ag (lastP ⟨pp, xs, ys⟩ rs) m = (lgV c l p (lastP ⟨pp, xs, ys⟩ rs).pl fe (lastP ⟨pp, xs, ys⟩ rs).xs (mvV true p (lastP ⟨pp, xs, ys⟩ rs).pl st sk re (lastP ⟨pp, xs, ys⟩ rs).xs (lastP ⟨pp, xs, ys⟩ rs).ys m)).map (r7V c l p (lastP ⟨pp, xs, ys⟩ rs).pl ag (lastP ⟨pp, xs, ys⟩ rs).ys m) := rfl
      have HMM := Lib.hid hMk
      clear hm hne hgl hca hok hMk
      cases hl : lgV c l p (lastP ⟨pp, xs, ys⟩ rs).pl fe (lastP ⟨pp, xs, ys⟩ rs).xs (mvV true p (lastP ⟨pp, xs, ys⟩ rs).pl st sk re (lastP ⟨pp, xs, ys⟩ rs).xs (lastP ⟨pp, xs, ys⟩ rs).ys m) with
      | none =>
        have d := lg_none (s := s) (ag := ag) HOk.out.ok HOk.out.l1 hl
        rw [hl] at HMM hst
        have HNo := Lib.hid (runO_no HMk.out HRun.out.1 hst)
        generalize lgC c l p (lastP ⟨pp, xs, ys⟩ rs).pl fe (lastP ⟨pp, xs, ys⟩ rs).xs (mvCd true p (lastP ⟨pp, xs, ys⟩ rs).pl st sk re (lastP ⟨pp, xs, ys⟩ rs).xs (lastP ⟨pp, xs, ys⟩ rs).ys m) (mvV true p (lastP ⟨pp, xs, ys⟩ rs).pl st sk re (lastP ⟨pp, xs, ys⟩ rs).xs (lastP ⟨pp, xs, ys⟩ rs).ys m) = cd at *
        clear hl hst
        go_wp2_with fail
        refine HMM.out.mono ?_
        rintro e w6 ⟨rfl, hb⟩
        have HJ6 := Lib.hid (HJ.out.below (Below.alloc hb hb.size (.cells #[.int .i64 0, .int .i64 0, .bool false, .slice none 0 0, .slice none 0 0, .int .i64 0] 94)))
        clear hb y1
        go_wp2_with fail
        go_ret2
        have hlg : (rs.map R7.gn).length = k := by rw [List.length_map]; exact HRun.out.2.2
        have hll : L.length = k + 1 := by have := congrArg List.length HRun.out.2.1; simp [HRun.out.2.2] at this; exact this
        refine ⟨_, _, L, rs.map R7.gn, rfl, HJ6.out.rs, HJ6.out.gn, by omega, by have := Hlm.out; omega, ?_, HJ6.out.be⟩
        unfold RunR
        rw [HNo.out]
        simp only
        have := Hlm.out
        omega
      | some m7 =>
        obtain ⟨r, hr⟩ : ∃ r, r = r7V c l p (lastP ⟨pp, xs, ys⟩ rs).pl ag (lastP ⟨pp, xs, ys⟩ rs).ys m m7 := ⟨_, rfl⟩
        rw [hl] at HMM hst
        have hc0 := (lg_some (cd := mvCd true p (lastP ⟨pp, xs, ys⟩ rs).pl st sk re (lastP ⟨pp, xs, ys⟩ rs).xs (lastP ⟨pp, xs, ys⟩ rs).ys m) hl).2
        rw [hc0] at HMM
        have HYes := Lib.hid (runO_yes HMk.out HRun.out.1 (hst.trans (congrArg some hr.symm)))
        have HMM2 : Hid (Calls Try.prog 60 #[.pointer (some ⟨gb, 0, none⟩), .pointer (some ⟨nb, 0, none⟩), .int .i64 m] wr fun e w' => ∃ g1 k1 g2 k2, e = .returned (.tuple #[.agg #[.int .i64 r.mv, .int .i64 r.gn, .bool r.ag, .slice (some ⟨g1, 0, none⟩) pn1 k1, .slice (some ⟨g2, 0, none⟩) 2 k2, .int .i64 r.nx], .int .i64 0]) ∧ PosO w' wr.heap.size (some ⟨g1, 0, none⟩) (some ⟨g2, 0, none⟩) g1 g2 pn1 2 r.xs r.ys ∧ g1 < w'.heap.size ∧ g2 < w'.heap.size ∧ pn1 ≤ k1 ∧ 2 ≤ k2 ∧ Below wr.heap.size wr w') := Lib.hid (by rw [hr]; exact HMM.out)
        have HOr := Lib.hid (stp_ok HOk.out (hst.trans (congrArg some hr.symm)))
        clear hl hst hc0 HMM hr
        have hrne1 : r.xs ≠ [] := by intro e; have h3 := HOr.out.l1; have h4 := HK.out.l1; have h5 := NE.out.1; unfold R7.ps at h3; simp only at h3 h4; rw [e] at h3; simp at h3; exact h5 (List.eq_nil_of_length_eq_zero (by omega))
        have hrne2 : r.ys ≠ [] := by intro e; have h3 := HOr.out.l2; unfold R7.ps at h3; simp only at h3; rw [e] at h3; simp at h3
        have HNE := Lib.hid (And.intro hrne1 hrne2)
        clear hrne1 hrne2
        go_wp2_with fail
        refine HMM2.out.mono ?_
        rintro e w6 ⟨g5, c5, g6, c6, rfl, ho, l5, l6, k5, k6, hb⟩
        have hsz := hb.size
        have hnbl : nb < wr.heap.size := HJ.out.po.1
        have HNow0 := (HJ.out.below hb).now (H0 := wr.heap.size) (q' := r.ps) HJ.out.be.size (fun i hi => (own_lt HJ.out.rs.own i hi).2) (fun i hi => (own_lt HJ.out.gn i hi).2) hnbl ho l5 l6 k5 k6
        have HNow : Hid (RnK w nb pn1 u8 u9 L (rs.map R7.gn) g5 g6 c5 c6 r.ps ((((w6.setCell ⟨nb, 0, none⟩ (.slice (some ⟨g5, 0, none⟩) pn1 c5)).setCell ⟨nb, 1, none⟩ (.slice (some ⟨g6, 0, none⟩) 2 c6)).setCell ⟨nb, 2, none⟩ (.int .i64 r.nx)).alloc (.cells #[.int .i64 r.mv, .int .i64 r.gn, .bool r.ag, .slice (some ⟨g5, 0, none⟩) pn1 c5, .slice (some ⟨g6, 0, none⟩) 2 c6, .int .i64 r.nx] 94))) := Lib.hid (HNow0.below (al1 _ (.cells #[.int .i64 r.mv, .int .i64 r.gn, .bool r.ag, .slice (some ⟨g5, 0, none⟩) pn1 c5, .slice (some ⟨g6, 0, none⟩) 2 c6, .int .i64 r.nx] 94)))
        have HRu6 := Lib.hid (HRu.out.below (Below.alloc hb hb.size (.cells #[.int .i64 r.mv, .int .i64 r.gn, .bool r.ag, .slice (some ⟨g5, 0, none⟩) pn1 c5, .slice (some ⟨g6, 0, none⟩) 2 c6, .int .i64 r.nx] 94)))
        obtain ⟨-, z0, z1, z2⟩ := HJ.out.po.below hb
        have f0 := (hb.frozen (p := ⟨nb, 0, none⟩) hnbl).trans (HJ.out.fr 0)
        have f1 := (hb.frozen (p := ⟨nb, 1, none⟩) hnbl).trans (HJ.out.fr 1)
        have f2 := (hb.frozen (p := ⟨nb, 2, none⟩) hnbl).trans (HJ.out.fr 2)
        have nb6 : nb < w6.heap.size := by omega
        clear ho l5 l6 k5 k6 hb HNow0 y1
        go_wp2_with fail
        have hgc : (((((w6.setCell ⟨nb, 0, none⟩ (.slice (some ⟨g5, 0, none⟩) pn1 c5)).setCell ⟨nb, 1, none⟩ (.slice (some ⟨g6, 0, none⟩) 2 c6)).setCell ⟨nb, 2, none⟩ (.int .i64 r.nx)).alloc (.cells #[.int .i64 r.mv, .int .i64 r.gn, .bool r.ag, .slice (some ⟨g5, 0, none⟩) pn1 c5, .slice (some ⟨g6, 0, none⟩) 2 c6, .int .i64 r.nx] 94)).cell? ⟨w6.heap.size, 1, none⟩ = some (.int .i64 r.gn)) := by go_simp
        have hW : (((((w6.setCell ⟨nb, 0, none⟩ (.slice (some ⟨g5, 0, none⟩) pn1 c5)).setCell ⟨nb, 1, none⟩ (.slice (some ⟨g6, 0, none⟩) 2 c6)).setCell ⟨nb, 2, none⟩ (.int .i64 r.nx)).alloc (.cells #[.int .i64 r.mv, .int .i64 r.gn, .bool r.ag, .slice (some ⟨g5, 0, none⟩) pn1 c5, .slice (some ⟨g6, 0, none⟩) 2 c6, .int .i64 r.nx] 94)).heap.size) = w6.heap.size + 1 := by simp
        generalize hW' : ((((w6.setCell ⟨nb, 0, none⟩ (.slice (some ⟨g5, 0, none⟩) pn1 c5)).setCell ⟨nb, 1, none⟩ (.slice (some ⟨g6, 0, none⟩) 2 c6)).setCell ⟨nb, 2, none⟩ (.int .i64 r.nx)).alloc (.cells #[.int .i64 r.mv, .int .i64 r.gn, .bool r.ag, .slice (some ⟨g5, 0, none⟩) pn1 c5, .slice (some ⟨g6, 0, none⟩) 2 c6, .int .i64 r.nx] 94)) = W6 at *
        have Hgc := Lib.hid (And.intro hgc (show w6.heap.size < W6.heap.size by omega))
        clear hW' hW hgc z0 z1 z2 f0 f1 f2
        refine (l04Own_any (some ⟨g5, 0, none⟩) (some ⟨g6, 0, none⟩) pn1 c5 2 c6 r.nx r.xs r.ys nb W6 HNow.out.po HNow.out.o.r HNE.out.1 HNE.out.2).mono ?_
        rintro e w7 ⟨g3, c3, g4, c4, rfl, ho, l3, l4, k3, k4, hb⟩
        have HIt := Lib.hid (show It3 w7 w.heap.size (r.ps, ⟨g3, g4, pn1, c3, c4⟩) from ⟨ho.lower HNow.out.be.size, l3, l4, k3, k4⟩)
        have hx3 := ho.o1.new
        have hx4 := ho.o2.new
        have HN7 := Lib.hid (HNow.out.below hb)
        have Hg7 := Lib.hid ((hb.cell (p := ⟨w6.heap.size, 1, none⟩) Hgc.out.2).trans Hgc.out.1)
        have hs7 := hb.size
        have hl6 := Hgc.out.2
        have hln : L.length = k + 1 := by have := congrArg List.length HRun.out.2.1; simp [HRun.out.2.2] at this; exact this
        have Hln := Lib.hid hln
        have hlg : (rs.map R7.gn).length = k := by rw [List.length_map]; exact HRun.out.2.2
        have Hlg := Lib.hid hlg
        have hbase7 := HN7.out.be.size
        clear ho l3 l4 k3 k4 hb hln hlg
        go_upto_region 12 with (at_builtin; refine wpList_append_lies _ rfl _ _ 68 rfl w.heap.size 29 i0 (.agg #[.slice none 0 0, .slice none 0 0, .int .i64 0]) 3 56 Try.underlying68 hi hz0 hz1 hz2 rfl (by decide) u8 L.length (flat3 L) rfl (own_keepS HN7.out.rs.own (al1 _ _)) ⟨w7.heap.size, 0, none⟩ 1 1 (cells3 (r.ps, ⟨g3, g4, pn1, c3, c4⟩)) rfl rfl (cells3_news w7 29 (r.ps, ⟨g3, g4, pn1, c3, c4⟩) w7.heap.size rfl) (cells3_one _) (by decide) (by have := Hln.out; unfold maxLen; omega) (by have := Hln.out; omega) (by simp; omega) _ rfl ?_; intro g cap w8 hown8 hgrow8 hat8 hlt8)
        have HN8 := Lib.hid (HN7.out.push1 (H0 := W6.heap.size) HIt.out (fun y hy => ⟨(HNow.out.rs.it y hy).l1, (HNow.out.rs.it y hy).l2⟩) (fun i hi => (own_lt HNow.out.rs.own i hi).2) (fun i hi => (own_lt HNow.out.gn i hi).2) HNow.out.po.1 hx3 hx4 (al1 w7 _) hown8 hgrow8 (by simpa using hat8))
        have hg8 : w8.cell? ⟨w6.heap.size, 1, none⟩ = some (.int .i64 r.gn) := (World.cell?_of_block (a := ⟨w6.heap.size, 1, none⟩) (hgrow8.block w6.heap.size (by simp; omega) (fun e => by have := (own_lt HJ.out.rs.own _ e.symm).2; omega))).trans (((al1 w7 _).cell (p := ⟨w6.heap.size, 1, none⟩) (by show w6.heap.size < w7.heap.size; omega)).trans Hg7.out)
        have hbase8 := HN8.out.be.size
        clear hown8 hgrow8 hat8 hlt8 HN7 HNow
        go_wp2_with (at_builtin; refine wpList_append_lies _ rfl _ _ 24 rfl w.heap.size 2 i1 (.int .i64 0) 1 8 Try.underlying24 hi1 hy0 hy1 hy2 rfl (by decide) u9 (rs.map R7.gn).length (nvs (rs.map R7.gn)) rfl (own_keepS HN8.out.gn (al1 _ _)) ⟨w8.heap.size, 0, none⟩ 1 1 (nvs [r.gn]) rfl (by simp [nvs]) (row_news (row_oneL w8 r.gn 2)) (nvs_cell _) (by decide) (by have := Hlg.out; unfold maxLen; omega) (by have := Hlg.out; omega) (by simp; omega) _ rfl ?_; intro g' cap' w9 hown9 hgrow9 hat9 hlt9)
        have HN9 := Lib.hid ((HN8.out.below (al1 w8 _)).push2 hown9 hgrow9 (by simpa using hat9))
        clear hown9 hgrow9 hat9 hlt9 HN8 hg8
        go_wp2_with fail
        go_roundw
        case rel =>
          refine ⟨k + 1, by go_num, by omega, HR0.out.below HN9.out.be, L ++ [(r.ps, ⟨g3, g4, pn1, c3, c4⟩)], rs ++ [r], g5, g6, c5, c6, ?_, HYes.out, ?_, ?_⟩
          · rw [List.map_append, lastP_snoc]
            have e := HN9.out
            rw [List.length_map] at e
            exact e
          · rw [List.map_append, HRun.out.2.1]
            simp
          · rw [List.length_append, HRun.out.2.2]
            rfl
        case measure => simp [intOf]; omega
    · obtain rfl : k = mn := by omega
      go_wp2_with fail
      go_ret2
      have hlg : (rs.map R7.gn).length = k := by rw [List.length_map]; exact HRun.out.2.2
      have hll : L.length = k + 1 := by have := congrArg List.length HRun.out.2.1; simp [HRun.out.2.2] at this; exact this
      refine ⟨_, _, L, rs.map R7.gn, rfl, HJ.out.rs, HJ.out.gn, by omega, by have := Hlm.out; omega, ?_, HJ.out.be⟩
      unfold RunR
      have hrun := HRun.out.1
      rw [List.take_of_length_le (Nat.le_of_eq Hlm.out)] at hrun
      rw [hrun]
      exact ⟨HRun.out.2.1, rfl⟩
end Go.Proofs.Ytenpnilljjfmkaa

/- Ok8 -/
namespace Go.Proofs.Ytenpnilljjfmkaa
open Go.Joins Go.ChangeShapes Go.WideShapes Go.ChangeAt Go.RowKit Go.Deep
set_option linter.unusedVariables false

/-- Whether the moves of a game can be played and lead to its position of now. -/
def runB (f : Ps → Int → Option R7) (q : Ps) (ms : List Int) (bp : Int) (nx ny : List Int) : Bool :=
  match runO f q ms with
  | none => false
  | some rs => sameB (lastP q rs).xs nx (lastP q rs).ys ny (lastP q rs).pl bp
/-- Whether a game is valid. -/
def okG (p s c l : Int) (st sk re fe ag : Bool) (n1 n2 : Nat) (pp : Int) (xs ys ms : List Int) (bp : Int) (nx ny : List Int) (rg : Int) : Bool :=
  okP (okR p s c l st ag) p n1 n2 pp xs ys && decide (ms.length ≤ 120) && (decide (-1 ≤ rg) && decide (rg ≤ 1)) && runB (stp p c l st sk re fe ag) ⟨pp, xs, ys⟩ ms bp nx ny
theorem last_at (q : Ps) : ∀ (rs : List R7), (q :: rs.map R7.ps)[rs.length]? = some (lastP q rs)
  | [] => rfl
  | r :: rs => by
    have := last_at r.ps rs
    simpa [lastP] using this
def BelP (v : Value) (w : World) (e : Ending) (w' : World) : Prop := e = .returned v ∧ Below w.heap.size w w'
/-- A game in a block, and nothing of w turned. -/
def GmB (w : World) (gb : Nat) (ggp ggs ggc ggl : Int) (ggst ggsk ggre ggfe ggag : Bool) (gga1 gga2 : Option Addr) (ggan1 ggac1 ggan2 ggac2 : Nat) (ggap : Int) (ggm : Option Addr) (ggmn ggmc : Nat) (ggb1 ggb2 : Option Addr) (ggbn1 ggbc1 ggbn2 ggbc2 : Nat) (ggbp ggrg : Int) (u : World) : Prop := GmAt u gb ggp ggs ggc ggl ggst ggsk ggre ggfe ggag gga1 gga2 ggan1 ggac1 ggan2 ggac2 ggap ggm ggmn ggmc ggb1 ggb2 ggbn1 ggbc1 ggbn2 ggbc2 ggbp ggrg ∧ Below w.heap.size w u
theorem GmB.below {w u v : World} {gb : Nat} {ggp ggs ggc ggl : Int} {ggst ggsk ggre ggfe ggag : Bool} {gga1 gga2 : Option Addr} {ggan1 ggac1 ggan2 ggac2 : Nat} {ggap : Int} {ggm : Option Addr} {ggmn ggmc : Nat} {ggb1 ggb2 : Option Addr} {ggbn1 ggbc1 ggbn2 ggbc2 : Nat} {ggbp ggrg : Int} (h : GmB w gb ggp ggs ggc ggl ggst ggsk ggre ggfe ggag gga1 gga2 ggan1 ggac1 ggan2 ggac2 ggap ggm ggmn ggmc ggb1 ggb2 ggbn1 ggbc1 ggbn2 ggbc2 ggbp ggrg u) (k : Below u.heap.size u v) : GmB w gb ggp ggs ggc ggl ggst ggsk ggre ggfe ggag gga1 gga2 ggan1 ggac1 ggan2 ggac2 ggap ggm ggmn ggmc ggb1 ggb2 ggbn1 ggbc1 ggbn2 ggbc2 ggbp ggrg v := ⟨h.1.below k, h.2.trans (k.mono h.2.size)⟩
theorem GmB.drew {w u : World} {gb : Nat} {ggp ggs ggc ggl : Int} {ggst ggsk ggre ggfe ggag : Bool} {gga1 gga2 : Option Addr} {ggan1 ggac1 ggan2 ggac2 : Nat} {ggap : Int} {ggm : Option Addr} {ggmn ggmc : Nat} {ggb1 ggb2 : Option Addr} {ggbn1 ggbc1 ggbn2 ggbc2 : Nat} {ggbp ggrg : Int} (h : GmB w gb ggp ggs ggc ggl ggst ggsk ggre ggfe ggag gga1 gga2 ggan1 ggac1 ggan2 ggac2 ggap ggm ggmn ggmc ggb1 ggb2 ggbn1 ggbc1 ggbn2 ggbc2 ggbp ggrg u) : GmB w gb ggp ggs ggc ggl ggst ggsk ggre ggfe ggag gga1 gga2 ggan1 ggac1 ggan2 ggac2 ggap ggm ggmn ggmc ggb1 ggb2 ggbn1 ggbc1 ggbn2 ggbc2 ggbp ggrg u.drew := h.below (Below.refl _ _).drew
theorem slice_some {u : World} {B e s n : Nat} {v : Value} {xs : List Value} (h : u.ownsRow B e s v n xs) (hn : 0 < n) : ∃ g c, v = .slice (some ⟨g, 0, none⟩) n c := by
  obtain ⟨_, ⟨rfl, rfl⟩ | ⟨g, cap, cur, rfl, -⟩⟩ := h
  · omega
  · exact ⟨_, _, rfl⟩
theorem gm_mv {w u : World} {gb : Nat} {ggp ggs ggc ggl : Int} {ggst ggsk ggre ggfe ggag : Bool} {gga1 gga2 : Option Addr} {ggan1 ggac1 ggan2 ggac2 : Nat} {ggap : Int} {ggm : Option Addr} {ggmn ggmc : Nat} {ggb1 ggb2 : Option Addr} {ggbn1 ggbc1 ggbn2 ggbc2 : Nat} {ggbp ggrg : Int} (h : GmB w gb ggp ggs ggc ggl ggst ggsk ggre ggfe ggag gga1 gga2 ggan1 ggac1 ggan2 ggac2 ggap ggm ggmn ggmc ggb1 ggb2 ggbn1 ggbc1 ggbn2 ggbc2 ggbp ggrg u) : (gb < u.heap.size ∧ u.cell? ⟨gb, 12, none⟩ = some (.slice ggm ggmn ggmc)) ∧ Below w.heap.size w u := ⟨⟨h.1.1, h.1.2.2.2.2.2.2.2.2.2.2.2.2.2.1⟩, h.2⟩
set_option maxHeartbeats 4000000 in
set_option maxRecDepth 100000 in
theorem l08Ok_any (ggp ggs ggc ggl : Int) (ggst ggsk ggre ggfe ggag : Bool) (gga1 gga2 : Option Addr) (ggan1 ggac1 ggan2 ggac2 : Nat) (ggap : Int) (ggm : Option Addr) (ggmn ggmc : Nat) (ggb1 ggb2 : Option Addr) (ggbn1 ggbc1 ggbn2 ggbc2 : Nat) (ggbp ggrg : Int) (sx sy ms nx ny : List Int) (gb : Nat) (w : World) (hg : GmAt w gb ggp ggs ggc ggl ggst ggsk ggre ggfe ggag gga1 gga2 ggan1 ggac1 ggan2 ggac2 ggap ggm ggmn ggmc ggb1 ggb2 ggbn1 ggbc1 ggbn2 ggbc2 ggbp ggrg) (h : GamR w gga1 gga2 ggan1 ggan2 ggm ggmn ggb1 ggb2 ggbn1 ggbn2 sx sy ms nx ny) :
    Calls Try.prog 39 #[.pointer (some ⟨gb, 0, none⟩)] w (BelP (.bool (okG ggp ggs ggc ggl ggst ggsk ggre ggfe ggag ggan1 ggan2 ggap sx sy ms ggbp nx ny ggrg)) w) := by
  obtain ⟨_, m0, m1, m2, m3, m4, m5, m6, m7, m8, m9, m10, m11, m12, m13, m14, m15, m16⟩ := hg
  have hlm := h.lm
  have hmx : ggmn ≤ 1000000000000 := by rw [← h.lm]; exact h.m.1
  rcases hk : okP (okR ggp ggs ggc ggl ggst ggag) ggp ggan1 ggan2 ggap sx sy with _ | _
  · have HO : Hid (∀ q, Calls Try.prog 32 #[.pointer (some ⟨gb, 0, none⟩), .pointer (some ⟨gb, 9, none⟩)] (w.drewN q) (Still (.bool false) (w.drewN q))) := Lib.hid (fun q => by
      have k := fun o => Below.cell (below_dn (Below.refl w.heap.size w) q) (p := ⟨gb, o, none⟩) (by assumption)
      have := l04Ok9_any ggp ggs ggc ggl ggst ggsk ggre ggfe ggag gga1 gga2 ggan1 ggac1 ggan2 ggac2 ggap sx sy gb gb (w.drewN q) ((k _).trans m0) ((k _).trans m1) ((k _).trans m2) ((k _).trans m3) ((k _).trans m4) ((k _).trans m5) ((k _).trans m6) ((k _).trans m7) ((k _).trans m8) ((k _).trans m9) ((k _).trans m10) ((k _).trans m11) (h.s.drewN q)
      rwa [hk] at this)
    have e : okG ggp ggs ggc ggl ggst ggsk ggre ggfe ggag ggan1 ggan2 ggap sx sy ms ggbp nx ny ggrg = false := by unfold okG; rw [hk]; rfl
    rw [e]
    clear e hk hlm hmx h
    go_enter Try.func39, Try.ntmps39
    go_wp2_with fail
    go_quiet ((go_at_call 32; with_reducible exact quiet_s (HO.out _) ⟨_, rfl⟩))
    go_wp2_with fail
    go_ret
    exact ⟨rfl, by first | exact Below.refl _ _ | exact below_dn (Below.refl _ _) _⟩
  · have HO : Hid (∀ q, Calls Try.prog 32 #[.pointer (some ⟨gb, 0, none⟩), .pointer (some ⟨gb, 9, none⟩)] (w.drewN q) (Still (.bool true) (w.drewN q))) := Lib.hid (fun q => by
      have k := fun o => Below.cell (below_dn (Below.refl w.heap.size w) q) (p := ⟨gb, o, none⟩) (by assumption)
      have := l04Ok9_any ggp ggs ggc ggl ggst ggsk ggre ggfe ggag gga1 gga2 ggan1 ggac1 ggan2 ggac2 ggap sx sy gb gb (w.drewN q) ((k _).trans m0) ((k _).trans m1) ((k _).trans m2) ((k _).trans m3) ((k _).trans m4) ((k _).trans m5) ((k _).trans m6) ((k _).trans m7) ((k _).trans m8) ((k _).trans m9) ((k _).trans m10) ((k _).trans m11) (h.s.drewN q)
      rwa [hk] at this)
    have Hlm := Lib.hid hlm
    clear hlm
    by_cases hbig : 120 < (ggmn : Int)
    · have e : okG ggp ggs ggc ggl ggst ggsk ggre ggfe ggag ggan1 ggan2 ggap sx sy ms ggbp nx ny ggrg = false := by unfold okG; rw [hk, decide_eq_false (show ¬ ms.length ≤ 120 by have := Hlm.out; omega)]; rfl
      rw [e]
      clear e hk hmx h
      go_enter Try.func39, Try.ntmps39
      go_wp2_with fail
      go_quiet ((go_at_call 32; with_reducible exact quiet_s (HO.out _) ⟨_, rfl⟩))
      go_wp2_with fail
      go_ret
      exact ⟨rfl, by first | exact Below.refl _ _ | exact below_dn (Below.refl _ _) _⟩
    · rcases hrg : (decide (-1 ≤ ggrg) && decide (ggrg ≤ 1)) with _ | _
      · have e : okG ggp ggs ggc ggl ggst ggsk ggre ggfe ggag ggan1 ggan2 ggap sx sy ms ggbp nx ny ggrg = false := by unfold okG; rw [hrg]; simp
        rw [e]
        have Hrg := Lib.hid hrg
        clear e hk hmx h hrg
        go_enter Try.func39, Try.ntmps39
        go_wp2_with fail
        go_quiet ((first | (go_at_call 32; with_reducible exact quiet_s (HO.out _) ⟨_, rfl⟩) | (go_at_call 48; with_reducible exact quiet_w (in_b _ _ _ _ Hrg.out _) ⟨_, rfl⟩)))
        go_wp2_with fail
        go_ret
        exact ⟨rfl, by first | exact Below.refl _ _ | exact below_dn (Below.refl _ _) _⟩
      · have e : okG ggp ggs ggc ggl ggst ggsk ggre ggfe ggag ggan1 ggan2 ggap sx sy ms ggbp nx ny ggrg = runB (stp ggp ggc ggl ggst ggsk ggre ggfe ggag) ⟨ggap, sx, sy⟩ ms ggbp nx ny := by unfold okG; rw [hk, hrg, decide_eq_true (show ms.length ≤ 120 by have := Hlm.out; omega)]; simp
        rw [e]
        obtain ⟨-, -, e2, -, -⟩ := okP_parts hk
        subst e2
        have HG := Lib.hid (show GmAt w gb ggp ggs ggc ggl ggst ggsk ggre ggfe ggag gga1 gga2 ggan1 ggac1 2 ggac2 ggap ggm ggmn ggmc ggb1 ggb2 ggbn1 ggbc1 ggbn2 ggbc2 ggbp ggrg from ⟨by assumption, m0, m1, m2, m3, m4, m5, m6, m7, m8, m9, m10, m11, m12, m13, m14, m15, m16⟩)
        have HOk := Lib.hid (show OkQ ggp ggs ggc ggl ggst ggag ggan1 ⟨ggap, sx, sy⟩ from ⟨hk, h.s.l1, h.s.l2⟩)
        have H := Lib.hid h
        have Hrg := Lib.hid hrg
        clear e hk h hrg
        go_enter Try.func39, Try.ntmps39
        go_wp2_with fail
        go_quiet ((first | (go_at_call 32; with_reducible exact quiet_s (HO.out _) ⟨_, rfl⟩) | (go_at_call 48; with_reducible exact quiet_w (in_b _ _ _ _ Hrg.out _) ⟨_, rfl⟩)))
        go_upto_region 3 with fail
        have HS := Lib.hid (show GmB w gb ggp ggs ggc ggl ggst ggsk ggre ggfe ggag gga1 gga2 ggan1 ggac1 2 ggac2 ggap ggm ggmn ggmc ggb1 ggb2 ggbn1 ggbc1 ggbn2 ggbc2 ggbp ggrg (w.drewN nq) from ⟨HG.out.below (below_dn (Below.refl _ _) nq), below_dn (Below.refl _ _) nq⟩)
        generalize w.drewN nq = wq at *
        have HRn : Hid (∀ u, GmB w gb ggp ggs ggc ggl ggst ggsk ggre ggfe ggag gga1 gga2 ggan1 ggac1 2 ggac2 ggap ggm ggmn ggmc ggb1 ggb2 ggbn1 ggbc1 ggbn2 ggbc2 ggbp ggrg u → Calls Try.prog 41 #[.pointer (some ⟨gb, 0, none⟩), .pointer (some ⟨gb, 9, none⟩), .slice ggm ggmn ggmc] u (RunP (stp ggp ggc ggl ggst ggsk ggre ggfe ggag) ⟨ggap, sx, sy⟩ ms u)) := Lib.hid (fun u hu => l08Run_any ggp ggs ggc ggl ggst ggsk ggre ggfe ggag gga1 gga2 ggan1 ggac1 ggac2 ggap sx sy ms gb ggm ggmn ggmc u hu.1.ru hu.1.p9 (H.out.s.below hu.2) (H.out.m.below hu.2) Hlm.out (by omega) HOk.out)
        have HTT : Hid (∀ u : World, GmB w gb ggp ggs ggc ggl ggst ggsk ggre ggfe ggag gga1 gga2 ggan1 ggac1 2 ggac2 ggap ggm ggmn ggmc ggb1 ggb2 ggbn1 ggbc1 ggbn2 ggbc2 ggbp ggrg u → (gb < u.heap.size ∧ u.cell? ⟨gb, 12, none⟩ = some (.slice ggm ggmn ggmc)) ∧ Below w.heap.size w u) := Lib.hid (fun u h => gm_mv h)
        clear m0 m1 m2 m3 m4 m5 m6 m7 m8 m9 m10 m11 m12 m13 m14 m15 m16
        go_region_held3 (fun u => (gb < u.heap.size ∧ u.cell? ⟨gb, 12, none⟩ = some (.slice ggm ggmn ggmc)) ∧ Below w.heap.size w u) (first | with_reducible exact HTT.out _ HS.out | with_reducible exact HTT.out _ HS.out.drew)
          ((go_at_call 41; (with_reducible refine (HRn.out _ ?_).mono ?_); (first | with_reducible exact HS.out | with_reducible exact HS.out.drew); rintro e w6 ⟨v1, v2, L, gs, rfl, hL, hgn, hll, hle, hR, hb⟩; (first | with_reducible have HS := Lib.hid (HS.out.below hb) | with_reducible have HS := Lib.hid (HS.out.drew.below hb)); have HL := Lib.hid hL; have Hgn := Lib.hid hgn; have HR := Lib.hid (And.intro hR (And.intro hll hle)); clear hL hgn hR hb hll hle))
        obtain ⟨a2, c2, rfl⟩ := slice_own Hgn.out
        obtain ⟨g1, cp1, rfl⟩ := slice_some HL.out.own (by have := HR.out.2.1; omega)
        obtain ⟨hR, hll, hle⟩ := HR.out
        obtain ⟨hgb, m0, m1, m2, m3, m4, m5, m6, m7, m8, m9, m10, m11, m12, m13, m14, m15, m16⟩ := HS.out.1
        unfold RunR at hR
        cases hro : runO (stp ggp ggc ggl ggst ggsk ggre ggfe ggag) ⟨ggap, sx, sy⟩ ms with
        | none =>
          rw [hro] at hR
          have HRb : Hid (runB (stp ggp ggc ggl ggst ggsk ggre ggfe ggag) ⟨ggap, sx, sy⟩ ms ggbp nx ny = false) := Lib.hid (by unfold runB; rw [hro])
          have d : ((gs.length : Int) == (ggmn : Int)) = false := by
            have := Hlm.out
            simp only at hR
            simp
            omega
          have d2 : ¬ gs.length = ggmn := by
            have := Hlm.out
            simp only at hR
            omega
          have d3 : (gs.length == ggmn) = false := by simpa using d2
          generalize gs.length = n2 at *
          clear hR hll hle hro
          go_wp2_with fail
          go_quiet (fail)
          go_wp2_with fail
          go_ret
          rw [HRb.out]
          exact ⟨rfl, by first | exact HS.out.2 | exact below_dn HS.out.2 _⟩
        | some rs =>
          rw [hro] at hR
          obtain ⟨hR1, hR2⟩ := hR
          have hrl := runO_len hro
          have hgl : gs.length = ggmn := by rw [hR2, List.length_map, hrl]; exact Hlm.out
          obtain ⟨x, hx⟩ : ∃ x, L[ggmn]? = some x := ⟨L[ggmn]'(by omega), List.getElem?_eq_getElem _⟩
          have hxl : x.1 = lastP ⟨ggap, sx, sy⟩ rs := by
            have h1 := last_at ⟨ggap, sx, sy⟩ rs
            rw [← hR1, hrl, Hlm.out, List.getElem?_map, hx] at h1
            simpa using h1
          have HC := Lib.hid (fun o (ho : o < 3) => HL.out.cell hx ho)
          have HI := Lib.hid (HL.out.it x (List.mem_of_getElem? hx))
          have HRb : Hid (runB (stp ggp ggc ggl ggst ggsk ggre ggfe ggag) ⟨ggap, sx, sy⟩ ms ggbp nx ny = sameB x.1.xs nx x.1.ys ny x.1.pl ggbp) := Lib.hid (by unfold runB; rw [hro, hxl])
          rw [show L.length = ggmn + 1 by omega, hgl]
          clear hll hle hro hR1 hR2 hrl hgl hx hxl
          have HSm : Hid (∀ q o, o = ggmn * 3 → Calls Try.prog 56 #[.pointer (some ⟨g1, o, none⟩), .pointer (some ⟨gb, 13, none⟩)] (w6.drewN q) (Still (.bool (sameB x.1.xs nx x.1.ys ny x.1.pl ggbp)) (w6.drewN q))) := Lib.hid (fun q o ho => by
            subst ho
            have hgl : g1 < w6.heap.size := (own_lt HL.out.own g1 rfl).2
            have kb := below_dn (Below.refl w6.heap.size w6) q
            exact l04SameO_any (some ⟨x.2.g1, 0, none⟩) (some ⟨x.2.g2, 0, none⟩) x.2.n1 x.2.k1 2 x.2.k2 x.1.pl ggb1 ggb2 ggbn1 ggbc1 ggbn2 ggbc2 ggbp x.1.xs x.1.ys nx ny g1 (ggmn * 3) gb (w6.drewN q) (PoO.below (v := w6.drewN q) (u := w6) ⟨hgl, HC.out 0 (by omega), HC.out 1 (by omega), HC.out 2 (by omega)⟩ kb) (HS.out.below kb).1.s13 (HI.out.o.r.drewN q) ((H.out.n.below HS.out.2).drewN q))
          have q1 : (ggmn : Int) < ((ggmn + 1 : Nat) : Int) := by omega
          go_wp2_with fail
          go_quiet ((go_at_call 56; exact quiet_s (HSm.out _ _ (by simp)) ⟨_, rfl⟩))
          go_wp2_with fail
          go_ret
          rw [HRb.out]
          exact ⟨rfl, by first | exact HS.out.2 | exact below_dn HS.out.2 _⟩
end Go.Proofs.Ytenpnilljjfmkaa

/- Pl8 -/
namespace Go.Proofs.Ytenpnilljjfmkaa
open Go.Joins Go.ChangeShapes Go.WideShapes Go.ChangeAt Go.RowKit Go.Deep
set_option linter.unusedVariables false

/-- A turn as numbers: the position before, what was sown, what came of it. -/
structure T21 where
  q : Ps
  m : Res
  r : R7
/-- Where the rows of a turn lie. -/
structure Q21 where
  a1 : Nat
  a2 : Nat
  ca1 : Nat
  ca2 : Nat
  s1 : Option Addr
  s2 : Option Addr
  sc1 : Nat
  sc2 : Nat
  g1 : Nat
  g2 : Nat
  k1 : Nat
  k2 : Nat
def cells21 (p s c l : Int) (st sk re fe ag : Bool) (n1 : Nat) (x : T21 × Q21) : List Value := [.int .i64 p, .int .i64 s, .bool st, .bool sk, .bool re, .bool fe, .bool ag, .int .i64 c, .int .i64 l, .int .i64 x.1.q.pl, .slice x.2.s1 n1 x.2.sc1, .slice x.2.s2 2 x.2.sc2, .int .i64 x.1.m.last, .int .i64 x.1.m.laps, .slice (some ⟨x.2.a1, 0, none⟩) n1 x.2.ca1, .slice (some ⟨x.2.a2, 0, none⟩) 2 x.2.ca2, .int .i64 x.1.q.pl, .slice (some ⟨x.2.g1, 0, none⟩) n1 x.2.k1, .slice (some ⟨x.2.g2, 0, none⟩) 2 x.2.k2, .int .i64 x.1.m.last, .int .i64 x.1.m.laps]
def flat21 (p s c l : Int) (st sk re fe ag : Bool) (n1 : Nat) (L : List (T21 × Q21)) : List Value := L.flatMap (cells21 p s c l st sk re fe ag n1)
section
variable {p s c l : Int} {st sk re fe ag : Bool} {n1 : Nat}
theorem cells21_one (x : T21 × Q21) : ∀ u ∈ cells21 p s c l st sk re fe ag n1 x, u.oneCell' = true := by
  intro u hu
  simp only [cells21, List.mem_cons, List.not_mem_nil, or_false] at hu
  rcases hu with rfl | rfl | rfl | rfl | rfl | rfl | rfl | rfl | rfl | rfl | rfl | rfl | rfl | rfl | rfl | rfl | rfl | rfl | rfl | rfl | rfl <;> rfl
theorem flat21_snoc (L : List (T21 × Q21)) (x : T21 × Q21) : flat21 p s c l st sk re fe ag n1 (L ++ [x]) = flat21 p s c l st sk re fe ag n1 L ++ cells21 p s c l st sk re fe ag n1 x := by simp [flat21]
theorem flat21_len (L : List (T21 × Q21)) : (flat21 p s c l st sk re fe ag n1 L).length = L.length * 21 := by
  induction L with
  | nil => rfl
  | cons x r ih =>
    have e : flat21 p s c l st sk re fe ag n1 (x :: r) = cells21 p s c l st sk re fe ag n1 x ++ flat21 p s c l st sk re fe ag n1 r := by simp [flat21]
    rw [e, List.length_append, ih, List.length_cons]
    have : (cells21 p s c l st sk re fe ag n1 x).length = 21 := rfl
    omega
theorem flat21_at : ∀ (L : List (T21 × Q21)) (i : Nat) (x : T21 × Q21), L[i]? = some x → ∀ o, o < 21 → (flat21 p s c l st sk re fe ag n1 L)[i * 21 + o]? = (cells21 p s c l st sk re fe ag n1 x)[o]?
  | [], _, _, h, _, _ => by cases h
  | y :: r, 0, x, h, o, ho => by
    cases h
    have e : flat21 p s c l st sk re fe ag n1 (y :: r) = cells21 p s c l st sk re fe ag n1 y ++ flat21 p s c l st sk re fe ag n1 r := by simp [flat21]
    rw [e, Nat.zero_mul, Nat.zero_add, List.getElem?_append_left (by show o < 21; exact ho)]
  | y :: r, i + 1, x, h, o, ho => by
    have e : flat21 p s c l st sk re fe ag n1 (y :: r) = cells21 p s c l st sk re fe ag n1 y ++ flat21 p s c l st sk re fe ag n1 r := by simp [flat21]
    rw [e, List.getElem?_append_right (by show 21 ≤ _; omega)]
    have := flat21_at r i x (by simpa using h) o ho
    rw [← this]
    congr 1
    show (i + 1) * 21 + o - 21 = _
    omega
end
theorem infoM : (Try.prog.info? 79).map (fun i => (i.zero, i.size, i.bytes)) = some (some (.agg zero21.toArray), 21, 232) := by kernel_rfl
/-- Four blocks that differ. -/
def Dist (b1 b2 h1 h2 : Nat) : Prop := b1 ≠ h1 ∧ b1 ≠ h2 ∧ b2 ≠ h1 ∧ b2 ≠ h2 ∧ b1 ≠ b2 ∧ h1 ≠ h2
/-- A turn's rows among those of a play. -/
structure ItT (R : List (Nat × List Int)) (b1 b2 n1 : Nat) (x : T21 × Q21) : Prop where
  a1 : (x.2.a1, x.1.q.xs) ∈ R
  a2 : (x.2.a2, x.1.q.ys) ∈ R
  g1 : (x.2.g1, x.1.r.xs) ∈ R
  g2 : (x.2.g2, x.1.r.ys) ∈ R
  ba : Dist b1 b2 x.2.a1 x.2.a2
  bg : Dist b1 b2 x.2.g1 x.2.g2
  l1 : x.1.q.xs.length = n1
  l2 : x.1.q.ys.length = 2
  l3 : x.1.r.xs.length = n1
  l4 : x.1.r.ys.length = 2
  k1 : n1 ≤ x.2.ca1
  k2 : 2 ≤ x.2.ca2
  k3 : n1 ≤ x.2.k1
  k4 : 2 ≤ x.2.k2
/-- A row of a play. -/
structure RwP (w : World) (pb : Nat) (v1 v2 : Value) (u : World) (y : Nat × List Int) : Prop where
  o : OutN u w.heap.size (some ⟨y.1, 0, none⟩) y.1 y.2
  lt : y.1 < u.heap.size
  ne : y.1 ≠ pb
  n1 : ∀ i, v1.ownBlock = some i → i ≠ y.1
  n2 : ∀ i, v2.ownBlock = some i → i ≠ y.1
/-- A play. -/
structure PlK (w : World) (pb : Nat) (p s c l : Int) (st sk re fe ag : Bool) (n1 b1 e1 b2 e2 : Nat) (sp : Int) (sx sy : List Int) (v1 v2 : Value) (ms : List Int) (L : List (T21 × Q21)) (h1 d1 h2 d2 : Nat) (q : Ps) (rg : Int) (R : List (Nat × List Int)) (u : World) : Prop where
  g : G17 u pb (.int .i64 p) (.int .i64 s) (.bool st) (.bool sk) (.bool re) (.bool fe) (.bool ag) (.int .i64 c) (.int .i64 l) (.slice (some ⟨b1, 0, none⟩) n1 e1) (.slice (some ⟨b2, 0, none⟩) 2 e2) (.int .i64 sp) v1 (.slice (some ⟨h1, 0, none⟩) n1 d1) (.slice (some ⟨h2, 0, none⟩) 2 d2) (.int .i64 q.pl) (.int .i64 rg)
  tv : u.cell? ⟨pb, 17, none⟩ = some v2
  mo : u.ownsRow w.heap.size 2 1 v1 ms.length (nvs ms)
  tu : u.ownsRow w.heap.size 79 21 v2 L.length (flat21 p s c l st sk re fe ag n1 L)
  rws : ∀ y ∈ R, RwP w pb v1 v2 u y
  sv : ∀ i j, v1.ownBlock = some i → v2.ownBlock = some j → i ≠ j
  p1 : ∀ i, v1.ownBlock = some i → i ≠ pb
  p2 : ∀ i, v2.ownBlock = some i → i ≠ pb
  it : ∀ x ∈ L, ItT R b1 b2 n1 x
  s1 : (b1, sx) ∈ R
  s2 : (b2, sy) ∈ R
  y1 : (h1, q.xs) ∈ R
  y2 : (h2, q.ys) ∈ R
  di : Dist b1 b2 h1 h2
  m1 : sx.length = n1
  m2 : sy.length = 2
  m3 : q.xs.length = n1
  m4 : q.ys.length = 2
  k1 : n1 ≤ e1
  k2 : 2 ≤ e2
  k3 : n1 ≤ d1
  k4 : 2 ≤ d2
  pm : w.heap.size ≤ pb
  be : Below w.heap.size w u
theorem RwP.below {w u v : World} {pb : Nat} {v1 v2 : Value} {y : Nat × List Int} (h : RwP w pb v1 v2 u y) (k : Below u.heap.size u v) : RwP w pb v1 v2 v y := ⟨h.o.below k, Nat.lt_of_lt_of_le h.lt k.size, h.ne, h.n1, h.n2⟩
theorem RwP.but {w u v : World} {pb b : Nat} {v1 v2 : Value} {y : Nat × List Int} (h : RwP w pb v1 v2 u y) (k : But b u v) (hb : y.1 ≠ b) : RwP w pb v1 v2 v y := ⟨h.o.but k hb, Nat.lt_of_lt_of_le h.lt k.size, h.ne, h.n1, h.n2⟩
theorem grown_but {u v : World} {row : Option Nat} (hg : u.grownBy v row) (z : Nat) (hz : ∀ k, row = some k → k ≠ z) : ∃ b, z ≠ b ∧ But b u v := by
  cases row with
  | none => exact ⟨z + 1, by omega, but_grown hg (fun j hj => by cases hj)⟩
  | some k => exact ⟨k, fun e => hz k rfl e.symm, but_grown hg (fun j hj => by cases hj; rfl)⟩
section
variable {w u v : World} {pb : Nat} {p s c l : Int} {st sk re fe ag : Bool} {n1 b1 e1 b2 e2 : Nat} {sp : Int} {sx sy : List Int} {v1 v2 : Value} {ms : List Int} {L : List (T21 × Q21)} {h1 d1 h2 d2 : Nat} {q : Ps} {rg : Int} {R : List (Nat × List Int)}
theorem PlK.below (h : PlK w pb p s c l st sk re fe ag n1 b1 e1 b2 e2 sp sx sy v1 v2 ms L h1 d1 h2 d2 q rg R u) (k : Below u.heap.size u v) : PlK w pb p s c l st sk re fe ag n1 b1 e1 b2 e2 sp sx sy v1 v2 ms L h1 d1 h2 d2 q rg R v :=
  ⟨h.g.below k, (k.cell (p := ⟨pb, 17, none⟩) h.g.lt).trans h.tv, own_keepS h.mo k, own_keepS h.tu k, fun y hy => (h.rws y hy).below k, h.sv, h.p1, h.p2, h.it, h.s1, h.s2, h.y1, h.y2, h.di, h.m1, h.m2, h.m3, h.m4, h.k1, h.k2, h.k3, h.k4, h.pm, h.be.trans (k.mono h.be.size)⟩
theorem PlK.drew (h : PlK w pb p s c l st sk re fe ag n1 b1 e1 b2 e2 sp sx sy v1 v2 ms L h1 d1 h2 d2 q rg R u) : PlK w pb p s c l st sk re fe ag n1 b1 e1 b2 e2 sp sx sy v1 v2 ms L h1 d1 h2 d2 q rg R u.drew := h.below (Below.refl _ _).drew
theorem PlK.ru (h : PlK w pb p s c l st sk re fe ag n1 b1 e1 b2 e2 sp sx sy v1 v2 ms L h1 d1 h2 d2 q rg R u) : RuAt u pb p s c l st sk re fe ag := ⟨h.g.lt, h.g.c0, h.g.c1, h.g.c2, h.g.c3, h.g.c4, h.g.c5, h.g.c6, h.g.c7, h.g.c8⟩
theorem PlK.now (h : PlK w pb p s c l st sk re fe ag n1 b1 e1 b2 e2 sp sx sy v1 v2 ms L h1 d1 h2 d2 q rg R u) : At3 u pb (some ⟨h1, 0, none⟩) (some ⟨h2, 0, none⟩) n1 d1 2 d2 q.pl 13 14 15 := ⟨h.g.lt, h.g.c13, h.g.c14, h.g.c15⟩
theorem PlK.nr (h : PlK w pb p s c l st sk re fe ag n1 b1 e1 b2 e2 sp sx sy v1 v2 ms L h1 d1 h2 d2 q rg R u) : PosR u (some ⟨h1, 0, none⟩) (some ⟨h2, 0, none⟩) n1 2 q.xs q.ys := ⟨(h.rws _ h.y1).o.row, (h.rws _ h.y2).o.row, h.m3, h.m4⟩
/-- A move more. -/
theorem PlK.pushM (h : PlK w pb p s c l st sk re fe ag n1 b1 e1 b2 e2 sp sx sy v1 v2 ms L h1 d1 h2 d2 q rg R u) {w1 : World} {g cap : Nat} {x : Int}
    (hown : w1.ownsRow w.heap.size 2 1 (.slice (some ⟨g, 0, none⟩) (ms.length + 1) cap) (ms.length + 1) (nvs ms ++ nvs [x])) (hg : u.grownBy w1 v1.ownBlock) (hat : v1.ownBlock = some g ∨ g = u.heap.size) :
    PlK w pb p s c l st sk re fe ag n1 b1 e1 b2 e2 sp sx sy (.slice (some ⟨g, 0, none⟩) (ms.length + 1) cap) v2 (ms ++ [x]) L h1 d1 h2 d2 q rg R (w1.setCell ⟨pb, 12, none⟩ (.slice (some ⟨g, 0, none⟩) (ms.length + 1) cap)) := by
  have hl : ∀ j, v1.ownBlock = some j → w.heap.size ≤ j := fun j hj => (own_lt h.mo j hj).1
  have hgp : g ≠ pb := by
    rcases hat with e | e
    · exact h.p1 g e
    · have := h.g.lt
      omega
  obtain ⟨b, hb, kb⟩ := grown_but hg pb h.p1
  have g1 := (h.g.but kb hb).setM (.slice (some ⟨g, 0, none⟩) (ms.length + 1) cap)
  have t1 := (kb.cell (o := 17) h.g.lt hb).trans h.tv
  have k2 := but_setM pb w1 (.slice (some ⟨g, 0, none⟩) (ms.length + 1) cap)
  refine ⟨g1, by go_simp, ?_, own_butS (own_grownS h.tu hg (fun i j hi hj => fun e => h.sv j i hj hi e.symm)) k2 h.p2, fun y hy => ?_, fun i j hi hj => ?_, fun i hi => ?_, h.p2, h.it, h.s1, h.s2, h.y1, h.y2, h.di, h.m1, h.m2, h.m3, h.m4, h.k1, h.k2, h.k3, h.k4, h.pm, ?_⟩
  · rw [List.length_append, List.length_singleton, nvs_app]
    exact own_butS hown k2 (fun i hi => by have : g = i := by simpa [Value.ownBlock] using hi
                                           omega)
  · obtain ⟨ho, hlt, hne, hn1, hn2⟩ := h.rws y hy
    refine ⟨(ho.grown hg hn1).but k2 hne, by simpa using Nat.lt_of_lt_of_le hlt hg.size, hne, fun i hi => ?_, hn2⟩
    have e' : g = i := by simpa [Value.ownBlock] using hi
    subst e'
    rcases hat with e | e
    · exact hn1 g e
    · omega
  · have e' : g = i := by simpa [Value.ownBlock] using hi
    subst e'
    rcases hat with e | e
    · exact h.sv g j e hj
    · have h3 := (own_lt h.tu j hj).2
      omega
  · have e' : g = i := by simpa [Value.ownBlock] using hi
    subst e'
    exact hgp
  · exact But.lift (h.be.grown hg (by have := h.be.size; omega) hl) k2 h.pm
/-- A turn more. -/
theorem PlK.pushT (h : PlK w pb p s c l st sk re fe ag n1 b1 e1 b2 e2 sp sx sy v1 v2 ms L h1 d1 h2 d2 q rg R u) {w1 : World} {g cap : Nat} {x : T21 × Q21} (hx : ItT R b1 b2 n1 x)
    (hown : w1.ownsRow w.heap.size 79 21 (.slice (some ⟨g, 0, none⟩) (L.length + 1) cap) (L.length + 1) (flat21 p s c l st sk re fe ag n1 L ++ cells21 p s c l st sk re fe ag n1 x)) (hg : u.grownBy w1 v2.ownBlock) (hat : v2.ownBlock = some g ∨ g = u.heap.size) :
    PlK w pb p s c l st sk re fe ag n1 b1 e1 b2 e2 sp sx sy v1 (.slice (some ⟨g, 0, none⟩) (L.length + 1) cap) ms (L ++ [x]) h1 d1 h2 d2 q rg R (w1.setCell ⟨pb, 17, none⟩ (.slice (some ⟨g, 0, none⟩) (L.length + 1) cap)) := by
  have hl : ∀ j, v2.ownBlock = some j → w.heap.size ≤ j := fun j hj => (own_lt h.tu j hj).1
  have hgp : g ≠ pb := by
    rcases hat with e | e
    · exact h.p2 g e
    · have := h.g.lt
      omega
  obtain ⟨b, hb, kb⟩ := grown_but hg pb h.p2
  have g0 := h.g.but kb hb
  have t1 := (kb.cell (o := 17) h.g.lt hb).trans h.tv
  have f17 := g0.fr 17
  have hlt0 := g0.lt
  have k2 : But pb w1 (w1.setCell ⟨pb, 17, none⟩ (.slice (some ⟨g, 0, none⟩) (L.length + 1) cap)) := (But.refl pb w1).setCell (p := ⟨pb, 17, none⟩) rfl _
  have g1 : G17 (w1.setCell ⟨pb, 17, none⟩ (.slice (some ⟨g, 0, none⟩) (L.length + 1) cap)) pb (.int .i64 p) (.int .i64 s) (.bool st) (.bool sk) (.bool re) (.bool fe) (.bool ag) (.int .i64 c) (.int .i64 l) (.slice (some ⟨b1, 0, none⟩) n1 e1) (.slice (some ⟨b2, 0, none⟩) 2 e2) (.int .i64 sp) v1 (.slice (some ⟨h1, 0, none⟩) n1 d1) (.slice (some ⟨h2, 0, none⟩) 2 d2) (.int .i64 q.pl) (.int .i64 rg) := by
    obtain ⟨lt, c0, c1, c2, c3, c4, c5, c6, c7, c8, c9, c10, c11, c12, c13, c14, c15, c16, fr⟩ := g0
    exact ⟨by simpa using lt, by go_simp, by go_simp, by go_simp, by go_simp, by go_simp, by go_simp, by go_simp, by go_simp, by go_simp, by go_simp, by go_simp, by go_simp, by go_simp, by go_simp, by go_simp, by go_simp, by go_simp, fun o => by have := fr o; go_simp⟩
  refine ⟨g1, by go_simp, own_butS (own_grownS h.mo hg (fun i j hi hj => h.sv i j hi hj)) k2 h.p1, ?_, fun y hy => ?_, fun i j hi hj => ?_, h.p1, fun i hi => ?_, fun y hy => ?_, h.s1, h.s2, h.y1, h.y2, h.di, h.m1, h.m2, h.m3, h.m4, h.k1, h.k2, h.k3, h.k4, h.pm, ?_⟩
  · rw [List.length_append, List.length_singleton, flat21_snoc]
    exact own_butS hown k2 (fun i hi => by have : g = i := by simpa [Value.ownBlock] using hi
                                           omega)
  · obtain ⟨ho, hlt, hne, hn1, hn2⟩ := h.rws y hy
    refine ⟨(ho.grown hg hn2).but k2 hne, by simpa using Nat.lt_of_lt_of_le hlt hg.size, hne, hn1, fun i hi => ?_⟩
    have e' : g = i := by simpa [Value.ownBlock] using hi
    subst e'
    rcases hat with e | e
    · exact hn2 g e
    · omega
  · have e' : g = j := by simpa [Value.ownBlock] using hj
    subst e'
    rcases hat with e | e
    · exact h.sv i g hi e
    · have h3 := (own_lt h.mo i hi).2
      omega
  · have e' : g = i := by simpa [Value.ownBlock] using hi
    subst e'
    exact hgp
  · rcases List.mem_append.1 hy with hy | hy
    · exact h.it y hy
    · rw [List.mem_singleton] at hy
      subst hy
      exact hx
  · exact But.lift (h.be.grown hg (by have := h.be.size; omega) hl) k2 h.pm
/-- Rows more. -/
theorem PlK.rows (h : PlK w pb p s c l st sk re fe ag n1 b1 e1 b2 e2 sp sx sy v1 v2 ms L h1 d1 h2 d2 q rg R u) {H0 g1 g2 : Nat} {xs ys : List Int} (hH : w.heap.size ≤ H0) (hv1 : ∀ i, v1.ownBlock = some i → i < H0) (hv2 : ∀ i, v2.ownBlock = some i → i < H0) (hpb : pb < H0)
    (ho : PosO u H0 (some ⟨g1, 0, none⟩) (some ⟨g2, 0, none⟩) g1 g2 n1 2 xs ys) (l1 : g1 < u.heap.size) (l2 : g2 < u.heap.size) : PlK w pb p s c l st sk re fe ag n1 b1 e1 b2 e2 sp sx sy v1 v2 ms L h1 d1 h2 d2 q rg ((g1, xs) :: (g2, ys) :: R) u := by
  have n1' := ho.o1.new
  have n2' := ho.o2.new
  refine ⟨h.g, h.tv, h.mo, h.tu, fun y hy => ?_, h.sv, h.p1, h.p2, fun x hx => ?_, .tail _ (.tail _ h.s1), .tail _ (.tail _ h.s2), .tail _ (.tail _ h.y1), .tail _ (.tail _ h.y2), h.di, h.m1, h.m2, h.m3, h.m4, h.k1, h.k2, h.k3, h.k4, h.pm, h.be⟩
  · rcases List.mem_cons.1 hy with rfl | hy
    · exact ⟨ho.o1.lower hH, l1, by simp only; omega, fun i hi => by have := hv1 i hi; simp only; omega, fun i hi => by have := hv2 i hi; simp only; omega⟩
    · rcases List.mem_cons.1 hy with rfl | hy
      · exact ⟨ho.o2.lower hH, l2, by simp only; omega, fun i hi => by have := hv1 i hi; simp only; omega, fun i hi => by have := hv2 i hi; simp only; omega⟩
      · exact h.rws y hy
  · have := h.it x hx
    exact ⟨.tail _ (.tail _ this.a1), .tail _ (.tail _ this.a2), .tail _ (.tail _ this.g1), .tail _ (.tail _ this.g2), this.ba, this.bg, this.l1, this.l2, this.l3, this.l4, this.k1, this.k2, this.k3, this.k4⟩
/-- The position of now turns. -/
theorem PlK.turn (h : PlK w pb p s c l st sk re fe ag n1 b1 e1 b2 e2 sp sx sy v1 v2 ms L h1 d1 h2 d2 q rg R u) {g1 c1 g2 c2 : Nat} {q' : Ps} (x1 : (g1, q'.xs) ∈ R) (x2 : (g2, q'.ys) ∈ R) (hd : Dist b1 b2 g1 g2) (y1 : q'.xs.length = n1) (y2 : q'.ys.length = 2) (z1 : n1 ≤ c1) (z2 : 2 ≤ c2) :
    PlK w pb p s c l st sk re fe ag n1 b1 e1 b2 e2 sp sx sy v1 v2 ms L g1 c1 g2 c2 q' rg R (((u.setCell ⟨pb, 13, none⟩ (.slice (some ⟨g1, 0, none⟩) n1 c1)).setCell ⟨pb, 14, none⟩ (.slice (some ⟨g2, 0, none⟩) 2 c2)).setCell ⟨pb, 15, none⟩ (.int .i64 q'.pl)) := by
  have k := but_setN pb u (.slice (some ⟨g1, 0, none⟩) n1 c1) (.slice (some ⟨g2, 0, none⟩) 2 c2) (.int .i64 q'.pl)
  have t := h.tv
  exact ⟨h.g.setN _ _ _, by go_simp, own_butS h.mo k h.p1, own_butS h.tu k h.p2, fun y hy => (h.rws y hy).but k (h.rws y hy).ne, h.sv, h.p1, h.p2, h.it, h.s1, h.s2, x1, x2, hd, h.m1, h.m2, y1, y2, h.k1, h.k2, z1, z2, h.pm, But.lift h.be k h.pm⟩
end
end Go.Proofs.Ytenpnilljjfmkaa

/- Pm8 -/
namespace Go.Proofs.Ytenpnilljjfmkaa
open Go.Joins Go.ChangeShapes Go.WideShapes Go.ChangeAt Go.RowKit Go.Deep
set_option linter.unusedVariables false

set_option maxHeartbeats 1000000 in
theorem hasR_no (ggp ggs ggc ggl : Int) (ggst ggsk ggre ggfe ggag : Bool) (gga1 gga2 : Option Addr) (ggan1 ggac1 ggan2 ggac2 : Nat) (ggap : Int) (ggm : Option Addr) (ggmn ggmc : Nat) (ggb1 ggb2 : Option Addr) (ggbn1 ggbc1 ggbn2 ggbc2 : Nat) (ggbp ggrg : Int) (w : World) (h : ggrg = -1) : Calls Try.prog 57 #[.agg #[.int .i64 ggp, .int .i64 ggs, .bool ggst, .bool ggsk, .bool ggre, .bool ggfe, .bool ggag, .int .i64 ggc, .int .i64 ggl, .slice gga1 ggan1 ggac1, .slice gga2 ggan2 ggac2, .int .i64 ggap, .slice ggm ggmn ggmc, .slice ggb1 ggbn1 ggbc1, .slice ggb2 ggbn2 ggbc2, .int .i64 ggbp, .int .i64 ggrg]] w fun e w' => e = .returned (.bool false) ∧ Below w.heap.size w w' := by
  subst h
  have HB := Lib.hid (al1 w (.cells #[.int .i64 ggp, .int .i64 ggs, .bool ggst, .bool ggsk, .bool ggre, .bool ggfe, .bool ggag, .int .i64 ggc, .int .i64 ggl, .slice gga1 ggan1 ggac1, .slice gga2 ggan2 ggac2, .int .i64 ggap, .slice ggm ggmn ggmc, .slice ggb1 ggbn1 ggbc1, .slice ggb2 ggbn2 ggbc2, .int .i64 ggbp, .int .i64 (-1)] 31))
  go_enter Try.func57, Try.ntmps57
  go_wp2_with fail
  go_ret
  exact ⟨rfl, HB.out⟩
set_option maxHeartbeats 1000000 in
theorem hasR_yes (ggp ggs ggc ggl : Int) (ggst ggsk ggre ggfe ggag : Bool) (gga1 gga2 : Option Addr) (ggan1 ggac1 ggan2 ggac2 : Nat) (ggap : Int) (ggm : Option Addr) (ggmn ggmc : Nat) (ggb1 ggb2 : Option Addr) (ggbn1 ggbc1 ggbn2 ggbc2 : Nat) (ggbp ggrg : Int) (w : World) (h : ggrg ≠ -1) : Calls Try.prog 57 #[.agg #[.int .i64 ggp, .int .i64 ggs, .bool ggst, .bool ggsk, .bool ggre, .bool ggfe, .bool ggag, .int .i64 ggc, .int .i64 ggl, .slice gga1 ggan1 ggac1, .slice gga2 ggan2 ggac2, .int .i64 ggap, .slice ggm ggmn ggmc, .slice ggb1 ggbn1 ggbc1, .slice ggb2 ggbn2 ggbc2, .int .i64 ggbp, .int .i64 ggrg]] w fun e w' => e = .returned (.bool true) ∧ Below w.heap.size w w' := by
  have d : (ggrg != -1) = true := by simpa using h
  have HB := Lib.hid (al1 w (.cells #[.int .i64 ggp, .int .i64 ggs, .bool ggst, .bool ggsk, .bool ggre, .bool ggfe, .bool ggag, .int .i64 ggc, .int .i64 ggl, .slice gga1 ggan1 ggac1, .slice gga2 ggan2 ggac2, .int .i64 ggap, .slice ggm ggmn ggmc, .slice ggb1 ggbn1 ggbc1, .slice ggb2 ggbn2 ggbc2, .int .i64 ggbp, .int .i64 ggrg] 31))
  clear h
  go_enter Try.func57, Try.ntmps57
  go_wp2_with fail
  go_ret
  exact ⟨rfl, HB.out⟩
/-- What a made move is. -/
def MkP (p s c l : Int) (st sk re fe ag : Bool) (n1 : Nat) (q : Ps) (h1 d1 h2 d2 : Nat) (LV : Option (Res × R7)) (H0 : Nat) (cs : List Value) (u : World) : Prop :=
  match LV with
  | none => True
  | some mr => ∃ s1 s2 sc1 sc2 g1 k1 g2 k2, cs = cells21 p s c l st sk re fe ag n1 (⟨q, mr.1, mr.2⟩, ⟨h1, h2, d1, d2, s1, s2, sc1, sc2, g1, g2, k1, k2⟩) ∧ PosO u H0 (some ⟨g1, 0, none⟩) (some ⟨g2, 0, none⟩) g1 g2 n1 2 mr.2.xs mr.2.ys ∧ g1 < u.heap.size ∧ g2 < u.heap.size ∧ n1 ≤ k1 ∧ 2 ≤ k2
theorem MkP.below {p s c l : Int} {st sk re fe ag : Bool} {n1 : Nat} {q : Ps} {h1 d1 h2 d2 : Nat} {LV : Option (Res × R7)} {H0 : Nat} {cs : List Value} {u v : World} (h : MkP p s c l st sk re fe ag n1 q h1 d1 h2 d2 LV H0 cs u) (k : Below u.heap.size u v) : MkP p s c l st sk re fe ag n1 q h1 d1 h2 d2 LV H0 cs v := by
  cases LV with
  | none => trivial
  | some mr =>
    obtain ⟨s1, s2, sc1, sc2, g1, k1, g2, k2, he, ho, l1, l2, r⟩ := h
    exact ⟨s1, s2, sc1, sc2, g1, k1, g2, k2, he, ho.below k, Nat.lt_of_lt_of_le l1 k.size, Nat.lt_of_lt_of_le l2 k.size, r⟩
/-- Some cells and a code. -/
def MkG (p s c l : Int) (st sk re fe ag : Bool) (n1 : Nat) (q : Ps) (h1 d1 h2 d2 : Nat) (LV : Option (Res × R7)) (cd : Int) (w : World) (e : Ending) (w' : World) : Prop :=
  ∃ cs : List Value, cs.length = 21 ∧ cs.toArray.all (·.oneCell') = true ∧ e = .returned (.tuple #[.agg cs.toArray, .int .i64 cd]) ∧ MkP p s c l st sk re fe ag n1 q h1 d1 h2 d2 LV w.heap.size cs w' ∧ Below w.heap.size w w'
theorem mkG_of {p s c l : Int} {st sk re fe ag : Bool} {n1 : Nat} {q : Ps} {h1 d1 h2 d2 : Nat} {move : Int} {LV : Option Res} {cd : Int} {w w' : World} {e : Ending} (h : MkQ p s c l st sk re fe ag q.pl n1 (some ⟨h1, 0, none⟩) (some ⟨h2, 0, none⟩) d1 d2 LV cd w e w') :
    MkG p s c l st sk re fe ag n1 q h1 d1 h2 d2 (LV.map fun m => (m, r7V c l p q.pl ag q.ys move m)) cd w e w' := by
  cases LV with
  | none => exact ⟨zero21, rfl, zero21_one, h.1, trivial, h.2⟩
  | some m =>
    obtain ⟨s1, s2, sc1, sc2, g1, k1, g2, k2, he, ho, l1, l2, c1, c2, hb⟩ := h
    exact ⟨cells21 p s c l st sk re fe ag n1 (⟨q, m, r7V c l p q.pl ag q.ys move m⟩, ⟨h1, h2, d1, d2, s1, s2, sc1, sc2, g1, g2, k1, k2⟩), rfl, all_oneCell_toArray (fun v hv => cells21_one _ v hv), he, ⟨s1, s2, sc1, sc2, g1, k1, g2, k2, rfl, ho, l1, l2, c1, c2⟩, hb⟩
end Go.Proofs.Ytenpnilljjfmkaa

/- Pm9 -/
namespace Go.Proofs.Ytenpnilljjfmkaa
open Go.Joins Go.ChangeShapes Go.WideShapes Go.ChangeAt Go.RowKit Go.Deep
set_option linter.unusedVariables false

theorem MkP.low {p s c l : Int} {st sk re fe ag : Bool} {n1 : Nat} {q : Ps} {h1 d1 h2 d2 : Nat} {LV : Option (Res × R7)} {H0 H1 : Nat} {cs : List Value} {u : World} (h : MkP p s c l st sk re fe ag n1 q h1 d1 h2 d2 LV H1 cs u) (hh : H0 ≤ H1) : MkP p s c l st sk re fe ag n1 q h1 d1 h2 d2 LV H0 cs u := by
  cases LV with
  | none => trivial
  | some mr =>
    obtain ⟨s1, s2, sc1, sc2, g1, k1, g2, k2, he, ho, r⟩ := h
    exact ⟨s1, s2, sc1, sc2, g1, k1, g2, k2, he, ho.lower hh, r⟩
theorem MkP.but9 {p s c l : Int} {st sk re fe ag : Bool} {n1 : Nat} {q : Ps} {h1 d1 h2 d2 : Nat} {LV : Option (Res × R7)} {H1 z : Nat} {cs : List Value} {u v : World} (h : MkP p s c l st sk re fe ag n1 q h1 d1 h2 d2 LV H1 cs u) (k : But z u v) (hz : z < H1) : MkP p s c l st sk re fe ag n1 q h1 d1 h2 d2 LV H1 cs v := by
  cases LV with
  | none => trivial
  | some mr =>
    obtain ⟨s1, s2, sc1, sc2, g1, k1, g2, k2, he, ho, l1, l2, r⟩ := h
    have n1' := ho.o1.new
    have n2' := ho.o2.new
    exact ⟨s1, s2, sc1, sc2, g1, k1, g2, k2, he, ho.but k (by omega) (by omega), Nat.lt_of_lt_of_le l1 k.size, Nat.lt_of_lt_of_le l2 k.size, r⟩
theorem rg18 {u : World} {z : Nat} {v0 v1 v2 v3 v4 v5 v6 v7 v8 v9 v10 v11 v12 v13 v14 v15 v16 : Value} (h : G17 u z v0 v1 v2 v3 v4 v5 v6 v7 v8 v9 v10 v11 v12 v13 v14 v15 v16) : u.rangeAt z 0 [v0, v1, v2, v3, v4, v5, v6, v7, v8] ∧ u.rangeAt z 13 [v13, v14, v15] := by
  constructor
  · intro j v hj
    match j, hj with
    | 0, hj => cases hj; exact h.c0
    | 1, hj => cases hj; exact h.c1
    | 2, hj => cases hj; exact h.c2
    | 3, hj => cases hj; exact h.c3
    | 4, hj => cases hj; exact h.c4
    | 5, hj => cases hj; exact h.c5
    | 6, hj => cases hj; exact h.c6
    | 7, hj => cases hj; exact h.c7
    | 8, hj => cases hj; exact h.c8
    | n + 9, hj => simp at hj
  · intro j v hj
    match j, hj with
    | 0, hj => cases hj; exact h.c13
    | 1, hj => cases hj; exact h.c14
    | 2, hj => cases hj; exact h.c15
    | n + 3, hj => simp at hj
/-- The code of a legal move. -/
def cdS (p s c l : Int) (st sk re fe ag : Bool) (q : Ps) (move : Int) : Int := lgC c l p q.pl fe q.xs (mvCd true p q.pl st sk re q.xs q.ys move) (mvV true p q.pl st sk re q.xs q.ys move)
def lvS (p s c l : Int) (st sk re fe ag : Bool) (q : Ps) (move : Int) : Option (Res × R7) := (lgV c l p q.pl fe q.xs (mvV true p q.pl st sk re q.xs q.ys move)).map fun m => (m, r7V c l p q.pl ag q.ys move m)
/-- What a move of a play leaves. -/
def PmP (w : World) (pb : Nat) (p s c l : Int) (st sk re fe ag : Bool) (n1 b1 e1 b2 e2 : Nat) (sp : Int) (sx sy : List Int) (ms : List Int) (L : List (T21 × Q21)) (q : Ps) (R : List (Nat × List Int)) (move : Int) (LV : Option (Res × R7)) (cd : Int) (u : World) (e : Ending) (u' : World) : Prop :=
  match LV with
  | none => e = .returned (.int .i64 cd) ∧ Below u.heap.size u u'
  | some mr => e = .returned (.int .i64 0) ∧ ∃ v1' v2' x g1 c1 g2 c2 R', PlK w pb p s c l st sk re fe ag n1 b1 e1 b2 e2 sp sx sy v1' v2' (ms ++ [move]) (L ++ [x]) g1 c1 g2 c2 mr.2.ps (-1) R' u' ∧ x.1 = ⟨q, mr.1, mr.2⟩
theorem cells21_news (u : World) (T : TypeId) (cs : List Value) (H : Nat) (hH : u.heap.size = H) : ∀ j v, cs[j]? = some v → (u.alloc (.cells cs.toArray T)).cell? ((⟨H, 0, none⟩ : Addr).add j) = some v := by
  subst hH
  intro j v hj
  have e : ((⟨u.heap.size, 0, none⟩ : Addr).add j) = ⟨u.heap.size, 0 + j, none⟩ := by
    by_cases h : j = 0 <;> simp [Addr.add, h]
  rw [e, Nat.zero_add, World.cell?_alloc_new]
  simpa using hj
theorem rg_but {u v : World} {z b : Nat} {cs : List Value} (h : u.rangeAt z 0 cs) (hz : z < u.heap.size) (hb : z ≠ b) (k : But b u v) : v.rangeAt z 0 cs := fun j x hx => (k.cell (c := z) (o := 0 + j) hz hb).trans (h j x hx)
theorem rg_below {u v : World} {z : Nat} {cs : List Value} (h : u.rangeAt z 0 cs) (hz : z < u.heap.size) (k : Below u.heap.size u v) : v.rangeAt z 0 cs := fun j x hx => (k.cell (p := ⟨z, 0 + j, none⟩) hz).trans (h j x hx)
theorem rg_grown {u v : World} {z : Nat} {cs : List Value} {row : Option Nat} (h : u.rangeAt z 0 cs) (hz : z < u.heap.size) (hg : u.grownBy v row) (hr : ∀ i, row = some i → i ≠ z) : v.rangeAt z 0 cs := fun j x hx => (World.cell?_of_block (a := ⟨z, 0 + j, none⟩) (hg.block z hz (fun e => hr z e.symm rfl))).trans (h j x hx)
set_option maxHeartbeats 8000000 in
set_option maxRecDepth 100000 in
theorem pmove_any (w : World) (pb : Nat) (p s c l : Int) (st sk re fe ag : Bool) (n1 b1 e1 b2 e2 : Nat) (sp : Int) (sx sy : List Int) (v1 v2 : Value) (ms : List Int) (L : List (T21 × Q21)) (h1 d1 h2 d2 : Nat) (q : Ps) (R : List (Nat × List Int)) (move : Int) (u : World) (h : PlK w pb p s c l st sk re fe ag n1 b1 e1 b2 e2 sp sx sy v1 v2 ms L h1 d1 h2 d2 q (-1) R u) (hok : OkQ p s c l st ag n1 q) (hms : ms.length < 120) (hLm : L.length = ms.length) :
    Calls Try.prog 58 #[.pointer (some ⟨pb, 0, none⟩), .int .i64 move] u (PmP w pb p s c l st sk re fe ag n1 b1 e1 b2 e2 sp sx sy ms L q R move (lvS p s c l st sk re fe ag q move) (cdS p s c l st sk re fe ag q move) u) := by
  obtain ⟨ma, mc, hv1⟩ := slice_own h.mo
  subst hv1
  have hd120 : ((ms.length : Int) == 120) = false := by simp; omega
  have HMk0 : ∀ u', Below u.heap.size u u' → Calls Try.prog 65 #[.agg #[.int .i64 p, .int .i64 s, .bool st, .bool sk, .bool re, .bool fe, .bool ag, .int .i64 c, .int .i64 l], .agg #[.slice (some ⟨h1, 0, none⟩) n1 d1, .slice (some ⟨h2, 0, none⟩) 2 d2, .int .i64 q.pl], .int .i64 move] u' (MkG p s c l st sk re fe ag n1 q h1 d1 h2 d2 (lvS p s c l st sk re fe ag q move) (cdS p s c l st sk re fe ag q move) u') := fun u' hu => (makeL_any p s c l st sk re fe ag (some ⟨h1, 0, none⟩) (some ⟨h2, 0, none⟩) n1 d1 2 d2 q.pl q.xs q.ys move u' (h.nr.below hu) h.k3 true hok.ok).mono (fun e w' hq => mkG_of hq)
  have H := Lib.hid h
  have HRg := Lib.hid (TGm.rg h.g)
  have c12 := h.g.c12
  have HMk1 := Lib.hid HMk0
  clear h HMk0
  have HCd0 : (lvS p s c l st sk re fe ag q move = none → (cdS p s c l st sk re fe ag q move == 0) = false) ∧ ((lvS p s c l st sk re fe ag q move).isSome = true → cdS p s c l st sk re fe ag q move = 0) := by
    unfold lvS cdS
    cases hl : lgV c l p q.pl fe q.xs (mvV true p q.pl st sk re q.xs q.ys move) with
    | none => exact ⟨fun _ => lg_none hok.ok hok.l1 hl, fun e => by cases e⟩
    | some m => exact ⟨(fun e => by cases e), fun _ => (lg_some hl).2⟩
  have HLV0 : ∀ mr, lvS p s c l st sk re fe ag q move = some mr → mr.2.nx = (if ag && decide (mr.1.last = -1) then q.pl else 1 - q.pl) ∧ mr.2.xs.length = n1 ∧ mr.2.ys.length = 2 := by
    unfold lvS
    intro mr hmr
    cases hl : lgV c l p q.pl fe q.xs (mvV true p q.pl st sk re q.xs q.ys move) with
    | none => rw [hl] at hmr; cases hmr
    | some m =>
      rw [hl] at hmr
      cases hmr
      have h3 := stp_ok (move := move) (r := r7V c l p q.pl ag q.ys move m) hok (by unfold stp; rw [hl]; rfl)
      exact ⟨rfl, h3.l1, h3.l2⟩
  have HLl : Hid (L.length < 120) := Lib.hid (by omega)
  clear hLm
  have HCd := Lib.hid HCd0
  have HLV := Lib.hid HLV0
  have hpl : q.pl = 0 ∨ q.pl = 1 := by obtain ⟨-, -, -, h4, -⟩ := okP_parts hok.ok; omega
  have Hpl := Lib.hid hpl
  obtain ⟨i1, hi1, hy0, hy1, hy2⟩ := info_parts infoN
  obtain ⟨i2, hi2, hx0, hx1, hx2⟩ := info_parts infoM
  clear HCd0 HLV0 hpl hok
  generalize cdS p s c l st sk re fe ag q move = cd at *
  generalize lvS p s c l st sk re fe ag q move = LV at *
  go_enter Try.func58, Try.ntmps58
  go_wp2_with (refine wpList_load_mid rfl 31 _ rfl pb 0 rfl _ _ HRg.out Try.underlying31 rfl (by kernel_rfl) ?_)
  refine (hasR_no _ _ _ _ _ _ _ _ _ _ _ _ _ _ _ _ _ _ _ _ _ _ _ _ _ _ _ _ rfl).mono ?_
  rintro e u0 ⟨rfl, hb⟩
  have H := Lib.hid (H.out.below hb)
  have c12 := H.out.g.c12
  have HMk2 := Lib.hid (fun u' (hu : OnW u0 u') => HMk1.out u' (Below.trans hb (Below.mono hu hb.size)))
  have hbu := Lib.hid hb
  clear hb HRg HMk1
  go_upto_region 5 with fail
  go_cut [5, 6] (fun s5 s6 wx => ∃ (z : Nat) (cs : List Value), s5 = .pointer (some ⟨z, 0, none⟩) ∧ s6 = .int .i64 cd ∧ u0.heap.size ≤ z ∧ z < wx.heap.size ∧ wx.rangeAt z 0 cs ∧ cs.length = 21 ∧ cs.toArray.all (·.oneCell') = true ∧ MkP p s c l st sk re fe ag n1 q h1 d1 h2 d2 LV u0.heap.size cs wx ∧ OnW u0 wx)
  case first =>
    have HMk := HMk2
    have HT : Hid (∀ u', OnW u0 u' → u'.rangeAt pb 0 [.int .i64 p, .int .i64 s, .bool st, .bool sk, .bool re, .bool fe, .bool ag, .int .i64 c, .int .i64 l] ∧ u'.rangeAt pb 13 [.slice (some ⟨h1, 0, none⟩) n1 d1, .slice (some ⟨h2, 0, none⟩) 2 d2, .int .i64 q.pl]) := Lib.hid (fun u' hu => rg18 (H.out.g.below hu))
    refine wp_region_held_drew (S := (fun u => u.rangeAt pb 0 [.int .i64 p, .int .i64 s, .bool st, .bool sk, .bool re, .bool fe, .bool ag, .int .i64 c, .int .i64 l] ∧ u.rangeAt pb 13 [.slice (some ⟨h1, 0, none⟩) n1 d1, .slice (some ⟨h2, 0, none⟩) 2 d2, .int .i64 q.pl])) (by kernel_rfl) (HT.out _ (OnW.drew (show OnW u0 u0 from Below.refl _ _))) (fun hHeld => ?_)
    have HB := Lib.hid (OnW.drew (show OnW u0 u0 from Below.refl _ _))
    refine wpAnyH_take (i := 0) (oi := { dst := some 20, op := Op.move (Operand.tmp 0), type := 97, pos := "l08_games.go:60", after := #[], guard := none }) (v := .pointer (some ⟨pb, 0, none⟩)) rfl (by kernel_rfl) (by kernel_rfl) (by kernel_rfl) (fun _ _ _ h => h) (Or.inl ⟨by rfl, fun u hu => by (try dsimp only at hu); go_simp; try with_reducible rfl⟩) hHeld ?_
    simp only [Act.put, List.setIfInBounds_toArray, List.set_cons_zero, List.set_cons_succ]
    refine wpAnyH_take (i := 1) (oi := { dst := some 21, op := Op.nilCheck (Operand.tmp 20), type := 0, pos := "l08_games.go:60", after := #[{ on := 0, ground := Ground.data }], guard := none }) (v := .pointer (some ⟨pb, 0, none⟩)) rfl (by kernel_rfl) (by kernel_rfl) (by kernel_rfl) (fun _ _ _ h => h) (Or.inl ⟨by rfl, fun u hu => by (try dsimp only at hu); go_simp; try with_reducible rfl⟩) hHeld ?_
    simp only [Act.put, List.setIfInBounds_toArray, List.set_cons_zero, List.set_cons_succ]
    refine wpAnyH_take (i := 2) (oi := { dst := some 22, op := Op.fieldAddr 61 (Operand.tmp 21) 0, type := 0, pos := "l08_games.go:60", after := #[{ on := 1, ground := Ground.data }], guard := none }) (v := .pointer (some ⟨pb, 0, none⟩)) rfl (by kernel_rfl) (by kernel_rfl) (by kernel_rfl) (fun _ _ _ h => h) (Or.inl ⟨by rfl, fun u hu => by (try dsimp only at hu); go_simp; try with_reducible rfl⟩) hHeld ?_
    simp only [Act.put, List.setIfInBounds_toArray, List.set_cons_zero, List.set_cons_succ]
    refine wpAnyH_take (i := 3) (oi := { dst := some 23, op := Op.fieldAddr 31 (Operand.tmp 22) 0, type := 0, pos := "l08_games.go:60", after := #[{ on := 2, ground := Ground.data }], guard := none }) (v := .pointer (some ⟨pb, 0, none⟩)) rfl (by kernel_rfl) (by kernel_rfl) (by kernel_rfl) (fun _ _ _ h => h) (Or.inl ⟨by rfl, fun u hu => by (try dsimp only at hu); go_simp; try with_reducible rfl⟩) hHeld ?_
    simp only [Act.put, List.setIfInBounds_toArray, List.set_cons_zero, List.set_cons_succ]
    refine wpAnyH_take (i := 4) rfl (by kernel_rfl) (by kernel_rfl) (by kernel_rfl) (fun _ _ _ h => h) (yieldsIf_load_mid (by rfl) 28 _ rfl pb 0 rfl [.int .i64 p, .int .i64 s, .bool st, .bool sk, .bool re, .bool fe, .bool ag, .int .i64 c, .int .i64 l] _ (fun u hu => hu.1) Try.underlying28 rfl (by kernel_rfl)) hHeld ?_
    simp only [Act.put, List.setIfInBounds_toArray]
    refine wpAnyH_take (i := 5) (oi := { dst := some 25, op := Op.move (Operand.tmp 0), type := 97, pos := "l08_games.go:60", after := #[], guard := none }) (v := .pointer (some ⟨pb, 0, none⟩)) rfl (by kernel_rfl) (by kernel_rfl) (by kernel_rfl) (fun _ _ _ h => h) (Or.inl ⟨by rfl, fun u hu => by (try dsimp only at hu); go_simp; try with_reducible rfl⟩) hHeld ?_
    simp only [Act.put]
    refine wpAnyH_take (i := 6) (oi := { dst := some 26, op := Op.nilCheck (Operand.tmp 25), type := 0, pos := "l08_games.go:60", after := #[{ on := 5, ground := Ground.data }], guard := none }) (v := .pointer (some ⟨pb, 0, none⟩)) rfl (by kernel_rfl) (by kernel_rfl) (by kernel_rfl) (fun _ _ _ h => h) (Or.inl ⟨by rfl, fun u hu => by (try dsimp only at hu); go_simp; try with_reducible rfl⟩) hHeld ?_
    simp only [Act.put]
    refine wpAnyH_take (i := 7) (oi := { dst := some 27, op := Op.fieldAddr 61 (Operand.tmp 26) 0, type := 0, pos := "l08_games.go:60", after := #[{ on := 6, ground := Ground.data }], guard := none }) (v := .pointer (some ⟨pb, 0, none⟩)) rfl (by kernel_rfl) (by kernel_rfl) (by kernel_rfl) (fun _ _ _ h => h) (Or.inl ⟨by rfl, fun u hu => by (try dsimp only at hu); go_simp; try with_reducible rfl⟩) hHeld ?_
    simp only [Act.put]
    refine wpAnyH_take (i := 8) (oi := { dst := some 28, op := Op.fieldAddr 31 (Operand.tmp 27) 3, type := 0, pos := "l08_games.go:60", after := #[{ on := 7, ground := Ground.data }], guard := none }) (v := .pointer (some ⟨pb, 13, none⟩)) rfl (by kernel_rfl) (by kernel_rfl) (by kernel_rfl) (fun _ _ _ h => h) (Or.inl ⟨by rfl, fun u hu => by (try dsimp only at hu); go_simp; try with_reducible rfl⟩) hHeld ?_
    simp only [Act.put]
    refine wpAnyH_take (i := 9) rfl (by kernel_rfl) (by kernel_rfl) (by kernel_rfl) (fun _ _ _ h => h) (yieldsIf_load_mid (by rfl) 29 _ rfl pb 13 rfl [.slice (some ⟨h1, 0, none⟩) n1 d1, .slice (some ⟨h2, 0, none⟩) 2 d2, .int .i64 q.pl] _ (fun u hu => hu.2) Try.underlying29 rfl (by kernel_rfl)) hHeld ?_
    simp only [Act.put]
    refine wpAnyH_take (i := 10) (oi := { dst := some 30, op := Op.move (Operand.tmp 1), type := 2, pos := "l08_games.go:60", after := #[], guard := none }) (v := .int .i64 move) rfl (by kernel_rfl) (by kernel_rfl) (by kernel_rfl) (fun _ _ _ h => h) (Or.inl ⟨by rfl, fun u hu => by (try dsimp only at hu); go_simp; try with_reducible rfl⟩) hHeld ?_
    simp only [Act.put]
    refine wpAnyH_ready (rs := [11, 15]) (by kernel_rfl) (by simp) ?_
    refine AllReadyH.cons rfl (fun K hK => ?_) (AllReadyH.cons rfl (fun K hK => ?_) AllReadyH.nil)
    · rw [if_pos (by rfl)]
      go_simp
      go_at_call 65
      refine (HMk.out _ HB.out).mono ?_
      rintro e w5 ⟨cs, hc1, hc2, rfl, hP, hb5⟩
      have hsz0 := HB.out.bel.size
      have HCs := Lib.hid (And.intro hc1 hc2)
      have HP5 := Lib.hid (MkP.low hP hsz0)
      have HB := Lib.hid (OnW.below HB.out hb5)
      have hsz5 := hb5.size
      clear hP hb5 hc1 hc2
      (try dsimp only)
      refine hK.out _ _ (HT.out _ HB.out) (fun hHeld => ?_)
      clear hK K
      (try simp only [Act.put, List.setIfInBounds_toArray, List.set_cons_zero, List.set_cons_succ])
      refine wpAnyH_take (i := 12) (oi := { dst := some 19, op := Op.move (Operand.tmp 31), type := 99, pos := "l08_games.go:60", after := #[{ on := 11, ground := Ground.data }], guard := none }) (v := .tuple #[.agg cs.toArray, .int .i64 cd]) rfl (by kernel_rfl) (by kernel_rfl) (by kernel_rfl) (fun _ _ _ h => h) (Or.inl ⟨by rfl, fun u hu => by (try dsimp only at hu); go_simp; try with_reducible rfl⟩) hHeld ?_
      simp only [Act.put, List.setIfInBounds_toArray, List.set_cons_zero, List.set_cons_succ]
      refine wpAnyH_take (i := 13) (oi := { dst := some 32, op := Op.extract (Operand.tmp 19) 0, type := 79, pos := "l08_games.go:60", after := #[{ on := 12, ground := Ground.data }], guard := none }) (v := .agg cs.toArray) rfl (by kernel_rfl) (by kernel_rfl) (by kernel_rfl) (fun _ _ _ h => h) (Or.inl ⟨by rfl, fun u hu => by (try dsimp only at hu); go_simp; try with_reducible rfl⟩) hHeld ?_
      simp only [Act.put, List.setIfInBounds_toArray, List.set_cons_zero, List.set_cons_succ]
      refine wpAnyH_take (i := 14) (oi := { dst := some 33, op := Op.extract (Operand.tmp 19) 1, type := 2, pos := "l08_games.go:60", after := #[{ on := 12, ground := Ground.data }, { on := 16, ground := Ground.gcOnly Departure.lateStores }], guard := none }) (v := .int .i64 cd) rfl (by kernel_rfl) (by kernel_rfl) (by kernel_rfl) (fun _ _ _ h => h) (Or.inl ⟨by rfl, fun u hu => by (try dsimp only at hu); go_simp; try with_reducible rfl⟩) hHeld ?_
      simp only [Act.put, List.setIfInBounds_toArray, List.set_cons_zero, List.set_cons_succ]
      refine wpAnyH_ready (rs := [15]) (by kernel_rfl) (by simp) ?_
      refine AllReadyH.cons rfl (fun K hK => ?_) AllReadyH.nil
      rw [if_pos (by rfl)]
      go_simp
      have HTh := Lib.hid (thN_new w5 79)
      have HB6 := Lib.hid (OnW.below HB.out (al1 w5 (.cells zero21.toArray 79)))
      have hs6 := HB.out.bel.size
      change K _ (w5.alloc (.cells zero21.toArray 79))
      (try dsimp only)
      refine hK.out _ _ (HT.out _ HB6.out) (fun hHeld => ?_)
      clear hK K
      (try simp only [Act.put, List.setIfInBounds_toArray, List.set_cons_zero, List.set_cons_succ])
      refine wpAnyH_ready (rs := [16]) (by kernel_rfl) (by simp) ?_
      refine AllReadyH.cons rfl (fun K hK => ?_) AllReadyH.nil
      rw [if_pos (by rfl)]
      refine wp_store_mid 79 _ _ rfl w5.heap.size 0 cs.toArray rfl rfl (by rw [show cs.toArray.size = 21 from by simpa using HCs.out.1]; exact HTh.out.th) (by rw [show cs.toArray.size = 21 from by simpa using HCs.out.1]; kernel_rfl) HCs.out.2 ?_
      (try simp only [Act.put, List.setIfInBounds_toArray])
      have HB7 := Lib.hid (show OnW u0 ((w5.alloc (.cells zero21.toArray 79)).setCells w5.heap.size 0 cs) from below_scg w5.heap.size hs6 cs 0 HB6.out)
      (try dsimp only)
      refine hK.out _ _ (HT.out _ HB7.out) (fun hHeld => ?_)
      clear hK K
      (try simp only [Act.put, List.setIfInBounds_toArray, List.set_cons_zero, List.set_cons_succ])
      refine wpAnyH_take (i := 17) (oi := { dst := some 6, op := Op.assign (Operand.tmp 33), type := 2, pos := "l08_games.go:60", after := #[{ on := 14, ground := Ground.data }, { on := 16, ground := Ground.chain }, { on := 0, ground := Ground.phase }, { on := 1, ground := Ground.phase }, { on := 2, ground := Ground.phase }, { on := 3, ground := Ground.phase }, { on := 4, ground := Ground.phase }, { on := 5, ground := Ground.phase }, { on := 6, ground := Ground.phase }, { on := 7, ground := Ground.phase }, { on := 8, ground := Ground.phase }, { on := 9, ground := Ground.phase }, { on := 10, ground := Ground.phase }, { on := 11, ground := Ground.phase }, { on := 12, ground := Ground.phase }, { on := 13, ground := Ground.phase }, { on := 14, ground := Ground.phase }, { on := 15, ground := Ground.phase }, { on := 16, ground := Ground.phase }], guard := none }) (v := .int .i64 cd) rfl (by kernel_rfl) (by kernel_rfl) (by kernel_rfl) (fun _ _ _ h => h) (Or.inl ⟨by rfl, fun u hu => by (try dsimp only at hu); go_simp; try with_reducible rfl⟩) hHeld ?_
      simp only [Act.put]
      refine wpAnyH_done (by kernel_rfl) ?_ _
      go_wp2_with fail
      go_meet
      exact ⟨w5.heap.size, cs, rfl, rfl, hs6, by rw [size_scg]; simp, World.rangeAt_setCells_same _ _ 0 _ (by rw [HCs.out.1]; exact HTh.out.th), HCs.out.1, HCs.out.2, MkP.below HP5.out (below_scg w5.heap.size (Nat.le_refl _) cs 0 (al1 w5 _)), HB7.out⟩
    · rw [if_pos (by rfl)]
      go_simp
      have HTh := Lib.hid (thN_new u0 79)
      have HB6 := Lib.hid (OnW.drew (show OnW u0 (u0.alloc (.cells zero21.toArray 79)) from al1 u0 _))
      change K _ (u0.alloc (.cells zero21.toArray 79)).drew
      have HB := HB6
      (try dsimp only)
      refine hK.out _ _ (HT.out _ HB.out) (fun hHeld => ?_)
      clear hK K
      (try simp only [Act.put, List.setIfInBounds_toArray, List.set_cons_zero, List.set_cons_succ])
      refine wpAnyH_ready (rs := [11]) (by kernel_rfl) (by simp) ?_
      refine AllReadyH.cons rfl (fun K hK => ?_) AllReadyH.nil
      rw [if_pos (by rfl)]
      go_simp
      go_at_call 65
      refine (HMk.out _ HB.out).mono ?_
      rintro e w5 ⟨cs, hc1, hc2, rfl, hP, hb5⟩
      have hsz0 := HB.out.bel.size
      have HCs := Lib.hid (And.intro hc1 hc2)
      have HTh5 := Lib.hid (ThN.below (ThN.below HTh.out (Below.refl _ _).drew) hb5)
      have HP5 := Lib.hid hP
      have HB := Lib.hid (OnW.below HB.out hb5)
      have hsz5 := hb5.size
      clear hP hb5 hc1 hc2
      (try dsimp only)
      refine hK.out _ _ (HT.out _ HB.out) (fun hHeld => ?_)
      clear hK K
      (try simp only [Act.put, List.setIfInBounds_toArray, List.set_cons_zero, List.set_cons_succ])
      refine wpAnyH_take (i := 12) (oi := { dst := some 19, op := Op.move (Operand.tmp 31), type := 99, pos := "l08_games.go:60", after := #[{ on := 11, ground := Ground.data }], guard := none }) (v := .tuple #[.agg cs.toArray, .int .i64 cd]) rfl (by kernel_rfl) (by kernel_rfl) (by kernel_rfl) (fun _ _ _ h => h) (Or.inl ⟨by rfl, fun u hu => by (try dsimp only at hu); go_simp; try with_reducible rfl⟩) hHeld ?_
      simp only [Act.put, List.setIfInBounds_toArray, List.set_cons_zero, List.set_cons_succ]
      refine wpAnyH_take (i := 13) (oi := { dst := some 32, op := Op.extract (Operand.tmp 19) 0, type := 79, pos := "l08_games.go:60", after := #[{ on := 12, ground := Ground.data }], guard := none }) (v := .agg cs.toArray) rfl (by kernel_rfl) (by kernel_rfl) (by kernel_rfl) (fun _ _ _ h => h) (Or.inl ⟨by rfl, fun u hu => by (try dsimp only at hu); go_simp; try with_reducible rfl⟩) hHeld ?_
      simp only [Act.put, List.setIfInBounds_toArray, List.set_cons_zero, List.set_cons_succ]
      refine wpAnyH_take (i := 14) (oi := { dst := some 33, op := Op.extract (Operand.tmp 19) 1, type := 2, pos := "l08_games.go:60", after := #[{ on := 12, ground := Ground.data }, { on := 16, ground := Ground.gcOnly Departure.lateStores }], guard := none }) (v := .int .i64 cd) rfl (by kernel_rfl) (by kernel_rfl) (by kernel_rfl) (fun _ _ _ h => h) (Or.inl ⟨by rfl, fun u hu => by (try dsimp only at hu); go_simp; try with_reducible rfl⟩) hHeld ?_
      simp only [Act.put, List.setIfInBounds_toArray, List.set_cons_zero, List.set_cons_succ]
      refine wpAnyH_ready (rs := [16]) (by kernel_rfl) (by simp) ?_
      refine AllReadyH.cons rfl (fun K hK => ?_) AllReadyH.nil
      rw [if_pos (by rfl)]
      refine wp_store_mid 79 _ _ rfl u0.heap.size 0 cs.toArray rfl rfl (by rw [show cs.toArray.size = 21 from by simpa using HCs.out.1]; exact HTh5.out.th) (by rw [show cs.toArray.size = 21 from by simpa using HCs.out.1]; kernel_rfl) HCs.out.2 ?_
      (try simp only [Act.put, List.setIfInBounds_toArray])
      have HB7 := Lib.hid (show OnW u0 (w5.setCells u0.heap.size 0 cs) from below_scg u0.heap.size (Nat.le_refl _) cs 0 HB.out)
      (try dsimp only)
      refine hK.out _ _ (HT.out _ HB7.out) (fun hHeld => ?_)
      clear hK K
      (try simp only [Act.put, List.setIfInBounds_toArray, List.set_cons_zero, List.set_cons_succ])
      refine wpAnyH_take (i := 17) (oi := { dst := some 6, op := Op.assign (Operand.tmp 33), type := 2, pos := "l08_games.go:60", after := #[{ on := 14, ground := Ground.data }, { on := 16, ground := Ground.chain }, { on := 0, ground := Ground.phase }, { on := 1, ground := Ground.phase }, { on := 2, ground := Ground.phase }, { on := 3, ground := Ground.phase }, { on := 4, ground := Ground.phase }, { on := 5, ground := Ground.phase }, { on := 6, ground := Ground.phase }, { on := 7, ground := Ground.phase }, { on := 8, ground := Ground.phase }, { on := 9, ground := Ground.phase }, { on := 10, ground := Ground.phase }, { on := 11, ground := Ground.phase }, { on := 12, ground := Ground.phase }, { on := 13, ground := Ground.phase }, { on := 14, ground := Ground.phase }, { on := 15, ground := Ground.phase }, { on := 16, ground := Ground.phase }], guard := none }) (v := .int .i64 cd) rfl (by kernel_rfl) (by kernel_rfl) (by kernel_rfl) (fun _ _ _ h => h) (Or.inl ⟨by rfl, fun u hu => by (try dsimp only at hu); go_simp; try with_reducible rfl⟩) hHeld ?_
      simp only [Act.put]
      refine wpAnyH_done (by kernel_rfl) ?_ _
      go_wp2_with fail
      go_meet
      exact ⟨u0.heap.size, cs, rfl, rfl, Nat.le_refl _, by rw [size_scg]; exact HTh5.out.lt, World.rangeAt_setCells_same _ _ 0 _ (by rw [HCs.out.1]; exact HTh5.out.th), HCs.out.1, HCs.out.2, MkP.low (MkP.but9 HP5.out (but_scg u0.heap.size cs 0 (But.refl _ _)) (by simp)) (by simp), HB7.out⟩
  case rest =>
    obtain ⟨z, cs, rfl, rfl, hz, hzl, hrg, hcl, hone, hP, hB⟩ := hcut
    cases LV with
    | none =>
      have d := HCd.out.1 rfl
      have hbB := Lib.hid (Below.trans hbu.out (Below.mono hB hbu.out.size))
      clear hrg hone hP hB hcl c12
      go_wp2_with fail
      go_ret
      exact ⟨rfl, hbB.out⟩
    | some mr =>
      obtain rfl := HCd.out.2 (by simp)
      obtain ⟨hnx, hl1, hl2⟩ := HLV.out mr rfl
      obtain ⟨s1, s2, sc1, sc2, g1, k1, g2, k2, rfl, ho, l1, l2, kk1, kk2⟩ := hP
      have hpz : pb < u0.heap.size := H.out.g.lt
      have HP5 := Lib.hid ((H.out.below hB).rows (H0 := u0.heap.size) H.out.be.size (fun i hi => (own_lt H.out.mo i hi).2) (fun i hi => (own_lt H.out.tu i hi).2) hpz ho l1 l2)
      have ng1 := ho.o1.new
      have ng2 := ho.o2.new
      have hv1z : ∀ i, (Value.slice ma ms.length mc).ownBlock = some i → i < u0.heap.size := fun i hi => (own_lt H.out.mo i hi).2
      have hv2z : ∀ i, v2.ownBlock = some i → i < u0.heap.size := fun i hi => (own_lt H.out.tu i hi).2
      have HV1 := Lib.hid hv1z
      have HV2 := Lib.hid hv2z
      have hb1 := fun y hy => (H.out.rws y hy).lt
      have hDs : Dist b1 b2 g1 g2 := ⟨by have := hb1 _ H.out.s1; simp only at this; omega, by have := hb1 _ H.out.s1; simp only at this; omega, by have := hb1 _ H.out.s2; simp only at this; omega, by have := hb1 _ H.out.s2; simp only at this; omega, H.out.di.2.2.2.2.1, ho.ne⟩
      have HRz := Lib.hid hrg
      have HIt : Hid (ItT ((g1, mr.2.xs) :: (g2, mr.2.ys) :: R) b1 b2 n1 (⟨q, mr.1, mr.2⟩, ⟨h1, h2, d1, d2, s1, s2, sc1, sc2, g1, g2, k1, k2⟩)) := Lib.hid ⟨.tail _ (.tail _ H.out.y1), .tail _ (.tail _ H.out.y2), .head _, .tail _ (.head _), H.out.di, hDs, H.out.m3, H.out.m4, hl1, hl2, H.out.k3, H.out.k4, kk1, kk2⟩
      have HDs := Lib.hid (And.intro hDs (And.intro hl1 (And.intro hl2 (And.intro kk1 (And.intro kk2 hnx)))))
      have c12 := HP5.out.g.c12
      have hwcs := HP5.out.be.size
      clear hrg hone hcl ho l1 l2 hv1z hv2z hb1 hDs hl1 hl2 kk1 kk2 hnx
      go_upto_region 9 with (at_builtin; refine wpList_append_lies _ rfl _ _ 24 rfl w.heap.size 2 i1 (.int .i64 0) 1 8 Try.underlying24 hi1 hy0 hy1 hy2 rfl (by decide) (.slice ma ms.length mc) ms.length (nvs ms) rfl (own_keepS HP5.out.mo (al1 _ _)) ⟨wc.heap.size, 0, none⟩ 1 1 (nvs [move]) rfl (by simp [nvs]) (row_news (row_oneL wc move 2)) (nvs_cell _) (by decide) (by unfold maxLen; omega) (by omega) (by simp; omega) _ rfl ?_; intro g cap w7 hown7 hgrow7 hat7 hlt7; (obtain ⟨bb, hbb, kb7⟩ := grown_but hgrow7 pb HP5.out.p1); have G7 := (HP5.out.g.below (al1 wc _)).but kb7 hbb; have c12' := G7.c12; have f12 := G7.fr 12; have l12 := G7.lt; clear G7)
      have HP6 := Lib.hid ((HP5.out.below (al1 wc (.cells #[.int .i64 move] 2))).pushM hown7 hgrow7 (by simpa using hat7))
      have HRz6 := Lib.hid (rg_but (rg_grown (rg_below HRz.out hzl (al1 wc (.cells #[.int .i64 move] 2))) (by simp; omega) hgrow7 (fun i hi => by have := HV1.out i hi; omega)) (Nat.lt_of_lt_of_le hzl (by have := hgrow7.size; simp at this; omega)) (show z ≠ pb by omega) (but_setM pb w7 (.slice (some ⟨g, 0, none⟩) (ms.length + 1) cap)))
      have hz8 : z < (w7.setCell ⟨pb, 12, none⟩ (.slice (some ⟨g, 0, none⟩) (ms.length + 1) cap)).heap.size := by have := hgrow7.size; simp at this ⊢; omega
      clear hown7 hgrow7 hat7 hlt7 kb7 hbb c12' f12 l12 c12
      generalize w7.setCell ⟨pb, 12, none⟩ (.slice (some ⟨g, 0, none⟩) (ms.length + 1) cap) = W8 at *
      have HB8 := Lib.hid (Below.refl W8.heap.size W8).drew
      have HA9 := Lib.hid (al1 W8.drew (.cells (cells21 p s c l st sk re fe ag n1 (⟨q, mr.1, mr.2⟩, ⟨h1, h2, d1, d2, s1, s2, sc1, sc2, g1, g2, k1, k2⟩)).toArray 79))
      go_cut [49] (fun s49 wx => s49 = .pointer (some ⟨pb, 0, none⟩) ∧ ∃ (v2' : Value) (x : T21 × Q21), PlK w pb p s c l st sk re fe ag n1 b1 e1 b2 e2 sp sx sy (.slice (some ⟨g, 0, none⟩) (ms.length + 1) cap) v2' (ms ++ [move]) (L ++ [x]) h1 d1 h2 d2 q (-1) ((g1, mr.2.xs) :: (g2, mr.2.ys) :: R) wx ∧ x.1 = ⟨q, mr.1, mr.2⟩ ∧ wx.rangeAt z 0 (cells21 p s c l st sk re fe ag n1 (⟨q, mr.1, mr.2⟩, ⟨h1, h2, d1, d2, s1, s2, sc1, sc2, g1, g2, k1, k2⟩)) ∧ z < wx.heap.size)
      case first =>
        refine wp_region_held_drew (S := (fun u => u.rangeAt z 0 (cells21 p s c l st sk re fe ag n1 (⟨q, mr.1, mr.2⟩, ⟨h1, h2, d1, d2, s1, s2, sc1, sc2, g1, g2, k1, k2⟩)))) (by kernel_rfl) (rg_below HRz6.out hz8 HB8.out) (fun hHeld => ?_)
        refine wpAnyH_take (i := 0) (oi := { dst := some 49, op := Op.move (Operand.tmp 0), type := 97, pos := "l08_games.go:65", after := #[], guard := none }) (v := .pointer (some ⟨pb, 0, none⟩)) rfl (by kernel_rfl) (by kernel_rfl) (by kernel_rfl) (fun _ _ _ h => h) (Or.inl ⟨by rfl, fun u hu => by (try dsimp only at hu); go_simp; try with_reducible rfl⟩) hHeld ?_
        simp only [Act.put, List.setIfInBounds_toArray, List.set_cons_zero, List.set_cons_succ]
        refine wpAnyH_take (i := 1) (oi := { dst := some 50, op := Op.move (Operand.tmp 0), type := 97, pos := "l08_games.go:65", after := #[], guard := none }) (v := .pointer (some ⟨pb, 0, none⟩)) rfl (by kernel_rfl) (by kernel_rfl) (by kernel_rfl) (fun _ _ _ h => h) (Or.inl ⟨by rfl, fun u hu => by (try dsimp only at hu); go_simp; try with_reducible rfl⟩) hHeld ?_
        simp only [Act.put, List.setIfInBounds_toArray, List.set_cons_zero, List.set_cons_succ]
        refine wpAnyH_take (i := 2) (oi := { dst := some 51, op := Op.nilCheck (Operand.tmp 50), type := 0, pos := "l08_games.go:65", after := #[{ on := 1, ground := Ground.data }], guard := none }) (v := .pointer (some ⟨pb, 0, none⟩)) rfl (by kernel_rfl) (by kernel_rfl) (by kernel_rfl) (fun _ _ _ h => h) (Or.inl ⟨by rfl, fun u hu => by (try dsimp only at hu); go_simp; try with_reducible rfl⟩) hHeld ?_
        simp only [Act.put, List.setIfInBounds_toArray, List.set_cons_zero, List.set_cons_succ]
        refine wpAnyH_take (i := 3) (oi := { dst := some 52, op := Op.fieldAddr 61 (Operand.tmp 51) 1, type := 0, pos := "l08_games.go:65", after := #[{ on := 2, ground := Ground.data }], guard := none }) (v := .pointer (some ⟨pb, 17, none⟩)) rfl (by kernel_rfl) (by kernel_rfl) (by kernel_rfl) (fun _ _ _ h => h) (Or.inl ⟨by rfl, fun u hu => by (try dsimp only at hu); go_simp; try with_reducible rfl⟩) hHeld ?_
        simp only [Act.put, List.setIfInBounds_toArray, List.set_cons_zero, List.set_cons_succ]
        refine wpAnyH_take (i := 5) rfl (by kernel_rfl) (by kernel_rfl) (by kernel_rfl) (fun _ _ _ h => h) (yieldsIf_load_mid (by rfl) 79 _ rfl z 0 rfl (cells21 p s c l st sk re fe ag n1 (⟨q, mr.1, mr.2⟩, ⟨h1, h2, d1, d2, s1, s2, sc1, sc2, g1, g2, k1, k2⟩)) _ (fun u hu => hu) Try.underlying79 rfl (by kernel_rfl)) hHeld ?_
        simp only [Act.put, List.setIfInBounds_toArray]
        refine wpAnyH_ready (rs := [4, 6]) (by kernel_rfl) (by simp) ?_
        refine AllReadyH.cons rfl (fun K hK => ?_) (AllReadyH.cons rfl (fun K hK => ?_) AllReadyH.nil)
        · rw [if_pos (by rfl)]
          have tv8 := HP6.out.drew.tv
          go_simp
          (try dsimp only)
          refine hK.out _ _ (rg_below HRz6.out hz8 HB8.out) (fun hHeld => ?_)
          clear hK K
          (try simp only [Act.put, List.setIfInBounds_toArray, List.set_cons_zero, List.set_cons_succ])
          refine wpAnyH_ready (rs := [6]) (by kernel_rfl) (by simp) ?_
          refine AllReadyH.cons rfl (fun K hK => ?_) AllReadyH.nil
          rw [if_pos (by rfl)]
          unfold cells21
          go_simp
          change K _ (W8.drew.alloc (.cells (cells21 p s c l st sk re fe ag n1 (⟨q, mr.1, mr.2⟩, ⟨h1, h2, d1, d2, s1, s2, sc1, sc2, g1, g2, k1, k2⟩)).toArray 79))
          (try dsimp only)
          refine hK.out _ _ (rg_below (rg_below HRz6.out hz8 HB8.out) hz8 HA9.out) (fun hHeld => ?_)
          clear hK K
          (try simp only [Act.put, List.setIfInBounds_toArray, List.set_cons_zero, List.set_cons_succ])
          refine wpAnyH_ready (rs := [7]) (by kernel_rfl) (by simp) ?_
          refine AllReadyH.cons rfl (fun K hK => ?_) AllReadyH.nil
          refine step_append_lies _ rfl _ _ 59 rfl w.heap.size 79 i2 (.agg zero21.toArray) 21 232 Try.underlying59 hi2 hx0 hx1 hx2 rfl (by decide) v2 L.length (flat21 p s c l st sk re fe ag n1 L) rfl (own_keepS HP6.out.drew.tu (al1 _ _)) ⟨W8.heap.size, 0, none⟩ 1 1 (cells21 p s c l st sk re fe ag n1 (⟨q, mr.1, mr.2⟩, ⟨h1, h2, d1, d2, s1, s2, sc1, sc2, g1, g2, k1, k2⟩)) rfl rfl (cells21_news W8.drew 79 (cells21 p s c l st sk re fe ag n1 (⟨q, mr.1, mr.2⟩, ⟨h1, h2, d1, d2, s1, s2, sc1, sc2, g1, g2, k1, k2⟩)) W8.heap.size rfl) (cells21_one _) (by decide) (by have := HLl.out; unfold maxLen; omega) (by have := HLl.out; omega) (by have := HP6.out.be.size; simp; omega) _ rfl ?_
          intro g' cap' w9 hown9 hgrow9 hat9 hlt9
          have HP9 := Lib.hid (HP6.out.drew.below HA9.out)
          have HRz9 := Lib.hid (rg_grown (rg_below (rg_below HRz6.out hz8 HB8.out) hz8 HA9.out) (by simp; omega) hgrow9 (fun i hi => by have := HV2.out i hi; omega))
          (obtain ⟨bb, hbb, kb9⟩ := grown_but hgrow9 pb HP9.out.p2)
          have G9 := HP9.out.g.but kb9 hbb
          have tv9 := (kb9.cell (o := 17) HP9.out.g.lt hbb).trans HP9.out.tv
          have f17 := G9.fr 17
          have l17 := G9.lt
          (try dsimp only)
          refine hK.out _ _ HRz9.out (fun hHeld => ?_)
          clear hK K
          (try simp only [Act.put, List.setIfInBounds_toArray])
          refine wpAnyH_take (i := 8) (oi := { dst := some 57, op := Op.nilCheck (Operand.tmp 49), type := 0, pos := "l08_games.go:65", after := #[{ on := 0, ground := Ground.data }, { on := 0, ground := Ground.phase }, { on := 1, ground := Ground.phase }, { on := 2, ground := Ground.phase }, { on := 3, ground := Ground.phase }, { on := 4, ground := Ground.phase }, { on := 5, ground := Ground.phase }, { on := 6, ground := Ground.phase }, { on := 7, ground := Ground.phase }], guard := none }) (v := .pointer (some ⟨pb, 0, none⟩)) rfl (by kernel_rfl) (by kernel_rfl) (by kernel_rfl) (fun _ _ _ h => h) (Or.inl ⟨by rfl, fun u hu => by (try dsimp only at hu); go_simp; try with_reducible rfl⟩) hHeld ?_
          simp only [Act.put]
          refine wpAnyH_take (i := 9) (oi := { dst := some 58, op := Op.fieldAddr 61 (Operand.tmp 57) 1, type := 0, pos := "l08_games.go:65", after := #[{ on := 8, ground := Ground.data }, { on := 0, ground := Ground.phase }, { on := 1, ground := Ground.phase }, { on := 2, ground := Ground.phase }, { on := 3, ground := Ground.phase }, { on := 4, ground := Ground.phase }, { on := 5, ground := Ground.phase }, { on := 6, ground := Ground.phase }, { on := 7, ground := Ground.phase }], guard := none }) (v := .pointer (some ⟨pb, 17, none⟩)) rfl (by kernel_rfl) (by kernel_rfl) (by kernel_rfl) (fun _ _ _ h => h) (Or.inl ⟨by rfl, fun u hu => by (try dsimp only at hu); go_simp; try with_reducible rfl⟩) hHeld ?_
          simp only [Act.put]
          refine wpAnyH_ready (rs := [10]) (by kernel_rfl) (by simp) ?_
          refine AllReadyH.cons rfl (fun K hK => ?_) AllReadyH.nil
          rw [if_pos (by rfl)]
          go_simp
          have HRz10 := Lib.hid (rg_but HRz9.out (Nat.lt_of_lt_of_le hz8 (by have := hgrow9.size; simp at this; omega)) (show z ≠ pb by omega) ((But.refl pb w9).setCell (p := ⟨pb, 17, none⟩) rfl (.slice (some ⟨g', 0, none⟩) (L.length + 1) cap')))
          have HP10 := Lib.hid (HP9.out.pushT HIt.out hown9 hgrow9 (by simpa using hat9))
          (try dsimp only)
          refine hK.out _ _ HRz10.out (fun hHeld => ?_)
          clear hK K
          (try simp only [Act.put, List.setIfInBounds_toArray, List.set_cons_zero, List.set_cons_succ])
          refine wpAnyH_done (by kernel_rfl) ?_ _
          go_wp2_with fail
          go_meet
          exact ⟨rfl, _, _, HP10.out, rfl, HRz10.out, Nat.lt_of_lt_of_le hz8 (by have := hgrow9.size; simp at this ⊢; omega)⟩
        · rw [if_pos (by rfl)]
          unfold cells21
          go_simp
          change K _ (W8.drew.alloc (.cells (cells21 p s c l st sk re fe ag n1 (⟨q, mr.1, mr.2⟩, ⟨h1, h2, d1, d2, s1, s2, sc1, sc2, g1, g2, k1, k2⟩)).toArray 79))
          (try dsimp only)
          refine hK.out _ _ (rg_below (rg_below HRz6.out hz8 HB8.out) hz8 HA9.out) (fun hHeld => ?_)
          clear hK K
          (try simp only [Act.put, List.setIfInBounds_toArray, List.set_cons_zero, List.set_cons_succ])
          refine wpAnyH_ready (rs := [4]) (by kernel_rfl) (by simp) ?_
          refine AllReadyH.cons rfl (fun K hK => ?_) AllReadyH.nil
          rw [if_pos (by rfl)]
          have tv8 := HP6.out.tv; have l8 := HP6.out.g.lt
          go_simp
          change K _ (W8.drew.alloc (.cells (cells21 p s c l st sk re fe ag n1 (⟨q, mr.1, mr.2⟩, ⟨h1, h2, d1, d2, s1, s2, sc1, sc2, g1, g2, k1, k2⟩)).toArray 79))
          (try dsimp only)
          refine hK.out _ _ (rg_below (rg_below HRz6.out hz8 HB8.out) hz8 HA9.out) (fun hHeld => ?_)
          clear hK K
          (try simp only [Act.put, List.setIfInBounds_toArray, List.set_cons_zero, List.set_cons_succ])
          refine wpAnyH_ready (rs := [7]) (by kernel_rfl) (by simp) ?_
          refine AllReadyH.cons rfl (fun K hK => ?_) AllReadyH.nil
          refine step_append_lies _ rfl _ _ 59 rfl w.heap.size 79 i2 (.agg zero21.toArray) 21 232 Try.underlying59 hi2 hx0 hx1 hx2 rfl (by decide) v2 L.length (flat21 p s c l st sk re fe ag n1 L) rfl (own_keepS HP6.out.drew.tu (al1 _ _)) ⟨W8.heap.size, 0, none⟩ 1 1 (cells21 p s c l st sk re fe ag n1 (⟨q, mr.1, mr.2⟩, ⟨h1, h2, d1, d2, s1, s2, sc1, sc2, g1, g2, k1, k2⟩)) rfl rfl (cells21_news W8.drew 79 (cells21 p s c l st sk re fe ag n1 (⟨q, mr.1, mr.2⟩, ⟨h1, h2, d1, d2, s1, s2, sc1, sc2, g1, g2, k1, k2⟩)) W8.heap.size rfl) (cells21_one _) (by decide) (by have := HLl.out; unfold maxLen; omega) (by have := HLl.out; omega) (by have := HP6.out.be.size; simp; omega) _ rfl ?_
          intro g' cap' w9 hown9 hgrow9 hat9 hlt9
          have HP9 := Lib.hid (HP6.out.drew.below HA9.out)
          have HRz9 := Lib.hid (rg_grown (rg_below (rg_below HRz6.out hz8 HB8.out) hz8 HA9.out) (by simp; omega) hgrow9 (fun i hi => by have := HV2.out i hi; omega))
          (obtain ⟨bb, hbb, kb9⟩ := grown_but hgrow9 pb HP9.out.p2)
          have G9 := HP9.out.g.but kb9 hbb
          have tv9 := (kb9.cell (o := 17) HP9.out.g.lt hbb).trans HP9.out.tv
          have f17 := G9.fr 17
          have l17 := G9.lt
          (try dsimp only)
          refine hK.out _ _ HRz9.out (fun hHeld => ?_)
          clear hK K
          (try simp only [Act.put, List.setIfInBounds_toArray])
          refine wpAnyH_take (i := 8) (oi := { dst := some 57, op := Op.nilCheck (Operand.tmp 49), type := 0, pos := "l08_games.go:65", after := #[{ on := 0, ground := Ground.data }, { on := 0, ground := Ground.phase }, { on := 1, ground := Ground.phase }, { on := 2, ground := Ground.phase }, { on := 3, ground := Ground.phase }, { on := 4, ground := Ground.phase }, { on := 5, ground := Ground.phase }, { on := 6, ground := Ground.phase }, { on := 7, ground := Ground.phase }], guard := none }) (v := .pointer (some ⟨pb, 0, none⟩)) rfl (by kernel_rfl) (by kernel_rfl) (by kernel_rfl) (fun _ _ _ h => h) (Or.inl ⟨by rfl, fun u hu => by (try dsimp only at hu); go_simp; try with_reducible rfl⟩) hHeld ?_
          simp only [Act.put]
          refine wpAnyH_take (i := 9) (oi := { dst := some 58, op := Op.fieldAddr 61 (Operand.tmp 57) 1, type := 0, pos := "l08_games.go:65", after := #[{ on := 8, ground := Ground.data }, { on := 0, ground := Ground.phase }, { on := 1, ground := Ground.phase }, { on := 2, ground := Ground.phase }, { on := 3, ground := Ground.phase }, { on := 4, ground := Ground.phase }, { on := 5, ground := Ground.phase }, { on := 6, ground := Ground.phase }, { on := 7, ground := Ground.phase }], guard := none }) (v := .pointer (some ⟨pb, 17, none⟩)) rfl (by kernel_rfl) (by kernel_rfl) (by kernel_rfl) (fun _ _ _ h => h) (Or.inl ⟨by rfl, fun u hu => by (try dsimp only at hu); go_simp; try with_reducible rfl⟩) hHeld ?_
          simp only [Act.put]
          refine wpAnyH_ready (rs := [10]) (by kernel_rfl) (by simp) ?_
          refine AllReadyH.cons rfl (fun K hK => ?_) AllReadyH.nil
          rw [if_pos (by rfl)]
          go_simp
          have HRz10 := Lib.hid (rg_but HRz9.out (Nat.lt_of_lt_of_le hz8 (by have := hgrow9.size; simp at this; omega)) (show z ≠ pb by omega) ((But.refl pb w9).setCell (p := ⟨pb, 17, none⟩) rfl (.slice (some ⟨g', 0, none⟩) (L.length + 1) cap')))
          have HP10 := Lib.hid (HP9.out.pushT HIt.out hown9 hgrow9 (by simpa using hat9))
          (try dsimp only)
          refine hK.out _ _ HRz10.out (fun hHeld => ?_)
          clear hK K
          (try simp only [Act.put, List.setIfInBounds_toArray, List.set_cons_zero, List.set_cons_succ])
          refine wpAnyH_done (by kernel_rfl) ?_ _
          go_wp2_with fail
          go_meet
          exact ⟨rfl, _, _, HP10.out, rfl, HRz10.out, Nat.lt_of_lt_of_le hz8 (by have := hgrow9.size; simp at this ⊢; omega)⟩
      case rest =>
        obtain ⟨rfl, v2', x, hP9, hx, hrz, hzl9⟩ := hcut
        have HP9 := Lib.hid hP9
        have HRz9 := Lib.hid hrz
        have HX := Lib.hid hx
        obtain ⟨hDs, hl1, hl2, kk1, kk2, hnx⟩ := HDs.out
        have HNx := Lib.hid hnx
        have HDs2 := Lib.hid (And.intro hDs (And.intro hl1 (And.intro hl2 (And.intro kk1 kk2))))
        clear hP9 hrz hx hDs hl1 hl2 kk1 kk2 hnx
        go_wp2_with (refine wpList_load_mid rfl 79 _ rfl z 0 rfl _ _ HRz9.out Try.underlying79 rfl (by kernel_rfl) ?_)
        refine (nextM_any p s c l st sk re fe ag q.pl s1 s2 n1 sc1 2 sc2 mr.1.last mr.1.laps (some ⟨h1, 0, none⟩) (some ⟨h2, 0, none⟩) n1 d1 2 d2 q.pl (some ⟨g1, 0, none⟩) (some ⟨g2, 0, none⟩) n1 k1 2 k2 mr.1.last mr.1.laps _ Hpl.out).mono ?_
        rintro e w10 ⟨rfl, hb⟩
        rw [← HNx.out]
        have HP10 := Lib.hid (HP9.out.below hb)
        obtain ⟨lt, -, -, -, -, -, -, -, -, -, -, -, -, -, q13, q14, q15, -, fr⟩ := HP10.out.g
        have f13 := fr 13
        have f14 := fr 14
        have f15 := fr 15
        clear fr hb
        go_wp2_with fail
        go_ret
        obtain ⟨hDs, hl1, hl2, kk1, kk2⟩ := HDs2.out
        exact ⟨rfl, _, v2', x, g1, k1, g2, k2, _, HP10.out.turn (q' := mr.2.ps) (.head _) (.tail _ (.head _)) hDs hl1 hl2 kk1 kk2, HX.out⟩
end Go.Proofs.Ytenpnilljjfmkaa

/- Bp8 -/
namespace Go.Proofs.Ytenpnilljjfmkaa
open Go.Joins Go.ChangeShapes Go.WideShapes Go.ChangeAt Go.RowKit Go.Deep
set_option linter.unusedVariables false

/-- A new play, and the room of its rows. -/
def NewPC (p s c l : Int) (st sk re fe ag : Bool) (qn1 qn2 : Nat) (qp : Int) (xs ys : List Int) (w : World) (e : Ending) (w' : World) : Prop :=
  ∃ g1 c1 g2 c2 g4 c4 g5 c5 : Nat, e = .returned (.agg #[.int .i64 p, .int .i64 s, .bool st, .bool sk, .bool re, .bool fe, .bool ag, .int .i64 c, .int .i64 l, .slice (some ⟨g1, 0, none⟩) qn1 c1, .slice (some ⟨g2, 0, none⟩) qn2 c2, .int .i64 qp, .slice none 0 0, .slice (some ⟨g4, 0, none⟩) qn1 c4, .slice (some ⟨g5, 0, none⟩) qn2 c5, .int .i64 qp, .int .i64 (-1), .slice none 0 0]) ∧ NewR w w' g1 g2 g4 g5 qn1 qn2 xs ys ∧ qn1 ≤ c1 ∧ qn2 ≤ c2 ∧ qn1 ≤ c4 ∧ qn2 ≤ c5
set_option maxHeartbeats 4000000 in
set_option maxRecDepth 100000 in
theorem beginPlayC_any (p s c l : Int) (st sk re fe ag : Bool) (q1 q2 : Option Addr) (qn1 qc1 qn2 qc2 : Nat) (qp : Int) (xs ys : List Int) (w : World) (h : PosR w q1 q2 qn1 qn2 xs ys) (hne1 : xs ≠ []) (hne2 : ys ≠ []) :
    Calls Try.prog 36 #[.agg #[.int .i64 p, .int .i64 s, .bool st, .bool sk, .bool re, .bool fe, .bool ag, .int .i64 c, .int .i64 l], .agg #[.slice q1 qn1 qc1, .slice q2 qn2 qc2, .int .i64 qp]] w (NewPC p s c l st sk re fe ag qn1 qn2 qp xs ys w) := by
  have H := Lib.hid h
  have HN := Lib.hid (And.intro hne1 hne2)
  have hs := rp_new p s c l st sk re fe ag q1 q2 qn1 qc1 qn2 qc2 qp w 28 29
  have hth := there18 ((w.alloc (.cells #[.int .i64 p, .int .i64 s, .bool st, .bool sk, .bool re, .bool fe, .bool ag, .int .i64 c, .int .i64 l] 28)).alloc (.cells #[.slice q1 qn1 qc1, .slice q2 qn2 qc2, .int .i64 qp] 29)) 61
  have hbz := al1 ((w.alloc (.cells #[.int .i64 p, .int .i64 s, .bool st, .bool sk, .bool re, .bool fe, .bool ag, .int .i64 c, .int .i64 l] 28)).alloc (.cells #[.slice q1 qn1 qc1, .slice q2 qn2 qc2, .int .i64 qp] 29)) (.cells #[.int .i64 0, .int .i64 0, .bool false, .bool false, .bool false, .bool false, .bool false, .int .i64 0, .int .i64 0, .slice none 0 0, .slice none 0 0, .int .i64 0, .slice none 0 0, .slice none 0 0, .slice none 0 0, .int .i64 0, .int .i64 0, .slice none 0 0] 61)
  have hsz : ((w.alloc (.cells #[.int .i64 p, .int .i64 s, .bool st, .bool sk, .bool re, .bool fe, .bool ag, .int .i64 c, .int .i64 l] 28)).alloc (.cells #[.slice q1 qn1 qc1, .slice q2 qn2 qc2, .int .i64 qp] 29)).heap.size = w.heap.size + 1 + 1 := by simp
  rw [hsz] at hth
  have HR := Lib.hid (hs.1.below hbz)
  have HP := Lib.hid (hs.2.1.below hbz)
  have HB := Lib.hid (hs.2.2.trans (hbz.mono hs.2.2.size))
  have HG : Hid (Th18 (((w.alloc (.cells #[.int .i64 p, .int .i64 s, .bool st, .bool sk, .bool re, .bool fe, .bool ag, .int .i64 c, .int .i64 l] 28)).alloc (.cells #[.slice q1 qn1 qc1, .slice q2 qn2 qc2, .int .i64 qp] 29)).alloc (.cells #[.int .i64 0, .int .i64 0, .bool false, .bool false, .bool false, .bool false, .bool false, .int .i64 0, .int .i64 0, .slice none 0 0, .slice none 0 0, .int .i64 0, .slice none 0 0, .slice none 0 0, .slice none 0 0, .int .i64 0, .int .i64 0, .slice none 0 0] 61)) (w.heap.size + 1 + 1)) := Lib.hid ⟨by simp, hth⟩
  have hw1 : w.heap.size + 1 + 1 < (((w.alloc (.cells #[.int .i64 p, .int .i64 s, .bool st, .bool sk, .bool re, .bool fe, .bool ag, .int .i64 c, .int .i64 l] 28)).alloc (.cells #[.slice q1 qn1 qc1, .slice q2 qn2 qc2, .int .i64 qp] 29)).alloc (.cells #[.int .i64 0, .int .i64 0, .bool false, .bool false, .bool false, .bool false, .bool false, .int .i64 0, .int .i64 0, .slice none 0 0, .slice none 0 0, .int .i64 0, .slice none 0 0, .slice none 0 0, .slice none 0 0, .int .i64 0, .int .i64 0, .slice none 0 0] 61)).heap.size := by simp
  clear h hne1 hne2 hs hth hbz hsz
  go_enter Try.func36, Try.ntmps36
  go_upto_region 1 with fail
  generalize hU : ((w.alloc (.cells #[.int .i64 p, .int .i64 s, .bool st, .bool sk, .bool re, .bool fe, .bool ag, .int .i64 c, .int .i64 l] 28)).alloc (.cells #[.slice q1 qn1 qc1, .slice q2 qn2 qc2, .int .i64 qp] 29)).alloc (.cells #[.int .i64 0, .int .i64 0, .bool false, .bool false, .bool false, .bool false, .bool false, .int .i64 0, .int .i64 0, .slice none 0 0, .slice none 0 0, .int .i64 0, .slice none 0 0, .slice none 0 0, .slice none 0 0, .int .i64 0, .int .i64 0, .slice none 0 0] 61) = U at *
  clear hU
  refine wp_region_held_drew (S := fun u => u.rangeAt w.heap.size 0 [.int .i64 p, .int .i64 s, .bool st, .bool sk, .bool re, .bool fe, .bool ag, .int .i64 c, .int .i64 l] ∧ u.rangeAt (w.heap.size + 1) 0 [.slice q1 qn1 qc1, .slice q2 qn2 qc2, .int .i64 qp]) (by kernel_rfl) ⟨RuAt.range9 HR.out, PoAt.range3 HP.out⟩ (fun hHeld => ?_)
  have HR := Lib.hid (HR.out.below (below_dn (Below.refl _ _) 1))
  have HP := Lib.hid (HP.out.below (below_dn (Below.refl _ _) 1))
  have HB := Lib.hid (below_dn HB.out 1)
  have HG := Lib.hid (HG.out.below (below_dn (Below.refl _ _) 1))
  refine wpAnyH_take (i := 0) rfl (by kernel_rfl) (by kernel_rfl) (by kernel_rfl) (fun _ _ _ h => h) (yieldsIf_load_mid (by rfl) 28 _ rfl w.heap.size 0 rfl [.int .i64 p, .int .i64 s, .bool st, .bool sk, .bool re, .bool fe, .bool ag, .int .i64 c, .int .i64 l] _ (fun u hu => hu.1) Try.underlying28 rfl (by kernel_rfl)) hHeld ?_
  simp only [Act.put, List.setIfInBounds_toArray]
  refine wpAnyH_take (i := 1) rfl (by kernel_rfl) (by kernel_rfl) (by kernel_rfl) (fun _ _ _ h => h) (yieldsIf_load_mid (by rfl) 29 _ rfl (w.heap.size + 1) 0 rfl [.slice q1 qn1 qc1, .slice q2 qn2 qc2, .int .i64 qp] _ (fun u hu => hu.2) Try.underlying29 rfl (by kernel_rfl)) hHeld ?_
  simp only [Act.put]
  refine wpAnyH_take (i := 3) rfl (by kernel_rfl) (by kernel_rfl) (by kernel_rfl) (fun _ _ _ h => h) (yieldsIf_load_mid (by rfl) 29 _ rfl (w.heap.size + 1) 0 rfl [.slice q1 qn1 qc1, .slice q2 qn2 qc2, .int .i64 qp] _ (fun u hu => hu.2) Try.underlying29 rfl (by kernel_rfl)) hHeld ?_
  simp only [Act.put]
  refine wpAnyH_ready (rs := [2]) (by kernel_rfl) (by simp) ?_
  refine AllReadyH.cons rfl (fun K hK => ?_) AllReadyH.nil
  rw [if_pos (by rfl)]
  go_simp
  go_at_call 55
  refine (copy_any q1 q2 qn1 qc1 qn2 qc2 qp xs ys _ (H.out.below HB.out) HN.out.1 HN.out.2).mono ?_
  rintro e w2 ⟨g1, c1, g2, c2, rfl, ho, lg, lh, lc, ld, hb⟩
  have HR := Lib.hid (HR.out.below hb)
  have HP := Lib.hid (HP.out.below hb)
  have HG := Lib.hid (HG.out.below hb)
  have HB := Lib.hid (HB.out.trans (hb.mono HB.out.size))
  have O1 := Lib.hid ho
  have O1l := Lib.hid (And.intro lg (And.intro lh (And.intro lc ld)))
  clear hb ho lg lh lc ld
  (try dsimp only)
  refine hK.out _ _ ⟨RuAt.range9 HR.out, PoAt.range3 HP.out⟩ (fun hHeld => ?_)
  clear hK K
  (try simp only [Act.put, List.setIfInBounds_toArray, List.set_cons_zero, List.set_cons_succ])
  refine wpAnyH_ready (rs := [4]) (by kernel_rfl) (by simp) ?_
  refine AllReadyH.cons rfl (fun K hK => ?_) AllReadyH.nil
  rw [if_pos (by rfl)]
  go_simp
  go_at_call 55
  refine (copy_any q1 q2 qn1 qc1 qn2 qc2 qp xs ys _ (H.out.below HB.out) HN.out.1 HN.out.2).mono ?_
  rintro e w4 ⟨g4, c4, g5, c5, rfl, ho, lg, lh, lc, ld, hb⟩
  have HR := Lib.hid (HR.out.below hb)
  have HP := Lib.hid (HP.out.below hb)
  have HG := Lib.hid (HG.out.below hb)
  have O1 := Lib.hid (O1.out.below hb)
  have HB := Lib.hid (HB.out.trans (hb.mono HB.out.size))
  have O2 := Lib.hid ho
  have O2l := Lib.hid (And.intro lg (And.intro lh (And.intro lc ld)))
  clear hb ho lg lh lc ld
  (try dsimp only)
  refine hK.out _ _ ⟨RuAt.range9 HR.out, PoAt.range3 HP.out⟩ (fun hHeld => ?_)
  clear hK K
  (try simp only [Act.put, List.setIfInBounds_toArray, List.set_cons_zero, List.set_cons_succ])
  refine wpAnyH_take (i := 5) (oi := { dst := some 10, op := Op.build 31 #[(0, Operand.tmp 5), (1, Operand.tmp 7), (3, Operand.tmp 9), (4, Operand.const (Value.int IntKind.i64 (-1)))], type := 31, pos := "l08_games.go:32", after := #[{ on := 0, ground := Ground.data }, { on := 2, ground := Ground.data }, { on := 4, ground := Ground.data }], guard := none }) (v := .agg #[.int .i64 p, .int .i64 s, .bool st, .bool sk, .bool re, .bool fe, .bool ag, .int .i64 c, .int .i64 l, .slice (some ⟨g1, 0, none⟩) qn1 c1, .slice (some ⟨g2, 0, none⟩) qn2 c2, .int .i64 qp, .slice none 0 0, .slice (some ⟨g4, 0, none⟩) qn1 c4, .slice (some ⟨g5, 0, none⟩) qn2 c5, .int .i64 qp, .int .i64 (-1)]) rfl (by kernel_rfl) (by kernel_rfl) (by kernel_rfl) (fun _ _ _ h => h) (.inl ⟨by rfl, fun u hu => by (try dsimp only at hu); go_simp; try with_reducible rfl⟩) hHeld ?_
  simp only [Act.put, List.setIfInBounds_toArray, List.set_cons_zero, List.set_cons_succ]
  refine wpAnyH_take (i := 6) (oi := { dst := some 11, op := Op.build 61 #[(0, Operand.tmp 10)], type := 61, pos := "l08_games.go:32", after := #[{ on := 5, ground := Ground.data }], guard := none }) (v := .agg #[.int .i64 p, .int .i64 s, .bool st, .bool sk, .bool re, .bool fe, .bool ag, .int .i64 c, .int .i64 l, .slice (some ⟨g1, 0, none⟩) qn1 c1, .slice (some ⟨g2, 0, none⟩) qn2 c2, .int .i64 qp, .slice none 0 0, .slice (some ⟨g4, 0, none⟩) qn1 c4, .slice (some ⟨g5, 0, none⟩) qn2 c5, .int .i64 qp, .int .i64 (-1), .slice none 0 0]) rfl (by kernel_rfl) (by kernel_rfl) (by kernel_rfl) (fun _ _ _ h => h) (.inl ⟨by rfl, fun u hu => by (try dsimp only at hu); go_simp; try with_reducible rfl⟩) hHeld ?_
  simp only [Act.put, List.setIfInBounds_toArray, List.set_cons_zero, List.set_cons_succ]
  refine wpAnyH_ready (rs := [7]) (by kernel_rfl) (by simp) ?_
  refine AllReadyH.cons rfl (fun K hK => ?_) AllReadyH.nil
  rw [if_pos (by rfl)]
  refine wp_store_mid 61 _ _ rfl (w.heap.size + 1 + 1) 0 (List.toArray [.int .i64 p, .int .i64 s, .bool st, .bool sk, .bool re, .bool fe, .bool ag, .int .i64 c, .int .i64 l, .slice (some ⟨g1, 0, none⟩) qn1 c1, .slice (some ⟨g2, 0, none⟩) qn2 c2, .int .i64 qp, .slice none 0 0, .slice (some ⟨g4, 0, none⟩) qn1 c4, .slice (some ⟨g5, 0, none⟩) qn2 c5, .int .i64 qp, .int .i64 (-1), .slice none 0 0]) rfl rfl HG.out.th (by kernel_rfl) (pl_one p s c l qp st sk re fe ag g1 c1 g2 c2 g4 c4 g5 c5 qn1 qn2) ?_
  simp only [Act.put, List.setIfInBounds_toArray]
  refine hK.out _ _ ⟨RuAt.range9 (HR.out.but (but_scg (w.heap.size + 1 + 1) [.int .i64 p, .int .i64 s, .bool st, .bool sk, .bool re, .bool fe, .bool ag, .int .i64 c, .int .i64 l, .slice (some ⟨g1, 0, none⟩) qn1 c1, .slice (some ⟨g2, 0, none⟩) qn2 c2, .int .i64 qp, .slice none 0 0, .slice (some ⟨g4, 0, none⟩) qn1 c4, .slice (some ⟨g5, 0, none⟩) qn2 c5, .int .i64 qp, .int .i64 (-1), .slice none 0 0] 0 (But.refl _ _)) (by omega)), PoAt.range3 (HP.out.but (but_scg (w.heap.size + 1 + 1) [.int .i64 p, .int .i64 s, .bool st, .bool sk, .bool re, .bool fe, .bool ag, .int .i64 c, .int .i64 l, .slice (some ⟨g1, 0, none⟩) qn1 c1, .slice (some ⟨g2, 0, none⟩) qn2 c2, .int .i64 qp, .slice none 0 0, .slice (some ⟨g4, 0, none⟩) qn1 c4, .slice (some ⟨g5, 0, none⟩) qn2 c5, .int .i64 qp, .int .i64 (-1), .slice none 0 0] 0 (But.refl _ _)) (by omega))⟩ (fun hHeld => ?_)
  clear hK K
  (try simp only [Act.put, List.setIfInBounds_toArray, List.set_cons_zero, List.set_cons_succ])
  refine wpAnyH_done (by kernel_rfl) ?_ _
  go_wp2_with fail
  have hrun := run_loadVar_mid (P := Try.prog) _ (w.heap.size + 1 + 1) 0 61 [.int .i64 p, .int .i64 s, .bool st, .bool sk, .bool re, .bool fe, .bool ag, .int .i64 c, .int .i64 l, .slice (some ⟨g1, 0, none⟩) qn1 c1, .slice (some ⟨g2, 0, none⟩) qn2 c2, .int .i64 qp, .slice none 0 0, .slice (some ⟨g4, 0, none⟩) qn1 c4, .slice (some ⟨g5, 0, none⟩) qn2 c5, .int .i64 qp, .int .i64 (-1), .slice none 0 0] _ (World.rangeAt_setCells_same w4 (w.heap.size + 1 + 1) 0 [.int .i64 p, .int .i64 s, .bool st, .bool sk, .bool re, .bool fe, .bool ag, .int .i64 c, .int .i64 l, .slice (some ⟨g1, 0, none⟩) qn1 c1, .slice (some ⟨g2, 0, none⟩) qn2 c2, .int .i64 qp, .slice none 0 0, .slice (some ⟨g4, 0, none⟩) qn1 c4, .slice (some ⟨g5, 0, none⟩) qn2 c5, .int .i64 qp, .int .i64 (-1), .slice none 0 0] HG.out.th) Try.underlying61 rfl (by kernel_rfl)
  have o1 : U.heap.size ≤ g1 := O1.out.o1.new
  have o2 : U.heap.size ≤ g2 := O1.out.o2.new
  have o4 := O2.out.o1.new
  have o5 := O2.out.o2.new
  obtain ⟨p1, p2, -, -⟩ := O1l.out
  obtain ⟨p4, p5, -, -⟩ := O2l.out
  refine bodyPost_ret (v := .agg (List.toArray [.int .i64 p, .int .i64 s, .bool st, .bool sk, .bool re, .bool fe, .bool ag, .int .i64 c, .int .i64 l, .slice (some ⟨g1, 0, none⟩) qn1 c1, .slice (some ⟨g2, 0, none⟩) qn2 c2, .int .i64 qp, .slice none 0 0, .slice (some ⟨g4, 0, none⟩) qn1 c4, .slice (some ⟨g5, 0, none⟩) qn2 c5, .int .i64 qp, .int .i64 (-1), .slice none 0 0])) ?_ rfl ⟨g1, c1, g2, c2, g4, c4, g5, c5, rfl, NewR.sc (w.heap.size + 1 + 1) _ 0 ⟨O1.out.lower (show w.heap.size ≤ U.heap.size by omega), O2.out.lower (by omega), ?_, ?_, O2l.out.1, O2l.out.2.1, ?_, ?_, ?_, ?_, HB.out⟩ (by omega) (by omega) (by omega) (by omega) (by omega), O1l.out.2.2.1, O1l.out.2.2.2, O2l.out.2.2.1, O2l.out.2.2.2⟩
  · simp [results, Try.results36, asAddr, hrun]
  all_goals omega
end Go.Proofs.Ytenpnilljjfmkaa

/- Pl9 -/
namespace Go.Proofs.Ytenpnilljjfmkaa
open Go.Joins Go.ChangeShapes Go.WideShapes Go.ChangeAt Go.RowKit Go.Deep
set_option linter.unusedVariables false

theorem own_lowerS {w : World} {B C e s n : Nat} {v : Value} {xs : List Value} (h : w.ownsRow B e s v n xs) (hc : C ≤ B) : w.ownsRow C e s v n xs := by
  obtain ⟨h1, h2 | ⟨g, cap, cur, hv, hb, hr⟩⟩ := h
  · exact ⟨h1, .inl h2⟩
  · exact ⟨h1, .inr ⟨g, cap, cur, hv, Nat.le_trans hc hb, hr⟩⟩
section
variable {w w2 u v : World} {pb : Nat} {p s c l : Int} {st sk re fe ag : Bool} {n1 b1 e1 b2 e2 : Nat} {sp : Int} {sx sy : List Int} {v1 v2 : Value} {ms : List Int} {L : List (T21 × Q21)} {h1 d1 h2 d2 : Nat} {q : Ps} {rg : Int} {R : List (Nat × List Int)}
theorem PlK.leave (h : PlK w2 pb p s c l st sk re fe ag n1 b1 e1 b2 e2 sp sx sy v1 v2 ms L h1 d1 h2 d2 q rg R u) (hb : Below w.heap.size w w2) {z : Nat} (hz : z < w2.heap.size) (hz2 : w.heap.size ≤ z) (k : But z u v) : PlK w pb p s c l st sk re fe ag n1 b1 e1 b2 e2 sp sx sy v1 v2 ms L h1 d1 h2 d2 q rg R v := by
  have hpm := h.pm
  have hs := hb.size
  have tv := (k.cell (o := 17) h.g.lt (show pb ≠ z by omega)).trans h.tv
  refine ⟨h.g.but k (by omega), tv, own_lowerS (own_butS h.mo k (fun i hi => by have := (own_lt h.mo i hi).1; omega)) hs, own_lowerS (own_butS h.tu k (fun i hi => by have := (own_lt h.tu i hi).1; omega)) hs, fun y hy => ?_, h.sv, h.p1, h.p2, h.it, h.s1, h.s2, h.y1, h.y2, h.di, h.m1, h.m2, h.m3, h.m4, h.k1, h.k2, h.k3, h.k4, by omega, But.lift (hb.trans (h.be.mono hs)) k hz2⟩
  have hy' := h.rws y hy
  have hn := hy'.o.new
  exact ⟨(hy'.o.but k (by omega)).lower hs, Nat.lt_of_lt_of_le hy'.lt k.size, hy'.ne, hy'.n1, hy'.n2⟩
theorem PlK.setRg (h : PlK w pb p s c l st sk re fe ag n1 b1 e1 b2 e2 sp sx sy v1 v2 ms L h1 d1 h2 d2 q rg R u) (x : Int) : PlK w pb p s c l st sk re fe ag n1 b1 e1 b2 e2 sp sx sy v1 v2 ms L h1 d1 h2 d2 q x R (u.setCell ⟨pb, 16, none⟩ (.int .i64 x)) := by
  have k := but_setG pb u (.int .i64 x)
  have t := h.tv
  exact ⟨h.g.setG _, by go_simp, own_butS h.mo k h.p1, own_butS h.tu k h.p2, fun y hy => (h.rws y hy).but k (h.rws y hy).ne, h.sv, h.p1, h.p2, h.it, h.s1, h.s2, h.y1, h.y2, h.di, h.m1, h.m2, h.m3, h.m4, h.k1, h.k2, h.k3, h.k4, h.pm, But.lift h.be k h.pm⟩
end
set_option maxHeartbeats 4000000 in
set_option maxRecDepth 100000 in
theorem pmove_full (w : World) (pb : Nat) (p s c l : Int) (st sk re fe ag : Bool) (n1 b1 e1 b2 e2 : Nat) (sp : Int) (sx sy : List Int) (v1 v2 : Value) (ms : List Int) (L : List (T21 × Q21)) (h1 d1 h2 d2 : Nat) (q : Ps) (R : List (Nat × List Int)) (move : Int) (u : World) (h : PlK w pb p s c l st sk re fe ag n1 b1 e1 b2 e2 sp sx sy v1 v2 ms L h1 d1 h2 d2 q (-1) R u) (hms : ms.length = 120) :
    Calls Try.prog 58 #[.pointer (some ⟨pb, 0, none⟩), .int .i64 move] u (BelP (.int .i64 5) u) := by
  obtain ⟨ma, mc, hv1⟩ := slice_own h.mo
  rw [hms] at hv1
  subst hv1
  have H := Lib.hid h
  have HRg := Lib.hid (TGm.rg h.g)
  have c12 := h.g.c12
  clear h hms
  go_enter Try.func58, Try.ntmps58
  go_wp2_with (refine wpList_load_mid rfl 31 _ rfl pb 0 rfl _ _ HRg.out Try.underlying31 rfl (by kernel_rfl) ?_)
  refine (hasR_no _ _ _ _ _ _ _ _ _ _ _ _ _ _ _ _ _ _ _ _ _ _ _ _ _ _ _ _ rfl).mono ?_
  rintro e u0 ⟨rfl, hb⟩
  have H := Lib.hid (H.out.below hb)
  have c12 := H.out.g.c12
  have hbu := Lib.hid hb
  clear hb HRg
  go_wp2_with fail
  go_ret
  exact ⟨rfl, hbu.out⟩
end Go.Proofs.Ytenpnilljjfmkaa

/- Rp8 -/
namespace Go.Proofs.Ytenpnilljjfmkaa
open Go.Joins Go.ChangeShapes Go.WideShapes Go.ChangeAt Go.RowKit Go.Deep
set_option linter.unusedVariables false

def zero18 : List Value := [.int .i64 0, .int .i64 0, .bool false, .bool false, .bool false, .bool false, .bool false, .int .i64 0, .int .i64 0, .slice none 0 0, .slice none 0 0, .int .i64 0, .slice none 0 0, .slice none 0 0, .slice none 0 0, .int .i64 0, .int .i64 0, .slice none 0 0]
theorem zero18_one : zero18.toArray.all (·.oneCell') = true := all_oneCell_toArray (by unfold zero18; decide)
theorem fr_sc (b : Nat) : ∀ (vs : List Value) (o : Nat) (u : World) (a : Addr), (u.setCells b o vs).frozen? a = u.frozen? a
  | [], _, _, _ => rfl
  | v :: r, o, u, a => by rw [World.setCells, fr_sc b r]; go_simp
/-- The cells of a play. -/
def vals18 (p s c l : Int) (st sk re fe ag : Bool) (n1 b1 e1 b2 e2 : Nat) (sp : Int) (v1 v2 : Value) (h1 d1 h2 d2 : Nat) (pl rg : Int) : List Value := [.int .i64 p, .int .i64 s, .bool st, .bool sk, .bool re, .bool fe, .bool ag, .int .i64 c, .int .i64 l, .slice (some ⟨b1, 0, none⟩) n1 e1, .slice (some ⟨b2, 0, none⟩) 2 e2, .int .i64 sp, v1, .slice (some ⟨h1, 0, none⟩) n1 d1, .slice (some ⟨h2, 0, none⟩) 2 d2, .int .i64 pl, .int .i64 rg, v2]
/-- The game and the play of the result, at the start. -/
def RpB (w : World) (ggp ggs ggc ggl : Int) (ggst ggsk ggre ggfe ggag : Bool) (gga1 gga2 : Option Addr) (ggan1 ggac1 ggan2 ggac2 : Nat) (ggap : Int) (ggm : Option Addr) (ggmn ggmc : Nat) (ggb1 ggb2 : Option Addr) (ggbn1 ggbc1 ggbn2 ggbc2 : Nat) (ggbp ggrg : Int) (u : World) : Prop := GmAt u w.heap.size ggp ggs ggc ggl ggst ggsk ggre ggfe ggag gga1 gga2 ggan1 ggac1 ggan2 ggac2 ggap ggm ggmn ggmc ggb1 ggb2 ggbn1 ggbc1 ggbn2 ggbc2 ggbp ggrg ∧ Th18 u (w.heap.size + 1) ∧ Below w.heap.size w u
theorem RpB.below {w u v : World} {ggp ggs ggc ggl : Int} {ggst ggsk ggre ggfe ggag : Bool} {gga1 gga2 : Option Addr} {ggan1 ggac1 ggan2 ggac2 : Nat} {ggap : Int} {ggm : Option Addr} {ggmn ggmc : Nat} {ggb1 ggb2 : Option Addr} {ggbn1 ggbc1 ggbn2 ggbc2 : Nat} {ggbp ggrg : Int} (h : RpB w ggp ggs ggc ggl ggst ggsk ggre ggfe ggag gga1 gga2 ggan1 ggac1 ggan2 ggac2 ggap ggm ggmn ggmc ggb1 ggb2 ggbn1 ggbc1 ggbn2 ggbc2 ggbp ggrg u) (k : Below u.heap.size u v) : RpB w ggp ggs ggc ggl ggst ggsk ggre ggfe ggag gga1 gga2 ggan1 ggac1 ggan2 ggac2 ggap ggm ggmn ggmc ggb1 ggb2 ggbn1 ggbc1 ggbn2 ggbc2 ggbp ggrg v := ⟨h.1.below k, h.2.1.below k, h.2.2.trans (k.mono h.2.2.size)⟩
theorem rpb_new (ggp ggs ggc ggl : Int) (ggst ggsk ggre ggfe ggag : Bool) (gga1 gga2 : Option Addr) (ggan1 ggac1 ggan2 ggac2 : Nat) (ggap : Int) (ggm : Option Addr) (ggmn ggmc : Nat) (ggb1 ggb2 : Option Addr) (ggbn1 ggbc1 ggbn2 ggbc2 : Nat) (ggbp ggrg : Int) (w : World) (T U : TypeId) : RpB w ggp ggs ggc ggl ggst ggsk ggre ggfe ggag gga1 gga2 ggan1 ggac1 ggan2 ggac2 ggap ggm ggmn ggmc ggb1 ggb2 ggbn1 ggbc1 ggbn2 ggbc2 ggbp ggrg ((w.alloc (.cells #[.int .i64 ggp, .int .i64 ggs, .bool ggst, .bool ggsk, .bool ggre, .bool ggfe, .bool ggag, .int .i64 ggc, .int .i64 ggl, .slice gga1 ggan1 ggac1, .slice gga2 ggan2 ggac2, .int .i64 ggap, .slice ggm ggmn ggmc, .slice ggb1 ggbn1 ggbc1, .slice ggb2 ggbn2 ggbc2, .int .i64 ggbp, .int .i64 ggrg] T)).alloc (.cells #[.int .i64 0, .int .i64 0, .bool false, .bool false, .bool false, .bool false, .bool false, .int .i64 0, .int .i64 0, .slice none 0 0, .slice none 0 0, .int .i64 0, .slice none 0 0, .slice none 0 0, .slice none 0 0, .int .i64 0, .int .i64 0, .slice none 0 0] U)) := by
  have h := there18 (w.alloc (.cells #[.int .i64 ggp, .int .i64 ggs, .bool ggst, .bool ggsk, .bool ggre, .bool ggfe, .bool ggag, .int .i64 ggc, .int .i64 ggl, .slice gga1 ggan1 ggac1, .slice gga2 ggan2 ggac2, .int .i64 ggap, .slice ggm ggmn ggmc, .slice ggb1 ggbn1 ggbc1, .slice ggb2 ggbn2 ggbc2, .int .i64 ggbp, .int .i64 ggrg] T)) U
  rw [World.size_alloc] at h
  exact ⟨(gm_new ggp ggs ggc ggl ggst ggsk ggre ggfe ggag gga1 gga2 ggan1 ggac1 ggan2 ggac2 ggap ggm ggmn ggmc ggb1 ggb2 ggbn1 ggbc1 ggbn2 ggbc2 ggbp ggrg w T).below (al1 _ _), ⟨by simp, h⟩, ((Below.refl _ _).alloc (Nat.le_refl _) _).alloc (by simp) _⟩
/-- A play at its start. -/
theorem plk_start {w v : World} {p s c l : Int} {st sk re fe ag : Bool} {n1 g1 c1 g2 c2 g4 c4 g5 c5 : Nat} {sp : Int} {sx sy : List Int} (T : TypeId) (h : NewR w v g1 g2 g4 g5 n1 2 sx sy) (k1 : n1 ≤ c1) (k2 : 2 ≤ c2) (k4 : n1 ≤ c4) (k5 : 2 ≤ c5) (X : World) (hX : X = (v.alloc (.cells #[.int .i64 0, .int .i64 0, .bool false, .bool false, .bool false, .bool false, .bool false, .int .i64 0, .int .i64 0, .slice none 0 0, .slice none 0 0, .int .i64 0, .slice none 0 0, .slice none 0 0, .slice none 0 0, .int .i64 0, .int .i64 0, .slice none 0 0] T)).setCells v.heap.size 0 (vals18 p s c l st sk re fe ag n1 g1 c1 g2 c2 sp (.slice none 0 0) (.slice none 0 0) g4 c4 g5 c5 sp (-1))) :
    PlK w v.heap.size p s c l st sk re fe ag n1 g1 c1 g2 c2 sp sx sy (.slice none 0 0) (.slice none 0 0) [] [] g4 c4 g5 c5 ⟨sp, sx, sy⟩ (-1) [(g1, sx), (g2, sy), (g4, sx), (g5, sy)] X := by
  have hr := World.rangeAt_setCells_same (v.alloc (.cells #[.int .i64 0, .int .i64 0, .bool false, .bool false, .bool false, .bool false, .bool false, .int .i64 0, .int .i64 0, .slice none 0 0, .slice none 0 0, .int .i64 0, .slice none 0 0, .slice none 0 0, .slice none 0 0, .int .i64 0, .int .i64 0, .slice none 0 0] T)) v.heap.size 0 (vals18 p s c l st sk re fe ag n1 g1 c1 g2 c2 sp (.slice none 0 0) (.slice none 0 0) g4 c4 g5 c5 sp (-1)) (there18 v T)
  rw [← hX] at hr
  have hbe : Below v.heap.size v X := by rw [hX]; exact below_scg v.heap.size (Nat.le_refl _) _ 0 (al1 v _)
  have hsz : X.heap.size = v.heap.size + 1 := by rw [hX, size_scg]; simp
  have hfr : ∀ o, X.frozen? ⟨v.heap.size, o, none⟩ = false := fun o => by rw [hX, fr_sc]; go_simp
  have hs := h.be.size
  have a1 := h.l1
  have a2 := h.l2
  have a4 := h.l4
  have a5 := h.l5
  refine ⟨⟨by omega, hr 0 _ rfl, hr 1 _ rfl, hr 2 _ rfl, hr 3 _ rfl, hr 4 _ rfl, hr 5 _ rfl, hr 6 _ rfl, hr 7 _ rfl, hr 8 _ rfl, hr 9 _ rfl, hr 10 _ rfl, hr 11 _ rfl, hr 12 _ rfl, hr 13 _ rfl, hr 14 _ rfl, hr 15 _ rfl, hr 16 _ rfl, hfr⟩, hr 17 _ rfl, World.ownsRow_nil _ _ _ _, World.ownsRow_nil _ _ _ _, fun y hy => ?_, (fun i j hi => by cases hi), (fun i hi => by cases hi), (fun i hi => by cases hi), (fun x hx => by cases hx), .head _, .tail _ (.head _), .tail _ (.tail _ (.head _)), .tail _ (.tail _ (.tail _ (.head _))), ⟨h.n14, h.n15, h.n24, h.n25, h.s.ne, h.n.ne⟩, h.s.l1, h.s.l2, h.s.l1, h.s.l2, k1, k2, k4, k5, hs, h.be.trans (hbe.mono hs)⟩
  have hc : ∀ i, (Value.slice none 0 0).ownBlock = some i → i ≠ y.1 := fun i hi => by cases hi
  simp only [List.mem_cons, List.not_mem_nil, or_false] at hy
  rcases hy with rfl | rfl | rfl | rfl
  · exact ⟨h.s.o1.below hbe, by simp only; omega, by simp only; omega, hc, hc⟩
  · exact ⟨h.s.o2.below hbe, by simp only; omega, by simp only; omega, hc, hc⟩
  · exact ⟨h.n.o1.below hbe, by simp only; omega, by simp only; omega, hc, hc⟩
  · exact ⟨h.n.o2.below hbe, by simp only; omega, by simp only; omega, hc, hc⟩
/-- What replay leaves. -/
def RpP (p s c l : Int) (st sk re fe ag : Bool) (n1 : Nat) (sp : Int) (sx sy ms : List Int) (rg : Int) (ok : Bool) (w : World) (e : Ending) (w' : World) : Prop :=
  if ok = true then
    ∃ pb b1 e1 b2 e2 v1 v2 L h1 d1 h2 d2 q R rs, e = .returned (.tuple #[.agg (vals18 p s c l st sk re fe ag n1 b1 e1 b2 e2 sp v1 v2 h1 d1 h2 d2 q.pl rg).toArray, .int .i64 0]) ∧ PlK w pb p s c l st sk re fe ag n1 b1 e1 b2 e2 sp sx sy v1 v2 ms L h1 d1 h2 d2 q rg R w' ∧
      runO (stp p c l st sk re fe ag) ⟨sp, sx, sy⟩ ms = some rs ∧ q = lastP ⟨sp, sx, sy⟩ rs ∧ L.map (fun x => x.1.r) = rs ∧ L.map (fun x => x.1.q) ++ [q] = ⟨sp, sx, sy⟩ :: rs.map R7.ps
  else e = .returned (.tuple #[.agg zero18.toArray, .int .i64 1]) ∧ Below w.heap.size w w'
def RpJ (w : World) (pb : Nat) (p s c l : Int) (st sk re fe ag : Bool) (n1 b1 e1 b2 e2 : Nat) (sp : Int) (sx sy ms : List Int) (k : Nat) (u : World) : Prop :=
  ∃ v1 v2 L h1 d1 h2 d2 R rs, PlK w pb p s c l st sk re fe ag n1 b1 e1 b2 e2 sp sx sy v1 v2 (ms.take k) L h1 d1 h2 d2 (lastP ⟨sp, sx, sy⟩ rs) (-1) R u ∧ runO (stp p c l st sk re fe ag) ⟨sp, sx, sy⟩ (ms.take k) = some rs ∧ L.length = k ∧ k ≤ 120 ∧ L.map (fun x => x.1.r) = rs ∧ L.map (fun x => x.1.q) ++ [lastP ⟨sp, sx, sy⟩ rs] = ⟨sp, sx, sy⟩ :: rs.map R7.ps
theorem vals18_one (p s c l : Int) (st sk re fe ag : Bool) (n1 b1 e1 b2 e2 : Nat) (sp : Int) (va : Option Addr) (vn vc : Nat) (ta : Option Addr) (tn tc : Nat) (h1 d1 h2 d2 : Nat) (pl rg : Int) : (vals18 p s c l st sk re fe ag n1 b1 e1 b2 e2 sp (.slice va vn vc) (.slice ta tn tc) h1 d1 h2 d2 pl rg).toArray.all (·.oneCell') = true :=
  all_oneCell_toArray (by unfold vals18; intro v hv; simp only [List.mem_cons, List.not_mem_nil, or_false] at hv; rcases hv with rfl | rfl | rfl | rfl | rfl | rfl | rfl | rfl | rfl | rfl | rfl | rfl | rfl | rfl | rfl | rfl | rfl | rfl <;> rfl)
theorem PlK.rg18 {w u : World} {pb : Nat} {p s c l : Int} {st sk re fe ag : Bool} {n1 b1 e1 b2 e2 : Nat} {sp : Int} {sx sy : List Int} {v1 v2 : Value} {ms : List Int} {L : List (T21 × Q21)} {h1 d1 h2 d2 : Nat} {q : Ps} {rg : Int} {R : List (Nat × List Int)} (h : PlK w pb p s c l st sk re fe ag n1 b1 e1 b2 e2 sp sx sy v1 v2 ms L h1 d1 h2 d2 q rg R u) : u.rangeAt pb 0 (vals18 p s c l st sk re fe ag n1 b1 e1 b2 e2 sp v1 v2 h1 d1 h2 d2 q.pl rg) := by
  intro j v hj
  match j, hj with
  | 0, hj => cases hj; exact h.g.c0
  | 1, hj => cases hj; exact h.g.c1
  | 2, hj => cases hj; exact h.g.c2
  | 3, hj => cases hj; exact h.g.c3
  | 4, hj => cases hj; exact h.g.c4
  | 5, hj => cases hj; exact h.g.c5
  | 6, hj => cases hj; exact h.g.c6
  | 7, hj => cases hj; exact h.g.c7
  | 8, hj => cases hj; exact h.g.c8
  | 9, hj => cases hj; exact h.g.c9
  | 10, hj => cases hj; exact h.g.c10
  | 11, hj => cases hj; exact h.g.c11
  | 12, hj => cases hj; exact h.g.c12
  | 13, hj => cases hj; exact h.g.c13
  | 14, hj => cases hj; exact h.g.c14
  | 15, hj => cases hj; exact h.g.c15
  | 16, hj => cases hj; exact h.g.c16
  | 17, hj => cases hj; exact h.tv
  | n + 18, hj => simp [vals18] at hj
set_option maxHeartbeats 8000000 in
set_option maxRecDepth 100000 in
theorem replay_any (ggp ggs ggc ggl : Int) (ggst ggsk ggre ggfe ggag : Bool) (gga1 gga2 : Option Addr) (ggan1 ggac1 ggan2 ggac2 : Nat) (ggap : Int) (ggm : Option Addr) (ggmn ggmc : Nat) (ggb1 ggb2 : Option Addr) (ggbn1 ggbc1 ggbn2 ggbc2 : Nat) (ggbp ggrg : Int) (sx sy ms nx ny : List Int) (w : World) (h : GamR w gga1 gga2 ggan1 ggan2 ggm ggmn ggb1 ggb2 ggbn1 ggbn2 sx sy ms nx ny) :
    Calls Try.prog 40 #[.agg #[.int .i64 ggp, .int .i64 ggs, .bool ggst, .bool ggsk, .bool ggre, .bool ggfe, .bool ggag, .int .i64 ggc, .int .i64 ggl, .slice gga1 ggan1 ggac1, .slice gga2 ggan2 ggac2, .int .i64 ggap, .slice ggm ggmn ggmc, .slice ggb1 ggbn1 ggbc1, .slice ggb2 ggbn2 ggbc2, .int .i64 ggbp, .int .i64 ggrg]] w (RpP ggp ggs ggc ggl ggst ggsk ggre ggfe ggag ggan1 ggap sx sy ms ggrg (okG ggp ggs ggc ggl ggst ggsk ggre ggfe ggag ggan1 ggan2 ggap sx sy ms ggbp nx ny ggrg) w) := by
  have HB := Lib.hid (rpb_new ggp ggs ggc ggl ggst ggsk ggre ggfe ggag gga1 gga2 ggan1 ggac1 ggan2 ggac2 ggap ggm ggmn ggmc ggb1 ggb2 ggbn1 ggbc1 ggbn2 ggbc2 ggbp ggrg w 31 61)
  have H := Lib.hid h
  obtain ⟨okS, hokS⟩ : ∃ b, b = (okP (okR ggp ggs ggc ggl ggst ggag) ggp ggan1 ggan2 ggap sx sy && (decide (-1 ≤ ggrg) && decide (ggrg ≤ 1))) := ⟨_, rfl⟩
  have HokS := Lib.hid hokS
  clear h hokS
  go_enter Try.func40, Try.ntmps40
  go_upto_region 1 with fail
  generalize (w.alloc (.cells #[.int .i64 ggp, .int .i64 ggs, .bool ggst, .bool ggsk, .bool ggre, .bool ggfe, .bool ggag, .int .i64 ggc, .int .i64 ggl, .slice gga1 ggan1 ggac1, .slice gga2 ggan2 ggac2, .int .i64 ggap, .slice ggm ggmn ggmc, .slice ggb1 ggbn1 ggbc1, .slice ggb2 ggbn2 ggbc2, .int .i64 ggbp, .int .i64 ggrg] 31)).alloc (.cells #[.int .i64 0, .int .i64 0, .bool false, .bool false, .bool false, .bool false, .bool false, .int .i64 0, .int .i64 0, .slice none 0 0, .slice none 0 0, .int .i64 0, .slice none 0 0, .slice none 0 0, .slice none 0 0, .int .i64 0, .int .i64 0, .slice none 0 0] 61) = U at *
  go_cut [22] (fun s22 wx => s22 = .bool (!okS) ∧ RpB w ggp ggs ggc ggl ggst ggsk ggre ggfe ggag gga1 gga2 ggan1 ggac1 ggan2 ggac2 ggap ggm ggmn ggmc ggb1 ggb2 ggbn1 ggbc1 ggbn2 ggbc2 ggbp ggrg wx)
  case first =>
    obtain ⟨hgb, m0, m1, m2, m3, m4, m5, m6, m7, m8, m9, m10, m11, m12, m13, m14, m15, m16⟩ := HB.out.1
    rcases hk : okP (okR ggp ggs ggc ggl ggst ggag) ggp ggan1 ggan2 ggap sx sy with _ | _
    · have Hk := Lib.hid hk
      have HokS2 : Hid (okS = false) := Lib.hid (by rw [HokS.out, hk]; rfl)
      clear hk
      go_wp2_with fail
      refine (implValid_b ggp ggs ggc ggl ggst ggsk ggre ggfe ggag gga1 gga2 ggan1 ggac1 ggan2 ggac2 ggap sx sy _ (H.out.s.below HB.out.2.2) _ Hk.out).mono ?_
      rintro e u5 ⟨rfl, hb⟩
      have HB := Lib.hid (HB.out.below hb)
      clear hb m0 m1 m2 m3 m4 m5 m6 m7 m8 m9 m10 m11 m12 m13 m14 m15 m16
      go_wp2_with fail
      go_meet
      exact ⟨by rw [HokS2.out]; rfl, HB.out⟩
    · have Hk := Lib.hid hk
      by_cases hrg : ggrg = -1
      · have HokS2 : Hid (okS = true) := Lib.hid (by rw [HokS.out, hk, hrg]; rfl)
        have Hrg := Lib.hid hrg
        clear hk hrg
        go_wp2_with fail
        refine (implValid_b ggp ggs ggc ggl ggst ggsk ggre ggfe ggag gga1 gga2 ggan1 ggac1 ggan2 ggac2 ggap sx sy _ (H.out.s.below HB.out.2.2) _ Hk.out).mono ?_
        rintro e u5 ⟨rfl, hb⟩
        have HB := Lib.hid (HB.out.below hb)
        have HRg := Lib.hid (GmAt.range HB.out.1)
        clear hb m0 m1 m2 m3 m4 m5 m6 m7 m8 m9 m10 m11 m12 m13 m14 m15 m16
        go_wp2_with (refine wpList_load_want (by rfl) 31 _ rfl w.heap.size 0 rfl _ _ HRg.out Try.underlying31 rfl (by kernel_rfl) ?_)
        refine (hasR_no ggp ggs ggc ggl ggst ggsk ggre ggfe ggag gga1 gga2 ggan1 ggac1 ggan2 ggac2 ggap ggm ggmn ggmc ggb1 ggb2 ggbn1 ggbc1 ggbn2 ggbc2 ggbp ggrg _ Hrg.out).mono ?_
        rintro e u6 ⟨rfl, hb⟩
        have HB := Lib.hid (HB.out.below hb)
        clear hb
        go_wp2_with fail
        go_meet
        exact ⟨by rw [HokS2.out]; rfl, HB.out⟩
      · have Hrg := Lib.hid hrg
        obtain ⟨j, hj⟩ : ∃ j, (decide (0 ≤ ggrg) && decide (ggrg ≤ 1)) = j := ⟨_, rfl⟩
        have Hj := Lib.hid hj
        have HokS2 : Hid (okS = j) := Lib.hid (by
          rw [HokS.out, hk, ← hj, Bool.true_and]
          congr 1
          by_cases h0 : 0 ≤ ggrg
          · rw [decide_eq_true h0, decide_eq_true (by omega)]
          · rw [decide_eq_false h0, decide_eq_false (by omega)])
        clear hk hrg hj
        go_wp2_with fail
        refine (implValid_b ggp ggs ggc ggl ggst ggsk ggre ggfe ggag gga1 gga2 ggan1 ggac1 ggan2 ggac2 ggap sx sy _ (H.out.s.below HB.out.2.2) _ Hk.out).mono ?_
        rintro e u5 ⟨rfl, hb⟩
        have HB := Lib.hid (HB.out.below hb)
        have HRg := Lib.hid (GmAt.range HB.out.1)
        clear hb m0 m1 m2 m3 m4 m5 m6 m7 m8 m9 m10 m11 m12 m13 m14 m15 m16
        go_wp2_with (refine wpList_load_want (by rfl) 31 _ rfl w.heap.size 0 rfl _ _ HRg.out Try.underlying31 rfl (by kernel_rfl) ?_)
        refine (hasR_yes ggp ggs ggc ggl ggst ggsk ggre ggfe ggag gga1 gga2 ggan1 ggac1 ggan2 ggac2 ggap ggm ggmn ggmc ggb1 ggb2 ggbn1 ggbc1 ggbn2 ggbc2 ggbp ggrg _ Hrg.out).mono ?_
        rintro e u6 ⟨rfl, hb⟩
        have HB := Lib.hid (HB.out.below hb)
        obtain ⟨-, -, -, -, -, -, -, -, -, -, -, -, -, -, -, -, -, m16⟩ := HB.out.1
        clear hb
        go_wp2_with fail
        refine (isPlayer_b ggrg _ Hj.out _).mono ?_
        rintro e u7 ⟨rfl, rfl⟩
        cases j
        · go_wp2_with fail
          go_meet
          exact ⟨by rw [HokS2.out]; rfl, HB.out⟩
        · go_wp2_with fail
          go_meet
          exact ⟨by rw [HokS2.out]; rfl, HB.out⟩
  case rest =>
    obtain ⟨rfl, hB⟩ := hcut
    have HB := Lib.hid hB
    clear hB
    rcases okS with _ | _
    · have HokN : Hid (okG ggp ggs ggc ggl ggst ggsk ggre ggfe ggag ggan1 ggan2 ggap sx sy ms ggbp nx ny ggrg = false) := Lib.hid (by
        have h1 := HokS.out
        unfold okG
        generalize (decide (-1 ≤ ggrg) && decide (ggrg ≤ 1)) = b1 at *
        generalize okP (okR ggp ggs ggc ggl ggst ggag) ggp ggan1 ggan2 ggap sx sy = b2 at *
        have h2 : (b2 && b1) = false := h1.symm
        cases b2
        · rfl
        · rw [Bool.true_and] at h2
          rw [h2, Bool.and_false, Bool.false_and])
      go_wp2_with (refine wpList_store_mid rfl 61 _ _ rfl (w.heap.size + 1) 0 zero18.toArray rfl rfl HB.out.2.1.th (by kernel_rfl) zero18_one ?_)
      have hrun := run_loadVar_mid (P := Try.prog) _ (w.heap.size + 1) 0 61 zero18 _ (World.rangeAt_setCells_same _ (w.heap.size + 1) 0 zero18 HB.out.2.1.th) Try.underlying61 rfl (by kernel_rfl)
      refine bodyPost_ret (v := .tuple #[.agg zero18.toArray, .int .i64 1]) ?_ rfl ?_
      · simp [results, Try.results40, Result.andThen_ok, asAddr, hrun]
      · unfold RpP
        rw [HokN.out, if_neg (by decide)]
        exact ⟨rfl, below_scg (w.heap.size + 1) (by omega) _ 0 HB.out.2.2⟩
    · obtain ⟨hk, hrg⟩ : okP (okR ggp ggs ggc ggl ggst ggag) ggp ggan1 ggan2 ggap sx sy = true ∧ (decide (-1 ≤ ggrg) && decide (ggrg ≤ 1)) = true := by
        have h1 := HokS.out.symm
        simpa only [Bool.and_eq_true] using h1
      obtain ⟨okr, ok2, e2, -, -⟩ := okP_parts hk
      subst e2
      have hp2 := (okR_bd okr).1
      have ne1 : sx ≠ [] := by intro e; have h1 := H.out.s.l1; rw [e] at h1; simp at h1; omega
      have ne2 : sy ≠ [] := by intro e; have h1 := H.out.s.l2; rw [e] at h1; simp at h1
      have HOk : Hid (OkQ ggp ggs ggc ggl ggst ggag ggan1 (⟨ggap, sx, sy⟩ : Ps)) := Lib.hid ⟨hk, H.out.s.l1, H.out.s.l2⟩
      have HG1 : Hid (okG ggp ggs ggc ggl ggst ggsk ggre ggfe ggag ggan1 2 ggap sx sy ms ggbp nx ny ggrg = (decide (ms.length ≤ 120) && runB (stp ggp ggc ggl ggst ggsk ggre ggfe ggag) (⟨ggap, sx, sy⟩ : Ps) ms ggbp nx ny)) := Lib.hid (by unfold okG; rw [hk, hrg, Bool.true_and, Bool.and_true])
      have NE := Lib.hid (And.intro ne1 ne2)
      clear HokS hk hrg okr ok2 hp2 ne1 ne2
      obtain ⟨hgb, m0, m1, m2, m3, m4, m5, m6, m7, m8, m9, m10, m11, -⟩ := HB.out.1
      obtain ⟨wb, hwb⟩ : ∃ wb, wb = wc := ⟨_, rfl⟩
      go_wp2_with fail
      refine (beginPlayC_any ggp ggs ggc ggl ggst ggsk ggre ggfe ggag gga1 gga2 ggan1 ggac1 2 ggac2 ggap sx sy _ (H.out.s.below HB.out.2.2) NE.out.1 NE.out.2).mono ?_
      rintro e u1 ⟨g1, c1, g2, c2, g4, c4, g5, c5, rfl, hN, k1, k2, k4, k5⟩
      clear m0 m1 m2 m3 m4 m5 m6 m7 m8 m9 m10 m11 hgb
      rw [← hwb] at hN
      rw [← hwb] at HB
      clear hwb
      go_upto_region 4 with (refine wpList_store_mid rfl 61 _ _ rfl u1.heap.size 0 (vals18 ggp ggs ggc ggl ggst ggsk ggre ggfe ggag ggan1 g1 c1 g2 c2 ggap (.slice none 0 0) (.slice none 0 0) g4 c4 g5 c5 ggap (-1)).toArray rfl rfl (there18 u1 61) (by kernel_rfl) (all_oneCell_toArray (by unfold vals18; intro v hv; simp only [List.mem_cons, List.not_mem_nil, or_false] at hv; rcases hv with rfl | rfl | rfl | rfl | rfl | rfl | rfl | rfl | rfl | rfl | rfl | rfl | rfl | rfl | rfl | rfl | rfl | rfl <;> rfl)) ?_)
      generalize hX : ((u1.alloc (.cells #[.int .i64 0, .int .i64 0, .bool false, .bool false, .bool false, .bool false, .bool false, .int .i64 0, .int .i64 0, .slice none 0 0, .slice none 0 0, .int .i64 0, .slice none 0 0, .slice none 0 0, .slice none 0 0, .int .i64 0, .int .i64 0, .slice none 0 0] 61)).setCells u1.heap.size 0 (vals18 ggp ggs ggc ggl ggst ggsk ggre ggfe ggag ggan1 g1 c1 g2 c2 ggap (.slice none 0 0) (.slice none 0 0) g4 c4 g5 c5 ggap (-1))) = X at *
      have HP0 := Lib.hid (plk_start 61 hN k1 k2 k4 k5 X hX.symm)
      have HBX := Lib.hid (HB.out.below HP0.out.be)
      have m12 := HBX.out.1.2.2.2.2.2.2.2.2.2.2.2.2.2.1
      clear hX hN
      generalize u1.heap.size = pb at *
      go_wp2_with fail
      go_loopw [32] (fun i wr => ∃ k : Nat, i = .int .i64 k ∧ k ≤ ggmn ∧ RpJ wb pb ggp ggs ggc ggl ggst ggsk ggre ggfe ggag ggan1 g1 c1 g2 c2 ggap sx sy ms k wr) (fun i _ => ggmn - (intOf i).toNat)
      case atStart => exact ⟨0, rfl, Nat.zero_le _, _, _, [], _, _, _, _, _, [], HP0.out, rfl, rfl, by omega, rfl, rfl⟩
      case round =>
        clear HP0 HBX m12
        obtain ⟨k, rfl, hkn, v1, v2, L, h1, d1, h2, d2, R, rs, hP, hrun, hLk, hk120, hLr, hLq⟩ := hrel
        have HP := Lib.hid hP
        have HRun := Lib.hid (And.intro hrun (And.intro hLk (And.intro hLr hLq)))
        have HBr := Lib.hid (HB.out.below hP.be)
        have Hlm := Lib.hid H.out.lm
        clear hP hrun hLr hLq hLk
        by_cases hlt : k < ggmn
        · obtain ⟨m, hm⟩ : ∃ m, ms[k]? = some m := ⟨ms[k]'(by rw [Hlm.out]; exact hlt), List.getElem?_eq_getElem _⟩
          have hne : ms ≠ [] := by intro e; subst e; cases hm
          obtain ⟨ga, oa, hga, hgl, hca⟩ := (H.out.m.below HBr.out.2.2).2.resolve_left hne
          have y1 := hca k _ hm
          subst hga
          have HMk := Lib.hid hm
          have k0 : (0 : Int) ≤ (k : Int) := by omega
          have kq : (k : Int) < (ggmn : Int) := by omega
          have htl : (ms.take k).length = k := by rw [List.length_take, Hlm.out]; omega
          have Htl := Lib.hid htl
          clear hm hne hgl hca htl
          by_cases hfull : k = 120
          · have HM := Lib.hid (pmove_full wb pb ggp ggs ggc ggl ggst ggsk ggre ggfe ggag ggan1 g1 c1 g2 c2 ggap sx sy v1 v2 (ms.take k) L h1 d1 h2 d2 (lastP (⟨ggap, sx, sy⟩ : Ps) rs) R m wr HP.out (Htl.out.trans hfull))
            have HokN : Hid (okG ggp ggs ggc ggl ggst ggsk ggre ggfe ggag ggan1 2 ggap sx sy ms ggbp nx ny ggrg = false) := Lib.hid (by rw [HG1.out, decide_eq_false (show ¬ ms.length ≤ 120 by have := Hlm.out; omega)]; rfl)
            clear hfull
            go_wp2_with fail
            refine HM.out.mono ?_
            rintro e w6 ⟨rfl, hb⟩
            have HBr := Lib.hid (HBr.out.below hb)
            clear hb y1
            go_wp2_with (refine wpList_store_mid rfl 61 _ _ rfl (w.heap.size + 1) 0 zero18.toArray rfl rfl HBr.out.2.1.th (by kernel_rfl) zero18_one ?_)
            have hrun := run_loadVar_mid (P := Try.prog) _ (w.heap.size + 1) 0 61 zero18 _ (World.rangeAt_setCells_same _ (w.heap.size + 1) 0 zero18 HBr.out.2.1.th) Try.underlying61 rfl (by kernel_rfl)
            refine bodyPost_ret (v := .tuple #[.agg zero18.toArray, .int .i64 1]) ?_ rfl ?_
            · simp [results, Try.results40, Result.andThen_ok, asAddr, hrun]
            · unfold RpP
              rw [HokN.out, if_neg (by decide)]
              exact ⟨rfl, below_scg (w.heap.size + 1) (by omega) _ 0 HBr.out.2.2⟩
          · have hk2 : k < 120 := by omega
            have hok := run_ok HOk.out HRun.out.1
            have HM := Lib.hid (pmove_any wb pb ggp ggs ggc ggl ggst ggsk ggre ggfe ggag ggan1 g1 c1 g2 c2 ggap sx sy v1 v2 (ms.take k) L h1 d1 h2 d2 (lastP (⟨ggap, sx, sy⟩ : Ps) rs) R m wr HP.out hok (by have := Htl.out; omega) (by have := Htl.out; have := HRun.out.2.1; omega))
            cases hl : lgV ggc ggl ggp (lastP (⟨ggap, sx, sy⟩ : Ps) rs).pl ggfe (lastP (⟨ggap, sx, sy⟩ : Ps) rs).xs (mvV true ggp (lastP (⟨ggap, sx, sy⟩ : Ps) rs).pl ggst ggsk ggre (lastP (⟨ggap, sx, sy⟩ : Ps) rs).xs (lastP (⟨ggap, sx, sy⟩ : Ps) rs).ys m) with
            | none =>
              have hlv : lvS ggp ggs ggc ggl ggst ggsk ggre ggfe ggag (lastP (⟨ggap, sx, sy⟩ : Ps) rs) m = none := by unfold lvS; rw [hl]; rfl
              have hst : stp ggp ggc ggl ggst ggsk ggre ggfe ggag (lastP (⟨ggap, sx, sy⟩ : Ps) rs) m = none := by unfold stp; rw [hl]; rfl
              have d : (cdS ggp ggs ggc ggl ggst ggsk ggre ggfe ggag (lastP (⟨ggap, sx, sy⟩ : Ps) rs) m == 0) = false := lg_none hok.ok hok.l1 hl
              rw [hlv] at HM
              have HokN : Hid (okG ggp ggs ggc ggl ggst ggsk ggre ggfe ggag ggan1 2 ggap sx sy ms ggbp nx ny ggrg = false) := Lib.hid (by rw [HG1.out]; unfold runB; rw [runO_no HMk.out HRun.out.1 hst, Bool.and_false])
              generalize cdS ggp ggs ggc ggl ggst ggsk ggre ggfe ggag (lastP (⟨ggap, sx, sy⟩ : Ps) rs) m = cd at *
              clear hl hlv hst hok
              go_wp2_with fail
              refine HM.out.mono ?_
              rintro e w6 ⟨rfl, hb⟩
              have HBr := Lib.hid (HBr.out.below hb)
              clear hb y1
              go_wp2_with (refine wpList_store_mid rfl 61 _ _ rfl (w.heap.size + 1) 0 zero18.toArray rfl rfl HBr.out.2.1.th (by kernel_rfl) zero18_one ?_)
              have hrun := run_loadVar_mid (P := Try.prog) _ (w.heap.size + 1) 0 61 zero18 _ (World.rangeAt_setCells_same _ (w.heap.size + 1) 0 zero18 HBr.out.2.1.th) Try.underlying61 rfl (by kernel_rfl)
              refine bodyPost_ret (v := .tuple #[.agg zero18.toArray, .int .i64 1]) ?_ rfl ?_
              · simp [results, Try.results40, Result.andThen_ok, asAddr, hrun]
              · unfold RpP
                rw [HokN.out, if_neg (by decide)]
                exact ⟨rfl, below_scg (w.heap.size + 1) (by omega) _ 0 HBr.out.2.2⟩
            | some m7 =>
              have hlv : lvS ggp ggs ggc ggl ggst ggsk ggre ggfe ggag (lastP (⟨ggap, sx, sy⟩ : Ps) rs) m = some (m7, r7V ggc ggl ggp (lastP (⟨ggap, sx, sy⟩ : Ps) rs).pl ggag (lastP (⟨ggap, sx, sy⟩ : Ps) rs).ys m m7) := by unfold lvS; rw [hl]; rfl
              have hst : stp ggp ggc ggl ggst ggsk ggre ggfe ggag (lastP (⟨ggap, sx, sy⟩ : Ps) rs) m = some (r7V ggc ggl ggp (lastP (⟨ggap, sx, sy⟩ : Ps) rs).pl ggag (lastP (⟨ggap, sx, sy⟩ : Ps) rs).ys m m7) := by unfold stp; rw [hl]; rfl
              rw [hlv] at HM
              generalize r7V ggc ggl ggp (lastP (⟨ggap, sx, sy⟩ : Ps) rs).pl ggag (lastP (⟨ggap, sx, sy⟩ : Ps) rs).ys m m7 = r at *
              have HYes := Lib.hid (runO_yes HMk.out HRun.out.1 hst)
              generalize cdS ggp ggs ggc ggl ggst ggsk ggre ggfe ggag (lastP (⟨ggap, sx, sy⟩ : Ps) rs) m = cd at *
              clear hl hlv hst hok
              go_wp2_with fail
              refine HM.out.mono ?_
              rintro e w6 ⟨rfl, v1', v2', x, g1', c1', g2', c2', R', hP', hx⟩
              have HP' := Lib.hid hP'
              have HX := Lib.hid hx
              clear hP' hx y1
              go_wp2_with fail
              go_roundw
              case rel =>
                refine ⟨k + 1, by go_num, by omega, v1', v2', L ++ [x], g1', c1', g2', c2', R', rs ++ [r], ?_, HYes.out, by rw [List.length_append, HRun.out.2.1]; rfl, by omega, ?_, ?_⟩
                · rw [take_next HMk.out, lastP_snoc]
                  exact HP'.out
                · rw [List.map_append, HRun.out.2.2.1]
                  simp [HX.out]
                · rw [List.map_append, lastP_snoc, List.map_append, ← List.cons_append, ← HRun.out.2.2.2]
                  simp [HX.out]
              case measure => simp [intOf]; omega
        · obtain rfl : k = ggmn := by omega
          have hms : ms.take k = ms := List.take_of_length_le (Nat.le_of_eq Hlm.out)
          have hrun := HRun.out.1
          rw [hms] at hrun
          rw [hms] at HP
          have HSm := Lib.hid (implSame_any (some ⟨h1, 0, none⟩) (some ⟨h2, 0, none⟩) ggan1 d1 2 d2 (lastP (⟨ggap, sx, sy⟩ : Ps) rs).pl ggb1 ggb2 ggbn1 ggbc1 ggbn2 ggbc2 ggbp (lastP (⟨ggap, sx, sy⟩ : Ps) rs).xs (lastP (⟨ggap, sx, sy⟩ : Ps) rs).ys nx ny wr HP.out.nr (H.out.n.below HBr.out.2.2))
          have HOG : Hid (okG ggp ggs ggc ggl ggst ggsk ggre ggfe ggag ggan1 2 ggap sx sy ms ggbp nx ny ggrg = sameB (lastP (⟨ggap, sx, sy⟩ : Ps) rs).xs nx (lastP (⟨ggap, sx, sy⟩ : Ps) rs).ys ny (lastP (⟨ggap, sx, sy⟩ : Ps) rs).pl ggbp) := Lib.hid (by
            rw [HG1.out, decide_eq_true (show ms.length ≤ 120 by have := Hlm.out; omega), Bool.true_and]
            unfold runB
            rw [hrun])
          have HRn := Lib.hid hrun
          have t13 := HP.out.g.c13
          have t14 := HP.out.g.c14
          have t15 := HP.out.g.c15
          obtain ⟨hgb, -, -, -, -, -, -, -, -, -, -, -, -, -, m13, m14, m15, m16⟩ := HBr.out.1
          generalize sameB (lastP (⟨ggap, sx, sy⟩ : Ps) rs).xs nx (lastP (⟨ggap, sx, sy⟩ : Ps) rs).ys ny (lastP (⟨ggap, sx, sy⟩ : Ps) rs).pl ggbp = sb at *
          clear hms hrun
          go_wp2_with fail
          refine HSm.out.mono ?_
          rintro e w6 ⟨rfl, hb⟩
          have HBr := Lib.hid (HBr.out.below hb)
          have HP := Lib.hid (HP.out.below hb)
          clear hb t13 t14 t15 m13 m14 m15
          cases sb
          · have HokN := HOG
            clear m16
            go_wp2_with (refine wpList_store_mid rfl 61 _ _ rfl (w.heap.size + 1) 0 zero18.toArray rfl rfl HBr.out.2.1.th (by kernel_rfl) zero18_one ?_)
            have hrun := run_loadVar_mid (P := Try.prog) _ (w.heap.size + 1) 0 61 zero18 _ (World.rangeAt_setCells_same _ (w.heap.size + 1) 0 zero18 HBr.out.2.1.th) Try.underlying61 rfl (by kernel_rfl)
            refine bodyPost_ret (v := .tuple #[.agg zero18.toArray, .int .i64 1]) ?_ rfl ?_
            · simp [results, Try.results40, Result.andThen_ok, asAddr, hrun]
            · unfold RpP
              rw [HokN.out, if_neg (by decide)]
              exact ⟨rfl, below_scg (w.heap.size + 1) (by omega) _ 0 HBr.out.2.2⟩
          · obtain ⟨-, -, -, -, -, -, -, -, -, -, -, -, -, -, -, -, -, m16⟩ := HBr.out.1
            have t16 := HP.out.g.c16
            have f16 := HP.out.g.fr 16
            have l16 := HP.out.g.lt
            go_upto_region 13 with fail
            have HP16 := Lib.hid (HP.out.setRg ggrg)
            clear HP m16 t16 f16 l16
            generalize w6.setCell ⟨pb, 16, none⟩ (.int .i64 ggrg) = W16 at *
            have HB16 := Lib.hid (HB.out.below HP16.out.be)
            obtain ⟨va, vc, hv1⟩ := slice_own HP16.out.mo
            obtain ⟨ta, tc, hv2⟩ := slice_own HP16.out.tu
            subst hv1
            subst hv2
            have HRgP := Lib.hid HP16.out.rg18
            have HOne := Lib.hid (vals18_one ggp ggs ggc ggl ggst ggsk ggre ggfe ggag ggan1 g1 c1 g2 c2 ggap va ms.length vc ta L.length tc h1 d1 h2 d2 (lastP (⟨ggap, sx, sy⟩ : Ps) rs).pl ggrg)
            go_wp2_with (first | (refine wpList_load_mid rfl 61 _ rfl pb 0 rfl _ _ HRgP.out Try.underlying61 rfl (by kernel_rfl) ?_) | (refine wpList_store_mid rfl 61 _ _ rfl (w.heap.size + 1) 0 (vals18 ggp ggs ggc ggl ggst ggsk ggre ggfe ggag ggan1 g1 c1 g2 c2 ggap (.slice va ms.length vc) (.slice ta L.length tc) h1 d1 h2 d2 (lastP (⟨ggap, sx, sy⟩ : Ps) rs).pl ggrg).toArray rfl rfl HB16.out.2.1.th (by kernel_rfl) HOne.out ?_))
            have hrun := run_loadVar_mid (P := Try.prog) _ (w.heap.size + 1) 0 61 (vals18 ggp ggs ggc ggl ggst ggsk ggre ggfe ggag ggan1 g1 c1 g2 c2 ggap (.slice va ms.length vc) (.slice ta L.length tc) h1 d1 h2 d2 (lastP (⟨ggap, sx, sy⟩ : Ps) rs).pl ggrg) _ (World.rangeAt_setCells_same W16 (w.heap.size + 1) 0 _ HB16.out.2.1.th) Try.underlying61 rfl (by kernel_rfl)
            refine bodyPost_ret (v := .tuple #[.agg (vals18 ggp ggs ggc ggl ggst ggsk ggre ggfe ggag ggan1 g1 c1 g2 c2 ggap (.slice va ms.length vc) (.slice ta L.length tc) h1 d1 h2 d2 (lastP (⟨ggap, sx, sy⟩ : Ps) rs).pl ggrg).toArray, .int .i64 0]) ?_ rfl ?_
            · simp [results, Try.results40, Result.andThen_ok, asAddr, hrun]
            · unfold RpP
              rw [HOG.out, if_pos rfl]
              exact ⟨pb, g1, c1, g2, c2, _, _, L, h1, d1, h2, d2, _, R, rs, rfl, HP16.out.leave HB.out.2.2 HB.out.2.1.lt (by omega) (but_scg (w.heap.size + 1) _ 0 (But.refl _ _)), HRn.out, rfl, HRun.out.2.2.1, HRun.out.2.2.2⟩
end Go.Proofs.Ytenpnilljjfmkaa

/- Vg8 -/
namespace Go.Proofs.Ytenpnilljjfmkaa
open Go.Joins Go.ChangeShapes Go.WideShapes Go.ChangeAt Go.RowKit Go.Deep
set_option linter.unusedVariables false

theorem gmb_new (ggp ggs ggc ggl : Int) (ggst ggsk ggre ggfe ggag : Bool) (gga1 gga2 : Option Addr) (ggan1 ggac1 ggan2 ggac2 : Nat) (ggap : Int) (ggm : Option Addr) (ggmn ggmc : Nat) (ggb1 ggb2 : Option Addr) (ggbn1 ggbc1 ggbn2 ggbc2 : Nat) (ggbp ggrg : Int) (w : World) (T : TypeId) : GmB w w.heap.size ggp ggs ggc ggl ggst ggsk ggre ggfe ggag gga1 gga2 ggan1 ggac1 ggan2 ggac2 ggap ggm ggmn ggmc ggb1 ggb2 ggbn1 ggbc1 ggbn2 ggbc2 ggbp ggrg (w.alloc (.cells #[.int .i64 ggp, .int .i64 ggs, .bool ggst, .bool ggsk, .bool ggre, .bool ggfe, .bool ggag, .int .i64 ggc, .int .i64 ggl, .slice gga1 ggan1 ggac1, .slice gga2 ggan2 ggac2, .int .i64 ggap, .slice ggm ggmn ggmc, .slice ggb1 ggbn1 ggbc1, .slice ggb2 ggbn2 ggbc2, .int .i64 ggbp, .int .i64 ggrg] T)) := ⟨gm_new ggp ggs ggc ggl ggst ggsk ggre ggfe ggag gga1 gga2 ggan1 ggac1 ggan2 ggac2 ggap ggm ggmn ggmc ggb1 ggb2 ggbn1 ggbc1 ggbn2 ggbc2 ggbp ggrg w T, al1 _ _⟩
/-- Some play, and a code. -/
def RpD (cd : Int) (w : World) (e : Ending) (w' : World) : Prop := ∃ cs : List Value, cs.length = 18 ∧ cs.toArray.all (·.oneCell') = true ∧ e = .returned (.tuple #[.agg cs.toArray, .int .i64 cd]) ∧ Below w.heap.size w w'
theorem RpP.d {p s c l : Int} {st sk re fe ag : Bool} {n1 : Nat} {sp : Int} {sx sy ms : List Int} {rg : Int} {ok : Bool} {w w' : World} {e : Ending} (h : RpP p s c l st sk re fe ag n1 sp sx sy ms rg ok w e w') : RpD (if ok then 0 else 1) w e w' := by
  unfold RpP at h
  cases ok
  · rw [if_neg (by decide)] at h
    exact ⟨zero18, rfl, zero18_one, h.1, h.2⟩
  · rw [if_pos rfl] at h
    obtain ⟨pb, b1, e1, b2, e2, v1, v2, L, h1, d1, h2, d2, q, R, rs, he, hP, -⟩ := h
    obtain ⟨va, vc, rfl⟩ := slice_own hP.mo
    obtain ⟨ta, tc, rfl⟩ := slice_own hP.tu
    exact ⟨_, rfl, vals18_one _ _ _ _ _ _ _ _ _ _ _ _ _ _ _ _ _ _ _ _ _ _ _ _ _ _ _, he, hP.be⟩
theorem OnW.of9 {w u v : World} (h : Below w.heap.size w u) (k : Below u.heap.size u v) : Below w.heap.size w v := h.trans (k.mono h.size)
theorem specVG_any (ggp ggs ggc ggl : Int) (ggst ggsk ggre ggfe ggag : Bool) (gga1 gga2 : Option Addr) (ggan1 ggac1 ggan2 ggac2 : Nat) (ggap : Int) (ggm : Option Addr) (ggmn ggmc : Nat) (ggb1 ggb2 : Option Addr) (ggbn1 ggbc1 ggbn2 ggbc2 : Nat) (ggbp ggrg : Int) (sx sy ms nx ny : List Int) (w : World) (h : GamR w gga1 gga2 ggan1 ggan2 ggm ggmn ggb1 ggb2 ggbn1 ggbn2 sx sy ms nx ny) :
    Calls Try.prog 19 #[.agg #[.int .i64 ggp, .int .i64 ggs, .bool ggst, .bool ggsk, .bool ggre, .bool ggfe, .bool ggag, .int .i64 ggc, .int .i64 ggl, .slice gga1 ggan1 ggac1, .slice gga2 ggan2 ggac2, .int .i64 ggap, .slice ggm ggmn ggmc, .slice ggb1 ggbn1 ggbc1, .slice ggb2 ggbn2 ggbc2, .int .i64 ggbp, .int .i64 ggrg]] w (BelP (.bool (okG ggp ggs ggc ggl ggst ggsk ggre ggfe ggag ggan1 ggan2 ggap sx sy ms ggbp nx ny ggrg)) w) := by
  have HB := Lib.hid (gmb_new ggp ggs ggc ggl ggst ggsk ggre ggfe ggag gga1 gga2 ggan1 ggac1 ggan2 ggac2 ggap ggm ggmn ggmc ggb1 ggb2 ggbn1 ggbc1 ggbn2 ggbc2 ggbp ggrg w 31)
  have HC := Lib.hid (l08Ok_any ggp ggs ggc ggl ggst ggsk ggre ggfe ggag gga1 gga2 ggan1 ggac1 ggan2 ggac2 ggap ggm ggmn ggmc ggb1 ggb2 ggbn1 ggbc1 ggbn2 ggbc2 ggbp ggrg sx sy ms nx ny w.heap.size _ HB.out.1 (h.below HB.out.2))
  clear h
  go_enter Try.func19, Try.ntmps19
  go_wp2_with fail
  refine HC.out.mono ?_
  rintro e u ⟨rfl, hb⟩
  have HB := Lib.hid (HB.out.below hb)
  clear hb
  go_wp2_with fail
  go_ret
  exact ⟨rfl, HB.out.2⟩
set_option maxHeartbeats 2000000 in
set_option maxRecDepth 100000 in
theorem implVG_any (ggp ggs ggc ggl : Int) (ggst ggsk ggre ggfe ggag : Bool) (gga1 gga2 : Option Addr) (ggan1 ggac1 ggan2 ggac2 : Nat) (ggap : Int) (ggm : Option Addr) (ggmn ggmc : Nat) (ggb1 ggb2 : Option Addr) (ggbn1 ggbc1 ggbn2 ggbc2 : Nat) (ggbp ggrg : Int) (sx sy ms nx ny : List Int) (w : World) (h : GamR w gga1 gga2 ggan1 ggan2 ggm ggmn ggb1 ggb2 ggbn1 ggbn2 sx sy ms nx ny) :
    Calls Try.prog 21 #[.agg #[.int .i64 ggp, .int .i64 ggs, .bool ggst, .bool ggsk, .bool ggre, .bool ggfe, .bool ggag, .int .i64 ggc, .int .i64 ggl, .slice gga1 ggan1 ggac1, .slice gga2 ggan2 ggac2, .int .i64 ggap, .slice ggm ggmn ggmc, .slice ggb1 ggbn1 ggbc1, .slice ggb2 ggbn2 ggbc2, .int .i64 ggbp, .int .i64 ggrg]] w (BelP (.bool (okG ggp ggs ggc ggl ggst ggsk ggre ggfe ggag ggan1 ggan2 ggap sx sy ms ggbp nx ny ggrg)) w) := by
  have HB := Lib.hid (gmb_new ggp ggs ggc ggl ggst ggsk ggre ggfe ggag gga1 gga2 ggan1 ggac1 ggan2 ggac2 ggap ggm ggmn ggmc ggb1 ggb2 ggbn1 ggbc1 ggbn2 ggbc2 ggbp ggrg w 31)
  have HRg := Lib.hid (GmAt.range HB.out.1)
  have HC := Lib.hid (replay_any ggp ggs ggc ggl ggst ggsk ggre ggfe ggag gga1 gga2 ggan1 ggac1 ggan2 ggac2 ggap ggm ggmn ggmc ggb1 ggb2 ggbn1 ggbc1 ggbn2 ggbc2 ggbp ggrg sx sy ms nx ny _ (h.below HB.out.2))
  generalize okG ggp ggs ggc ggl ggst ggsk ggre ggfe ggag ggan1 ggan2 ggap sx sy ms ggbp nx ny ggrg = ok at *
  clear h
  go_enter Try.func21, Try.ntmps21
  go_wp2_with (refine wpList_load_mid rfl 31 _ rfl w.heap.size 0 rfl _ _ HRg.out Try.underlying31 rfl (by kernel_rfl) ?_)
  refine HC.out.mono ?_
  intro e u hq
  obtain ⟨cs, hc1, hc2, rfl, hb⟩ := hq.d
  have HCs := Lib.hid (And.intro hc1 hc2)
  have HB := Lib.hid (HB.out.below hb)
  clear hq hb hc1 hc2 HRg
  cases ok
  all_goals
    go_wp2_with (refine wpList_store_mid rfl 61 _ _ rfl u.heap.size 0 cs.toArray rfl rfl (by rw [show cs.toArray.size = 18 from by simpa using HCs.out.1]; exact there18 u 61) (by rw [show cs.toArray.size = 18 from by simpa using HCs.out.1]; kernel_rfl) HCs.out.2 ?_)
    go_ret
    exact ⟨rfl, OnW.of9 HB.out.2 (below_scg u.heap.size (Nat.le_refl _) cs 0 (al1 u _))⟩
end Go.Proofs.Ytenpnilljjfmkaa

/- Rep8 -/
namespace Go.Proofs.Ytenpnilljjfmkaa
open Go.Joins Go.ChangeShapes Go.WideShapes Go.ChangeAt Go.RowKit Go.Deep
set_option linter.unusedVariables false

/-- How many positions of a list are one position. -/
def cntP (bp : Int) (nx ny : List Int) (ps : List Ps) : Nat := ps.countP (fun y => sameB y.xs nx y.ys ny y.pl bp)
theorem cntP_le (bp : Int) (nx ny : List Int) (ps : List Ps) : cntP bp nx ny ps ≤ ps.length := List.countP_le_length
theorem cntP_snoc (bp : Int) (nx ny : List Int) (ps : List Ps) (y : Ps) : cntP bp nx ny (ps ++ [y]) = cntP bp nx ny ps + (if sameB y.xs nx y.ys ny y.pl bp = true then 1 else 0) := by
  unfold cntP
  rw [List.countP_append]
  cases h : sameB y.xs nx y.ys ny y.pl bp <;> simp [h]
theorem cntP_next {bp : Int} {nx ny : List Int} {ps : List Ps} {k : Nat} {y : Ps} (h : ps[k]? = some y) {sb : Bool} (hs : sameB y.xs nx y.ys ny y.pl bp = sb) : cntP bp nx ny (ps.take (k + 1)) = cntP bp nx ny (ps.take k) + (if sb = true then 1 else 0) := by
  rw [List.take_add_one, h, ← hs]
  exact cntP_snoc _ _ _ _ _
/-- How often a game's position has been there. -/
def repV (f : Ps → Int → Option R7) (q : Ps) (ms : List Int) (bp : Int) (nx ny : List Int) : Int :=
  match runO f q ms with
  | none => 0
  | some rs => (cntP bp nx ny (q :: rs.map R7.ps) : Int)
set_option maxHeartbeats 4000000 in
set_option maxRecDepth 100000 in
theorem l08Rep_any (ggp ggs ggc ggl : Int) (ggst ggsk ggre ggfe ggag : Bool) (gga1 gga2 : Option Addr) (ggan1 ggac1 ggan2 ggac2 : Nat) (ggap : Int) (ggm : Option Addr) (ggmn ggmc : Nat) (ggb1 ggb2 : Option Addr) (ggbn1 ggbc1 ggbn2 ggbc2 : Nat) (ggbp ggrg : Int) (sx sy ms nx ny : List Int) (gb : Nat) (w : World) (hg : GmAt w gb ggp ggs ggc ggl ggst ggsk ggre ggfe ggag gga1 gga2 ggan1 ggac1 ggan2 ggac2 ggap ggm ggmn ggmc ggb1 ggb2 ggbn1 ggbc1 ggbn2 ggbc2 ggbp ggrg) (h : GamR w gga1 gga2 ggan1 ggan2 ggm ggmn ggb1 ggb2 ggbn1 ggbn2 sx sy ms nx ny) (hok : okG ggp ggs ggc ggl ggst ggsk ggre ggfe ggag ggan1 ggan2 ggap sx sy ms ggbp nx ny ggrg = true) :
    Calls Try.prog 44 #[.pointer (some ⟨gb, 0, none⟩)] w (BelP (.int .i64 (repV (stp ggp ggc ggl ggst ggsk ggre ggfe ggag) ⟨ggap, sx, sy⟩ ms ggbp nx ny)) w) := by
  unfold okG at hok
  simp only [Bool.and_eq_true, decide_eq_true_eq] at hok
  obtain ⟨⟨⟨hk, h120⟩, -⟩, hrb⟩ := hok
  obtain ⟨-, -, e2, -, -⟩ := okP_parts hk
  subst e2
  have HOk := Lib.hid (show OkQ ggp ggs ggc ggl ggst ggag ggan1 ⟨ggap, sx, sy⟩ from ⟨hk, h.s.l1, h.s.l2⟩)
  have Hlm := Lib.hid h.lm
  have h12 : ggmn ≤ 120 := by have := Hlm.out; omega
  have H := Lib.hid h
  have HS := Lib.hid (show GmB w gb ggp ggs ggc ggl ggst ggsk ggre ggfe ggag gga1 gga2 ggan1 ggac1 2 ggac2 ggap ggm ggmn ggmc ggb1 ggb2 ggbn1 ggbc1 ggbn2 ggbc2 ggbp ggrg w from ⟨hg, Below.refl _ _⟩)
  obtain ⟨rs, hro⟩ : ∃ rs, runO (stp ggp ggc ggl ggst ggsk ggre ggfe ggag) ⟨ggap, sx, sy⟩ ms = some rs := by
    unfold runB at hrb
    cases e : runO (stp ggp ggc ggl ggst ggsk ggre ggfe ggag) ⟨ggap, sx, sy⟩ ms with
    | none => rw [e] at hrb; cases hrb
    | some rs => exact ⟨rs, rfl⟩
  have hV : repV (stp ggp ggc ggl ggst ggsk ggre ggfe ggag) ⟨ggap, sx, sy⟩ ms ggbp nx ny = (cntP ggbp nx ny ((⟨ggap, sx, sy⟩ : Ps) :: rs.map R7.ps) : Int) := by unfold repV; rw [hro]
  rw [hV]
  have Hro := Lib.hid hro
  clear hV hro hk h hg hrb
  have HRn : Hid (∀ u, GmB w gb ggp ggs ggc ggl ggst ggsk ggre ggfe ggag gga1 gga2 ggan1 ggac1 2 ggac2 ggap ggm ggmn ggmc ggb1 ggb2 ggbn1 ggbc1 ggbn2 ggbc2 ggbp ggrg u → Calls Try.prog 41 #[.pointer (some ⟨gb, 0, none⟩), .pointer (some ⟨gb, 9, none⟩), .slice ggm ggmn ggmc] u (RunP (stp ggp ggc ggl ggst ggsk ggre ggfe ggag) ⟨ggap, sx, sy⟩ ms u)) := Lib.hid (fun u hu => l08Run_any ggp ggs ggc ggl ggst ggsk ggre ggfe ggag gga1 gga2 ggan1 ggac1 ggac2 ggap sx sy ms gb ggm ggmn ggmc u hu.1.ru hu.1.p9 (H.out.s.below hu.2) (H.out.m.below hu.2) Hlm.out (by omega) HOk.out)
  have HTT : Hid (∀ u : World, GmB w gb ggp ggs ggc ggl ggst ggsk ggre ggfe ggag gga1 gga2 ggan1 ggac1 2 ggac2 ggap ggm ggmn ggmc ggb1 ggb2 ggbn1 ggbc1 ggbn2 ggbc2 ggbp ggrg u → (gb < u.heap.size ∧ u.cell? ⟨gb, 12, none⟩ = some (.slice ggm ggmn ggmc)) ∧ Below w.heap.size w u) := Lib.hid (fun u h => gm_mv h)
  go_enter Try.func44, Try.ntmps44
  go_upto_region 1 with fail
  go_region_held3 (fun u => (gb < u.heap.size ∧ u.cell? ⟨gb, 12, none⟩ = some (.slice ggm ggmn ggmc)) ∧ Below w.heap.size w u) (first | with_reducible exact HTT.out _ HS.out | with_reducible exact HTT.out _ HS.out.drew)
    ((go_at_call 41; (with_reducible refine (HRn.out _ ?_).mono ?_); (first | with_reducible exact HS.out | with_reducible exact HS.out.drew); rintro e w6 ⟨v1, v2, L, gs, rfl, hL, hgn, hll, hle, hR, hb⟩; (first | with_reducible have HS := Lib.hid (HS.out.below hb) | with_reducible have HS := Lib.hid (HS.out.drew.below hb)); have HL := Lib.hid hL; have Hgn := Lib.hid hgn; have HR := Lib.hid (And.intro hR (And.intro hll hle)); clear hL hgn hR hb hll hle))
  obtain ⟨a2, c2, rfl⟩ := slice_own Hgn.out
  obtain ⟨g1, cp1, rfl⟩ := slice_some HL.out.own (by have := HR.out.2.1; omega)
  obtain ⟨hR, hll, hle⟩ := HR.out
  have hnL : L.length ≤ 121 := by have := Hlm.out; omega
  unfold RunR at hR
  rw [Hro.out] at hR
  obtain ⟨hR1, -⟩ := hR
  have HR1 := Lib.hid hR1
  obtain ⟨N, hN⟩ : ∃ N, N = L.length := ⟨_, rfl⟩
  have HN := Lib.hid hN
  rw [← hN] at hnL
  rw [← hN]
  generalize gs.length = n2 at *
  clear hll hle hR1 hN HR HRn HTT
  go_wp2_with fail
  go_loopw [5, 6] (fun n i wr => ∃ k : Nat, i = .int .i64 k ∧ n = .int .i64 (cntP ggbp nx ny ((L.map Prod.fst).take k)) ∧ k ≤ N ∧ Below w6.heap.size w6 wr) (fun _ i _ => N - (intOf i).toNat)
  case atStart => exact ⟨0, rfl, rfl, Nat.zero_le _, by first | exact Below.refl _ _ | exact below_dn (Below.refl _ _) _ | exact (Below.refl _ _).drew⟩
  case round =>
    obtain ⟨k, rfl, rfl, hkN, hbw⟩ := hrel
    have HSr := Lib.hid (HS.out.below hbw)
    have HLr := Lib.hid (HL.out.below hbw)
    have Hbw := Lib.hid hbw
    have hc1 : cntP ggbp nx ny ((L.map Prod.fst).take k) ≤ 121 := Nat.le_trans (cntP_le _ _ _ _) (by rw [List.length_take]; omega)
    clear hbw
    by_cases hlt : k < N
    · obtain ⟨x, hx⟩ : ∃ x, L[k]? = some x := ⟨L[k]'(by rw [← HN.out]; exact hlt), List.getElem?_eq_getElem _⟩
      have HC := Lib.hid (fun o (ho : o < 3) => HLr.out.cell hx ho)
      have HI := Lib.hid (HLr.out.it x (List.mem_of_getElem? hx))
      have hx1 : (L.map Prod.fst)[k]? = some x.1 := by rw [List.getElem?_map, hx]; rfl
      have HSm : Hid (∀ q o, o = k * 3 → Calls Try.prog 56 #[.pointer (some ⟨g1, o, none⟩), .pointer (some ⟨gb, 13, none⟩)] (wr.drewN q) (Still (.bool (sameB x.1.xs nx x.1.ys ny x.1.pl ggbp)) (wr.drewN q))) := Lib.hid (fun q o ho => by
        subst ho
        have hgl : g1 < wr.heap.size := (own_lt HLr.out.own g1 rfl).2
        have kb := below_dn (Below.refl wr.heap.size wr) q
        exact l04SameO_any (some ⟨x.2.g1, 0, none⟩) (some ⟨x.2.g2, 0, none⟩) x.2.n1 x.2.k1 2 x.2.k2 x.1.pl ggb1 ggb2 ggbn1 ggbc1 ggbn2 ggbc2 ggbp x.1.xs x.1.ys nx ny g1 (k * 3) gb (wr.drewN q) (PoO.below (v := wr.drewN q) (u := wr) ⟨hgl, HC.out 0 (by omega), HC.out 1 (by omega), HC.out 2 (by omega)⟩ kb) (HSr.out.below kb).1.s13 (HI.out.o.r.drewN q) ((H.out.n.below HSr.out.2).drewN q))
      obtain ⟨sb, hsb⟩ : ∃ sb, sameB x.1.xs nx x.1.ys ny x.1.pl ggbp = sb := ⟨_, rfl⟩
      rw [hsb] at HSm
      have HNx := Lib.hid (cntP_next hx1 hsb)
      obtain ⟨cn, hcn⟩ : ∃ cn, cntP ggbp nx ny ((L.map Prod.fst).take k) = cn := ⟨_, rfl⟩
      rw [hcn] at HNx hc1
      rw [hcn]
      have k0 : (0 : Int) ≤ (k : Int) := by omega
      have kq : (k : Int) < (N : Int) := by omega
      have c0 : (0 : Int) ≤ (cn : Int) := by omega
      have cq : (cn : Int) ≤ 121 := by omega
      clear hx hx1 hsb hcn
      cases sb
      all_goals
        go_wp2_with fail
        go_quiet ((go_at_call 56; with_reducible exact quiet_s (HSm.out _ _ (by simp)) ⟨_, rfl⟩))
        go_wp2_with fail
        go_roundw
        case rel => exact ⟨k + 1, by go_num, by rw [HNx.out]; go_num, by omega, by first | exact Hbw.out | exact below_dn Hbw.out _⟩
        case measure => simp [intOf]; omega
    · obtain rfl : k = N := by omega
      rw [List.take_of_length_le (by rw [List.length_map, ← HN.out]; exact Nat.le_refl _)] at hc1
      rw [List.take_of_length_le (by rw [List.length_map, ← HN.out]; exact Nat.le_refl _)]
      obtain ⟨cn, hcn⟩ : ∃ cn : Int, (cntP ggbp nx ny (L.map Prod.fst) : Int) = cn := ⟨_, rfl⟩
      rw [hcn]
      go_wp2_with fail
      go_ret
      exact ⟨by rw [← HR1.out, hcn]; rfl, by first | exact HSr.out.2 | exact below_dn HSr.out.2 _⟩
end Go.Proofs.Ytenpnilljjfmkaa

/- Rep9 -/
namespace Go.Proofs.Ytenpnilljjfmkaa
open Go.Joins Go.ChangeShapes Go.WideShapes Go.ChangeAt Go.RowKit Go.Deep
set_option linter.unusedVariables false

section
variable {w u v : World} {pb : Nat} {p s c l : Int} {st sk re fe ag : Bool} {n1 b1 e1 b2 e2 : Nat} {sp : Int} {sx sy : List Int} {v1 v2 : Value} {ms : List Int} {L : List (T21 × Q21)} {h1 d1 h2 d2 : Nat} {q : Ps} {rg : Int} {R : List (Nat × List Int)}
/-- A turn of a play, as its cells lie. -/
theorem PlK.rgL {g n cap : Nat} (h : PlK w pb p s c l st sk re fe ag n1 b1 e1 b2 e2 sp sx sy v1 (.slice (some ⟨g, 0, none⟩) n cap) ms L h1 d1 h2 d2 q rg R u) {i : Nat} {x : T21 × Q21} (hi : L[i]? = some x) : u.rangeAt g (i * 21) (cells21 p s c l st sk re fe ag n1 x) := by
  intro j y hj
  have hj21 : j < 21 := (List.getElem?_eq_some_iff.1 hj).1
  obtain ⟨h1, ⟨e, -⟩ | ⟨g', cap', cur, hv, hb, hg, hn, hc, hs, ht⟩⟩ := h.tu
  · cases e
  · simp only [Value.slice.injEq, Option.some.injEq, Addr.mk.injEq] at hv
    obtain ⟨⟨rfl, -⟩, -, rfl⟩ := hv
    have e := flat21_at (p := p) (s := s) (c := c) (l := l) (st := st) (sk := sk) (re := re) (fe := fe) (ag := ag) (n1 := n1) L i x hi j hj21
    rw [← ht, List.getElem?_take] at e
    have hL : i < L.length := (List.getElem?_eq_some_iff.1 hi).1
    rw [if_pos (by omega), hj] at e
    rw [← e]
    simp [World.cell?, hg]
/-- A turn's position before. -/
theorem PlK.bef (h : PlK w pb p s c l st sk re fe ag n1 b1 e1 b2 e2 sp sx sy v1 v2 ms L h1 d1 h2 d2 q rg R u) {x : T21 × Q21} (hx : x ∈ L) : PosR u (some ⟨x.2.a1, 0, none⟩) (some ⟨x.2.a2, 0, none⟩) n1 2 x.1.q.xs x.1.q.ys := by
  have i := h.it x hx
  exact ⟨(h.rws _ i.a1).o.row, (h.rws _ i.a2).o.row, i.l1, i.l2⟩
end
/-- A turn in a variable. -/
def B21 (w : World) (M : Nat) (a1 : Option Addr) (n1 ca1 : Nat) (a2 : Option Addr) (ca2 : Nat) (pl : Int) (u : World) : Prop := M < u.heap.size ∧ u.cell? ⟨M, 14, none⟩ = some (.slice a1 n1 ca1) ∧ u.cell? ⟨M, 15, none⟩ = some (.slice a2 2 ca2) ∧ u.cell? ⟨M, 16, none⟩ = some (.int .i64 pl)
theorem B21.below {w u v : World} {M : Nat} {a1 : Option Addr} {n1 ca1 : Nat} {a2 : Option Addr} {ca2 : Nat} {pl : Int} (h : B21 w M a1 n1 ca1 a2 ca2 pl u) (k : Below u.heap.size u v) : B21 w M a1 n1 ca1 a2 ca2 pl v := by
  obtain ⟨h0, h1, h2, h3⟩ := h
  exact ⟨Nat.lt_of_lt_of_le h0 k.size, (k.cell (p := ⟨M, 14, none⟩) h0).trans h1, (k.cell (p := ⟨M, 15, none⟩) h0).trans h2, (k.cell (p := ⟨M, 16, none⟩) h0).trans h3⟩
theorem b21_put {wr X : World} (p s c l : Int) (st sk re fe ag : Bool) {n1 : Nat} {x : T21 × Q21} (T : TypeId) (hX : X = (wr.alloc (.cells zero21.toArray T)).setCells wr.heap.size 0 (cells21 p s c l st sk re fe ag n1 x)) :
    B21 wr wr.heap.size (some ⟨x.2.a1, 0, none⟩) n1 x.2.ca1 (some ⟨x.2.a2, 0, none⟩) x.2.ca2 x.1.q.pl X ∧ Below wr.heap.size wr X := by
  have hr := World.rangeAt_setCells_same (wr.alloc (.cells zero21.toArray T)) wr.heap.size 0 (cells21 p s c l st sk re fe ag n1 x) (thN_new wr T).th
  rw [← hX] at hr
  exact ⟨⟨by rw [hX, size_scg]; simp, hr 14 _ rfl, hr 15 _ rfl, hr 16 _ rfl⟩, by rw [hX]; exact below_scg wr.heap.size (Nat.le_refl _) _ 0 (al1 wr _)⟩
set_option maxHeartbeats 4000000 in
set_option maxRecDepth 100000 in
theorem repeats_any {w : World} {pb : Nat} (p s c l : Int) (st sk re fe ag : Bool) {n1 b1 e1 b2 e2 : Nat} {sp : Int} {sx sy : List Int} {v1 v2 : Value} {ms : List Int} {L : List (T21 × Q21)} {h1 d1 h2 d2 : Nat} {q : Ps} {rg : Int} {R : List (Nat × List Int)} (u : World) (h : PlK w pb p s c l st sk re fe ag n1 b1 e1 b2 e2 sp sx sy v1 v2 ms L h1 d1 h2 d2 q rg R u) (hl : L.length ≤ 120) :
    Calls Try.prog 45 #[.pointer (some ⟨pb, 0, none⟩)] u (BelP (.int .i64 (1 + (cntP q.pl q.xs q.ys (L.map (fun x => x.1.q)) : Int))) u) := by
  obtain ⟨ta, tc, hv2⟩ := slice_own h.tu
  subst hv2
  have HP := Lib.hid h
  have t17 := h.tv
  obtain ⟨N, hN⟩ : ∃ N, N = L.length := ⟨_, rfl⟩
  have HN := Lib.hid hN
  rw [← hN] at hl t17
  clear h hN
  go_enter Try.func45, Try.ntmps45
  go_wp2_with fail
  go_loopw [3, 11] (fun n i wr => ∃ k : Nat, i = .int .i64 k ∧ n = .int .i64 (1 + (cntP q.pl q.xs q.ys ((L.map (fun x => x.1.q)).take k) : Int)) ∧ k ≤ N ∧ Below u.heap.size u wr) (fun _ i _ => N - (intOf i).toNat)
  case atStart => exact ⟨0, rfl, rfl, Nat.zero_le _, by first | exact Below.refl _ _ | exact below_dn (Below.refl _ _) _ | exact (Below.refl _ _).drew⟩
  case round =>
    obtain ⟨k, rfl, rfl, hkN, hbw⟩ := hrel
    have HPr := Lib.hid (HP.out.below hbw)
    have Hbw := Lib.hid hbw
    have hc1 : cntP q.pl q.xs q.ys ((L.map (fun x => x.1.q)).take k) ≤ 120 := Nat.le_trans (cntP_le _ _ _ _) (by rw [List.length_take]; omega)
    clear hbw t17
    by_cases hlt : k < N
    · obtain ⟨x, hx⟩ : ∃ x, L[k]? = some x := ⟨L[k]'(by rw [← HN.out]; exact hlt), List.getElem?_eq_getElem _⟩
      obtain ⟨g, c', hg⟩ := slice_some HPr.out.tu (by have := HN.out; omega)
      simp only [Value.slice.injEq] at hg
      obtain ⟨rfl, -, rfl⟩ := hg
      have hx1 : (L.map (fun x => x.1.q))[k]? = some x.1.q := by rw [List.getElem?_map, hx]; rfl
      have HRg : Hid (∀ o, o = k * 21 → wr.rangeAt g o (cells21 p s c l st sk re fe ag n1 x)) := Lib.hid (fun o ho => by rw [ho]; exact HPr.out.rgL hx)
      have HOne := Lib.hid (all_oneCell_toArray (cells21_one (p := p) (s := s) (c := c) (l := l) (st := st) (sk := sk) (re := re) (fe := fe) (ag := ag) (n1 := n1) x))
      have HTh := Lib.hid (thN_new wr 79)
      have HBf := Lib.hid (List.mem_of_getElem? hx)
      obtain ⟨sb, hsb⟩ : ∃ sb, sameB x.1.q.xs q.xs x.1.q.ys q.ys x.1.q.pl q.pl = sb := ⟨_, rfl⟩
      have HNx := Lib.hid (cntP_next hx1 hsb)
      have Hsb := Lib.hid hsb
      obtain ⟨cn, hcn⟩ : ∃ cn, cntP q.pl q.xs q.ys ((L.map (fun x => x.1.q)).take k) = cn := ⟨_, rfl⟩
      rw [hcn] at HNx hc1
      rw [hcn]
      have k0 : (0 : Int) ≤ (k : Int) := by omega
      have kq : (k : Int) < (N : Int) := by omega
      have c0 : (0 : Int) ≤ (cn : Int) := by omega
      have cq : (cn : Int) ≤ 120 := by omega
      clear hx hx1 hsb hcn
      go_upto_region 5 with (first | (refine wpList_load_mid rfl 79 _ rfl g _ rfl _ _ (HRg.out _ (by simp)) Try.underlying79 rfl (by kernel_rfl) ?_) | (refine wpList_store_mid rfl 79 _ _ rfl wr.heap.size 0 (cells21 p s c l st sk re fe ag n1 x).toArray rfl rfl HTh.out.th (by kernel_rfl) HOne.out ?_))
      generalize hX : World.setCells _ _ _ _ = X
      have hM := b21_put _ _ _ _ _ _ _ _ _ 79 hX.symm
      have HM := Lib.hid hM.1
      have HPX := Lib.hid (HPr.out.below hM.2)
      have HBX := Lib.hid (Below.trans Hbw.out (hM.2.mono Hbw.out.size))
      generalize wr.heap.size = M at *
      clear hX hM
      have HTT : Hid (∀ v : World, B21 wr M (some ⟨x.2.a1, 0, none⟩) n1 x.2.ca1 (some ⟨x.2.a2, 0, none⟩) x.2.ca2 x.1.q.pl v → PlK w pb p s c l st sk re fe ag n1 b1 e1 b2 e2 sp sx sy v1 (.slice (some ⟨g, 0, none⟩) L.length tc) ms L h1 d1 h2 d2 q rg R v → (M < v.heap.size ∧ v.cell? ⟨M, 14, none⟩ = some (.slice (some ⟨x.2.a1, 0, none⟩) n1 x.2.ca1) ∧ v.cell? ⟨M, 15, none⟩ = some (.slice (some ⟨x.2.a2, 0, none⟩) 2 x.2.ca2) ∧ v.cell? ⟨M, 16, none⟩ = some (.int .i64 x.1.q.pl)) ∧ (pb < v.heap.size ∧ v.cell? ⟨pb, 13, none⟩ = some (.slice (some ⟨h1, 0, none⟩) n1 d1) ∧ v.cell? ⟨pb, 14, none⟩ = some (.slice (some ⟨h2, 0, none⟩) 2 d2) ∧ v.cell? ⟨pb, 15, none⟩ = some (.int .i64 q.pl))) := Lib.hid (fun v h k => ⟨h, k.now⟩)
      have HSm : Hid (∀ v : World, PlK w pb p s c l st sk re fe ag n1 b1 e1 b2 e2 sp sx sy v1 (.slice (some ⟨g, 0, none⟩) L.length tc) ms L h1 d1 h2 d2 q rg R v → Calls Try.prog 59 #[.agg #[.slice (some ⟨x.2.a1, 0, none⟩) n1 x.2.ca1, .slice (some ⟨x.2.a2, 0, none⟩) 2 x.2.ca2, .int .i64 x.1.q.pl], .agg #[.slice (some ⟨h1, 0, none⟩) n1 d1, .slice (some ⟨h2, 0, none⟩) 2 d2, .int .i64 q.pl]] v fun e w' => e = .returned (.bool sb) ∧ Below v.heap.size v w') := Lib.hid (fun v k => by rw [← Hsb.out]; exact implSame_any _ _ _ _ _ _ _ _ _ _ _ _ _ _ _ _ _ _ v (k.bef HBf.out) k.nr)
      cases sb
      all_goals
        go_region_held3 (fun v => (M < v.heap.size ∧ v.cell? ⟨M, 14, none⟩ = some (.slice (some ⟨x.2.a1, 0, none⟩) n1 x.2.ca1) ∧ v.cell? ⟨M, 15, none⟩ = some (.slice (some ⟨x.2.a2, 0, none⟩) 2 x.2.ca2) ∧ v.cell? ⟨M, 16, none⟩ = some (.int .i64 x.1.q.pl)) ∧ (pb < v.heap.size ∧ v.cell? ⟨pb, 13, none⟩ = some (.slice (some ⟨h1, 0, none⟩) n1 d1) ∧ v.cell? ⟨pb, 14, none⟩ = some (.slice (some ⟨h2, 0, none⟩) 2 d2) ∧ v.cell? ⟨pb, 15, none⟩ = some (.int .i64 q.pl))) (first | with_reducible exact HTT.out _ HM.out HPX.out | with_reducible exact HTT.out _ (HM.out.below (Below.refl _ _).drew) HPX.out.drew)
          ((go_at_call 59; (with_reducible refine (HSm.out _ ?_).mono ?_); (first | with_reducible exact HPX.out | with_reducible exact HPX.out.drew); rintro e w6 ⟨rfl, hb⟩; (first | with_reducible have HM := Lib.hid (HM.out.below hb) | with_reducible have HM := Lib.hid ((HM.out.below (Below.refl _ _).drew).below hb)); (first | with_reducible have HPX := Lib.hid (HPX.out.below hb) | with_reducible have HPX := Lib.hid (HPX.out.drew.below hb)); (first | with_reducible have HBX := Lib.hid (Below.trans HBX.out (hb.mono HBX.out.size)) | with_reducible have HBX := Lib.hid (Below.trans HBX.out.drew (hb.mono HBX.out.drew.size))); clear hb))
        go_wp2_with fail
        go_roundw
        case rel => exact ⟨k + 1, by go_num, by rw [HNx.out]; go_num, by omega, HBX.out⟩
        case measure => simp [intOf]; omega
    · obtain rfl : k = N := by omega
      rw [List.take_of_length_le (by rw [List.length_map, ← HN.out]; exact Nat.le_refl _)] at hc1
      rw [List.take_of_length_le (by rw [List.length_map, ← HN.out]; exact Nat.le_refl _)]
      obtain ⟨cn, hcn⟩ : ∃ cn : Int, (cntP q.pl q.xs q.ys (L.map (fun x => x.1.q)) : Int) = cn := ⟨_, rfl⟩
      rw [hcn]
      go_wp2_with fail
      go_ret
      exact ⟨by rw [hcn]; rfl, by first | exact Hbw.out | exact below_dn Hbw.out _⟩
end Go.Proofs.Ytenpnilljjfmkaa

/- RpO -/
namespace Go.Proofs.Ytenpnilljjfmkaa
open Go.Joins Go.ChangeShapes Go.WideShapes Go.ChangeAt Go.RowKit Go.Deep
set_option linter.unusedVariables false

/-- A play in a variable of its own. -/
theorem PlK.move {w u : World} {pb : Nat} {p s c l : Int} {st sk re fe ag : Bool} {n1 b1 e1 b2 e2 : Nat} {sp : Int} {sx sy : List Int} {v1 v2 : Value} {ms : List Int} {L : List (T21 × Q21)} {h1 d1 h2 d2 : Nat} {q : Ps} {rg : Int} {R : List (Nat × List Int)}
    (h : PlK w pb p s c l st sk re fe ag n1 b1 e1 b2 e2 sp sx sy v1 v2 ms L h1 d1 h2 d2 q rg R u) (T : TypeId) (X : World) (hX : X = (u.alloc (.cells #[.int .i64 0, .int .i64 0, .bool false, .bool false, .bool false, .bool false, .bool false, .int .i64 0, .int .i64 0, .slice none 0 0, .slice none 0 0, .int .i64 0, .slice none 0 0, .slice none 0 0, .slice none 0 0, .int .i64 0, .int .i64 0, .slice none 0 0] T)).setCells u.heap.size 0 (vals18 p s c l st sk re fe ag n1 b1 e1 b2 e2 sp v1 v2 h1 d1 h2 d2 q.pl rg)) :
    PlK w u.heap.size p s c l st sk re fe ag n1 b1 e1 b2 e2 sp sx sy v1 v2 ms L h1 d1 h2 d2 q rg R X ∧ Below u.heap.size u X := by
  have hr := World.rangeAt_setCells_same (u.alloc (.cells #[.int .i64 0, .int .i64 0, .bool false, .bool false, .bool false, .bool false, .bool false, .int .i64 0, .int .i64 0, .slice none 0 0, .slice none 0 0, .int .i64 0, .slice none 0 0, .slice none 0 0, .slice none 0 0, .int .i64 0, .int .i64 0, .slice none 0 0] T)) u.heap.size 0 (vals18 p s c l st sk re fe ag n1 b1 e1 b2 e2 sp v1 v2 h1 d1 h2 d2 q.pl rg) (there18 u T)
  rw [← hX] at hr
  have hbe : Below u.heap.size u X := by rw [hX]; exact below_scg u.heap.size (Nat.le_refl _) _ 0 (al1 u _)
  have hsz : X.heap.size = u.heap.size + 1 := by rw [hX, size_scg]; simp
  have hfr : ∀ o, X.frozen? ⟨u.heap.size, o, none⟩ = false := fun o => by rw [hX, fr_sc]; go_simp
  refine ⟨⟨⟨by omega, hr 0 _ rfl, hr 1 _ rfl, hr 2 _ rfl, hr 3 _ rfl, hr 4 _ rfl, hr 5 _ rfl, hr 6 _ rfl, hr 7 _ rfl, hr 8 _ rfl, hr 9 _ rfl, hr 10 _ rfl, hr 11 _ rfl, hr 12 _ rfl, hr 13 _ rfl, hr 14 _ rfl, hr 15 _ rfl, hr 16 _ rfl, hfr⟩, hr 17 _ rfl, own_keepS h.mo hbe, own_keepS h.tu hbe, fun y hy => ?_, h.sv, fun i hi => ?_, fun i hi => ?_, h.it, h.s1, h.s2, h.y1, h.y2, h.di, h.m1, h.m2, h.m3, h.m4, h.k1, h.k2, h.k3, h.k4, h.be.size, h.be.trans (hbe.mono h.be.size)⟩, hbe⟩
  · have r := h.rws y hy
    have := r.lt
    exact ⟨r.o.below hbe, by omega, by omega, r.n1, r.n2⟩
  · have := (own_lt h.mo i hi).2
    omega
  · have := (own_lt h.tu i hi).2
    omega
theorem sameB_parts {xs nx ys ny : List Int} {pl bp : Int} (h : sameB xs nx ys ny pl bp = true) : xs = nx ∧ ys = ny ∧ pl = bp := by
  unfold sameB at h
  simp only [Bool.and_eq_true, decide_eq_true_eq, beq_iff_eq] at h
  exact ⟨h.1.1, h.1.2, h.2⟩
/-- A valid game's moves can be played, lead to its position of now, and are at most 120. -/
theorem okG_parts {p s c l : Int} {st sk re fe ag : Bool} {n1 n2 : Nat} {pp : Int} {xs ys ms : List Int} {bp : Int} {nx ny : List Int} {rg : Int} (h : okG p s c l st sk re fe ag n1 n2 pp xs ys ms bp nx ny rg = true) :
    okP (okR p s c l st ag) p n1 n2 pp xs ys = true ∧ ms.length ≤ 120 ∧ (-1 ≤ rg ∧ rg ≤ 1) ∧ ∃ rs, runO (stp p c l st sk re fe ag) ⟨pp, xs, ys⟩ ms = some rs ∧ (lastP ⟨pp, xs, ys⟩ rs).xs = nx ∧ (lastP ⟨pp, xs, ys⟩ rs).ys = ny ∧ (lastP ⟨pp, xs, ys⟩ rs).pl = bp := by
  unfold okG at h
  simp only [Bool.and_eq_true, decide_eq_true_eq] at h
  obtain ⟨⟨⟨h1, h2⟩, h3⟩, h4⟩ := h
  refine ⟨h1, h2, h3, ?_⟩
  unfold runB at h4
  cases e : runO (stp p c l st sk re fe ag) ⟨pp, xs, ys⟩ ms with
  | none => rw [e] at h4; cases h4
  | some rs =>
    rw [e] at h4
    exact ⟨rs, rfl, sameB_parts h4⟩
theorem rep_eq {p s c l : Int} {st sk re fe ag : Bool} {n1 n2 : Nat} {pp : Int} {xs ys ms : List Int} {bp : Int} {nx ny : List Int} {rg : Int} {rs : List R7} {q : Ps} {qs : List Ps} (h : okG p s c l st sk re fe ag n1 n2 pp xs ys ms bp nx ny rg = true) (hro : runO (stp p c l st sk re fe ag) ⟨pp, xs, ys⟩ ms = some rs) (hq : q = lastP ⟨pp, xs, ys⟩ rs) (hL : qs ++ [q] = (⟨pp, xs, ys⟩ : Ps) :: rs.map R7.ps) :
    repV (stp p c l st sk re fe ag) ⟨pp, xs, ys⟩ ms bp nx ny = 1 + (cntP q.pl q.xs q.ys qs : Int) := by
  obtain ⟨-, -, -, rs', e1, e2, e3, e4⟩ := okG_parts h
  rw [hro] at e1
  cases e1
  rw [← hq] at e2 e3 e4
  unfold repV
  rw [hro]
  show ((cntP bp nx ny (_ :: rs.map R7.ps) : Nat) : Int) = _
  rw [← hL, ← e2, ← e3, ← e4, cntP_snoc, if_pos (by unfold sameB; simp)]
  omega
/-- The answer of RepeatsOf. -/
def RpO (p s c l : Int) (st sk re fe ag : Bool) (n1 n2 : Nat) (pp : Int) (xs ys ms : List Int) (bp : Int) (nx ny : List Int) (rg : Int) : Value :=
  .tuple #[.int .i64 (if okG p s c l st sk re fe ag n1 n2 pp xs ys ms bp nx ny rg = true then repV (stp p c l st sk re fe ag) ⟨pp, xs, ys⟩ ms bp nx ny else 0), .int .i64 (if okG p s c l st sk re fe ag n1 n2 pp xs ys ms bp nx ny rg = true then 0 else 1)]
set_option maxHeartbeats 2000000 in
set_option maxRecDepth 100000 in
theorem specRO_any (ggp ggs ggc ggl : Int) (ggst ggsk ggre ggfe ggag : Bool) (gga1 gga2 : Option Addr) (ggan1 ggac1 ggan2 ggac2 : Nat) (ggap : Int) (ggm : Option Addr) (ggmn ggmc : Nat) (ggb1 ggb2 : Option Addr) (ggbn1 ggbc1 ggbn2 ggbc2 : Nat) (ggbp ggrg : Int) (sx sy ms nx ny : List Int) (w : World) (h : GamR w gga1 gga2 ggan1 ggan2 ggm ggmn ggb1 ggb2 ggbn1 ggbn2 sx sy ms nx ny) :
    Calls Try.prog 27 #[.agg #[.int .i64 ggp, .int .i64 ggs, .bool ggst, .bool ggsk, .bool ggre, .bool ggfe, .bool ggag, .int .i64 ggc, .int .i64 ggl, .slice gga1 ggan1 ggac1, .slice gga2 ggan2 ggac2, .int .i64 ggap, .slice ggm ggmn ggmc, .slice ggb1 ggbn1 ggbc1, .slice ggb2 ggbn2 ggbc2, .int .i64 ggbp, .int .i64 ggrg]] w (BelP (RpO ggp ggs ggc ggl ggst ggsk ggre ggfe ggag ggan1 ggan2 ggap sx sy ms ggbp nx ny ggrg) w) := by
  have HB := Lib.hid (gmb_new ggp ggs ggc ggl ggst ggsk ggre ggfe ggag gga1 gga2 ggan1 ggac1 ggan2 ggac2 ggap ggm ggmn ggmc ggb1 ggb2 ggbn1 ggbc1 ggbn2 ggbc2 ggbp ggrg w 31)
  have HC := Lib.hid (l08Ok_any ggp ggs ggc ggl ggst ggsk ggre ggfe ggag gga1 gga2 ggan1 ggac1 ggan2 ggac2 ggap ggm ggmn ggmc ggb1 ggb2 ggbn1 ggbc1 ggbn2 ggbc2 ggbp ggrg sx sy ms nx ny w.heap.size _ HB.out.1 (h.below HB.out.2))
  have H := Lib.hid h
  unfold RpO
  clear h
  cases hok : okG ggp ggs ggc ggl ggst ggsk ggre ggfe ggag ggan1 ggan2 ggap sx sy ms ggbp nx ny ggrg
  · rw [hok] at HC
    clear hok
    go_enter Try.func27, Try.ntmps27
    go_wp2_with fail
    refine HC.out.mono ?_
    rintro e u ⟨rfl, hb⟩
    have HB := Lib.hid (HB.out.below hb)
    clear hb
    go_wp2_with fail
    go_ret2
    exact ⟨rfl, HB.out.2⟩
  · rw [hok] at HC
    have Hok := Lib.hid hok
    clear hok
    go_enter Try.func27, Try.ntmps27
    go_wp2_with fail
    refine HC.out.mono ?_
    rintro e u ⟨rfl, hb⟩
    have HB := Lib.hid (HB.out.below hb)
    clear hb
    go_wp2_with fail
    refine (l08Rep_any ggp ggs ggc ggl ggst ggsk ggre ggfe ggag gga1 gga2 ggan1 ggac1 ggan2 ggac2 ggap ggm ggmn ggmc ggb1 ggb2 ggbn1 ggbc1 ggbn2 ggbc2 ggbp ggrg sx sy ms nx ny w.heap.size u HB.out.1 (H.out.below HB.out.2) Hok.out).mono ?_
    rintro e u2 ⟨rfl, hb⟩
    have HB := Lib.hid (HB.out.below hb)
    clear hb
    go_wp2_with fail
    go_ret2
    exact ⟨rfl, HB.out.2⟩
set_option maxHeartbeats 2000000 in
set_option maxRecDepth 100000 in
theorem implRO_any (ggp ggs ggc ggl : Int) (ggst ggsk ggre ggfe ggag : Bool) (gga1 gga2 : Option Addr) (ggan1 ggac1 ggan2 ggac2 : Nat) (ggap : Int) (ggm : Option Addr) (ggmn ggmc : Nat) (ggb1 ggb2 : Option Addr) (ggbn1 ggbc1 ggbn2 ggbc2 : Nat) (ggbp ggrg : Int) (sx sy ms nx ny : List Int) (w : World) (h : GamR w gga1 gga2 ggan1 ggan2 ggm ggmn ggb1 ggb2 ggbn1 ggbn2 sx sy ms nx ny) :
    Calls Try.prog 28 #[.agg #[.int .i64 ggp, .int .i64 ggs, .bool ggst, .bool ggsk, .bool ggre, .bool ggfe, .bool ggag, .int .i64 ggc, .int .i64 ggl, .slice gga1 ggan1 ggac1, .slice gga2 ggan2 ggac2, .int .i64 ggap, .slice ggm ggmn ggmc, .slice ggb1 ggbn1 ggbc1, .slice ggb2 ggbn2 ggbc2, .int .i64 ggbp, .int .i64 ggrg]] w (BelP (RpO ggp ggs ggc ggl ggst ggsk ggre ggfe ggag ggan1 ggan2 ggap sx sy ms ggbp nx ny ggrg) w) := by
  have HB := Lib.hid (gmb_new ggp ggs ggc ggl ggst ggsk ggre ggfe ggag gga1 gga2 ggan1 ggac1 ggan2 ggac2 ggap ggm ggmn ggmc ggb1 ggb2 ggbn1 ggbc1 ggbn2 ggbc2 ggbp ggrg w 31)
  have HRg := Lib.hid (GmAt.range HB.out.1)
  have HC := Lib.hid (replay_any ggp ggs ggc ggl ggst ggsk ggre ggfe ggag gga1 gga2 ggan1 ggac1 ggan2 ggac2 ggap ggm ggmn ggmc ggb1 ggb2 ggbn1 ggbc1 ggbn2 ggbc2 ggbp ggrg sx sy ms nx ny _ (h.below HB.out.2))
  unfold RpO
  clear h
  cases hok : okG ggp ggs ggc ggl ggst ggsk ggre ggfe ggag ggan1 ggan2 ggap sx sy ms ggbp nx ny ggrg
  · rw [hok] at HC
    clear hok
    go_enter Try.func28, Try.ntmps28
    go_wp2_with (refine wpList_load_mid rfl 31 _ rfl w.heap.size 0 rfl _ _ HRg.out Try.underlying31 rfl (by kernel_rfl) ?_)
    refine HC.out.mono ?_
    intro e u hq
    obtain ⟨cs, hc1, hc2, rfl, hb⟩ := hq.d
    have HCs := Lib.hid (And.intro hc1 hc2)
    have HB := Lib.hid (HB.out.below hb)
    clear hq hb hc1 hc2 HRg
    go_wp2_with (refine wpList_store_mid rfl 61 _ _ rfl u.heap.size 0 cs.toArray rfl rfl (by rw [show cs.toArray.size = 18 from by simpa using HCs.out.1]; exact there18 u 61) (by rw [show cs.toArray.size = 18 from by simpa using HCs.out.1]; kernel_rfl) HCs.out.2 ?_)
    go_ret2
    exact ⟨rfl, OnW.of9 HB.out.2 (below_scg u.heap.size (Nat.le_refl _) cs 0 (al1 u _))⟩
  · rw [hok] at HC
    have Hok := Lib.hid hok
    clear hok
    go_enter Try.func28, Try.ntmps28
    go_wp2_with (refine wpList_load_mid rfl 31 _ rfl w.heap.size 0 rfl _ _ HRg.out Try.underlying31 rfl (by kernel_rfl) ?_)
    refine HC.out.mono ?_
    intro e u hq
    unfold RpP at hq
    rw [if_pos rfl] at hq
    obtain ⟨pb, b1, e1, b2, e2, v1, v2, L, h1, d1, h2, d2, q, R, rs, rfl, hP, hro, hq1, hL1, hL2⟩ := hq
    have HE := Lib.hid (rep_eq Hok.out hro hq1 hL2)
    obtain ⟨va, vc, rfl⟩ := slice_own hP.mo
    obtain ⟨ta, tc, rfl⟩ := slice_own hP.tu
    have hLn : L.length ≤ 120 := by
      have e1 := runO_len hro
      have e2 := congrArg List.length hL1
      rw [List.length_map] at e2
      have e3 := (okG_parts Hok.out).2.1
      omega
    have HLn := Lib.hid hLn
    have HP := Lib.hid hP
    have HB := Lib.hid (HB.out.2.trans (hP.be.mono HB.out.2.size))
    obtain ⟨cs, hcs⟩ : ∃ cs, cs = vals18 ggp ggs ggc ggl ggst ggsk ggre ggfe ggag ggan1 b1 e1 b2 e2 ggap (.slice va ms.length vc) (.slice ta L.length tc) h1 d1 h2 d2 q.pl ggrg := ⟨_, rfl⟩
    have HCs := Lib.hid (show cs.length = 18 ∧ cs.toArray.all (·.oneCell') = true from by rw [hcs]; exact ⟨rfl, vals18_one _ _ _ _ _ _ _ _ _ _ _ _ _ _ _ _ _ _ _ _ _ _ _ _ _ _ _⟩)
    rw [← hcs]
    have Hcs := Lib.hid hcs
    clear hcs
    clear hP hro hq1 hL1 hL2 hLn HRg HC
    go_wp2_with (refine wpList_store_mid rfl 61 _ _ rfl u.heap.size 0 cs.toArray rfl rfl (by rw [show cs.toArray.size = 18 from by simpa using HCs.out.1]; exact there18 u 61) (by rw [show cs.toArray.size = 18 from by simpa using HCs.out.1]; kernel_rfl) HCs.out.2 ?_)
    generalize hX : World.setCells _ _ _ _ = X
    have hM := HP.out.move 61 X (by rw [← Hcs.out]; exact hX.symm)
    have HM := Lib.hid hM.1
    have HBX := Lib.hid (OnW.of9 HB.out hM.2)
    have HRp := Lib.hid (repeats_any _ _ _ _ _ _ _ _ _ X hM.1 HLn.out)
    generalize u.heap.size = M at *
    clear hX hM HP HB HM Hcs HCs
    refine HRp.out.mono ?_
    rintro e u2 ⟨rfl, hb⟩
    have HBX := Lib.hid (OnW.of9 HBX.out hb)
    clear hb
    go_wp2_with fail
    go_ret2
    exact ⟨by rw [HE.out]; rfl, HBX.out⟩
end Go.Proofs.Ytenpnilljjfmkaa
