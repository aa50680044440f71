/- EndI, EndO, one after the other (what the laws reach of them). No conditions. -/
import Derived.Test.YtgbaneildbdgdaaGreatWb7
namespace Go.Proofs.YtgbaneildbdgdaaGreat
open Go.Joins Go.ChangeShapes Go.WideShapes Go.ChangeAt Go.RowKit Go.Deep
set_option linter.unusedVariables false
set_option maxHeartbeats 8000000
set_option maxRecDepth 100000
/- EndI -/
theorem endFrom_any {w : World} {pb : Nat} (p s c l : Int) (st sk re fe ag : Bool) {n1 b1 e1 b2 e2 : Nat} {sp : Int} {sx sy : List Int} {v1 v2 : Value} {ms : List Int} {L : List (T21 × Q21)} {h1 d1 h2 d2 : Nat} {q : Ps} {rg : Int} {R : List (Nat × List Int)} (u : World) (h : PlK w pb p s c l st sk re fe ag n1 b1 e1 b2 e2 sp sx sy v1 v2 ms L h1 d1 h2 d2 q rg R u) (hok : OkQ p s c l st ag n1 q) (hL : L.length = ms.length) (h120 : ms.length ≤ 120) (first : Int) (hf : first = 1 ∨ first = 2) :
  Calls Tryz.prog 60 #[.pointer (some ⟨pb, 0, none⟩), .int .i64 first] u (BelP (.int .i64 (endV (if first = 1 then rg else -1) (majQ q.xs q.ys) (canB p s c l st sk re fe ag q.pl q.xs q.ys) (1 + (cntP q.pl q.xs q.ys (L.map (fun x => x.1.q)) : Int)) ms.length)) u) := by
 obtain ⟨ma, mc, hv1⟩ := slice_own h.mo
 subst hv1
 obtain ⟨pl, xs, ys⟩ := q
 have hq2 := hok.l2
 dsimp only at hq2
 obtain ⟨y0, y1, rfl, -, hs, -⟩ := ok9 hok.ok hq2
 have HMj : Hid (∀ u', Below u.heap.size u u' → Calls Tryz.prog 67 #[.agg #[.slice (some ⟨h1, 0, none⟩) n1 d1, .slice (some ⟨h2, 0, none⟩) 2 d2, .int .i64 pl]] u' fun e w' => e = .returned (.int .i64 (majQ xs [y0, y1])) ∧ Below u'.heap.size u' w') := Lib.hid (fun u' hu => by rw [majQ_two]; exact majority_any _ _ n1 d1 2 d2 pl xs y0 y1 u' (h.below hu).nr hs)
 have HCn : Hid (∀ u', Below u.heap.size u u' → Calls Tryz.prog 102 #[.agg #[.int .i64 p, .int .i64 s, .bool st, .bool sk, .bool re, .bool fe, .bool ag, .int .i64 c, .int .i64 l], .agg #[.slice (some ⟨h1, 0, none⟩) n1 d1, .slice (some ⟨h2, 0, none⟩) 2 d2, .int .i64 pl]] u' fun e w' => e = .returned (.bool (canB p s c l st sk re fe ag pl xs [y0, y1])) ∧ Below u'.heap.size u' w') := Lib.hid (fun u' hu => implCan_any p s c l st sk re fe ag _ _ n1 d1 2 d2 pl xs [y0, y1] u' (h.below hu).nr h.k3 true hok.ok)
 have HRp : Hid (∀ u', Below u.heap.size u u' → Calls Tryz.prog 103 #[.pointer (some ⟨pb, 0, none⟩)] u' (BelP (.int .i64 (1 + (cntP pl xs [y0, y1] (L.map (fun x => x.1.q)) : Int))) u')) := Lib.hid (fun u' hu => repeats_any _ _ _ _ _ _ _ _ _ u' (h.below hu) (by omega))
 have hmj := maj_in (tot xs + tot [y0, y1]) ([y0, y1].getD 0 0) ([y0, y1].getD 1 0)
 rw [show majV (tot xs + tot [y0, y1]) ([y0, y1].getD 0 0) ([y0, y1].getD 1 0) = majQ xs [y0, y1] from rfl] at hmj
 dsimp only
 generalize majQ xs [y0, y1] = mj at *
 generalize canB p s c l st sk re fe ag pl xs [y0, y1] = can at *
 generalize 1 + (cntP pl xs [y0, y1] (L.map (fun x => x.1.q)) : Int) = rep at *
 have HTT : Hid (∀ v : World, PlK w pb p s c l st sk re fe ag n1 b1 e1 b2 e2 sp sx sy (.slice ma ms.length mc) v2 ms L h1 d1 h2 d2 ⟨pl, xs, [y0, y1]⟩ rg R v → (pb < v.heap.size ∧ v.cell? ⟨pb, 0, none⟩ = some (.int .i64 p) ∧ v.cell? ⟨pb, 1, none⟩ = some (.int .i64 s) ∧ v.cell? ⟨pb, 2, none⟩ = some (.bool st) ∧ v.cell? ⟨pb, 3, none⟩ = some (.bool sk) ∧ v.cell? ⟨pb, 4, none⟩ = some (.bool re) ∧ v.cell? ⟨pb, 5, none⟩ = some (.bool fe) ∧ v.cell? ⟨pb, 6, none⟩ = some (.bool ag) ∧ v.cell? ⟨pb, 7, none⟩ = some (.int .i64 c) ∧ v.cell? ⟨pb, 8, none⟩ = some (.int .i64 l) ∧ v.cell? ⟨pb, 13, none⟩ = some (.slice (some ⟨h1, 0, none⟩) n1 d1) ∧ v.cell? ⟨pb, 14, none⟩ = some (.slice (some ⟨h2, 0, none⟩) 2 d2) ∧ v.cell? ⟨pb, 15, none⟩ = some (.int .i64 pl))) := Lib.hid (fun v k => ⟨k.g.lt, k.g.c0, k.g.c1, k.g.c2, k.g.c3, k.g.c4, k.g.c5, k.g.c6, k.g.c7, k.g.c8, k.g.c13, k.g.c14, k.g.c15⟩)
 have HRg := Lib.hid (TGm.rg h.g)
 have H := Lib.hid h
 have HB := Lib.hid (Below.refl u.heap.size u)
 clear hs hok h hL hq2
 rcases hf with rfl | rfl
 ·rw [if_pos rfl]
  by_cases hrm : rg = -1
  ·have Hrm := Lib.hid hrm
   clear hrm
   rcases (show mj ≠ -1 ∨ mj = -1 by omega) with hm1 | hm1
   ·have e : endV rg mj can rep ms.length = 2 := by unfold endV; rw [if_pos Hrm.out, if_neg hm1]
    have d : (mj != -1) = true := by simpa using hm1
    rw [e]
    clear e
    go_enter Tryz.func60, Tryz.ntmps60
    go_wp2_with (refine wpList_load_mid rfl 35 _ rfl pb 0 rfl _ _ HRg.out Tryz.underlying35 rfl (by kernel_rfl) ?_)
    refine (hasR_no _ _ _ _ _ _ _ _ _ _ _ _ _ _ _ _ _ _ _ _ _ _ _ _ _ _ _ _ Hrm.out).mono ?_
    rintro e u4 ⟨rfl, hb⟩
    have H := Lib.hid (H.out.below hb)
    have HB := Lib.hid (HB.out.trans (hb.mono HB.out.size))
    clear hb
    clear HRg
    obtain ⟨-, t13, t14, t15⟩ := H.out.now
    go_wp2_with fail
    refine (HMj.out _ HB.out).mono ?_
    rintro e u5 ⟨rfl, hb⟩
    have H := Lib.hid (H.out.below hb)
    have HB := Lib.hid (HB.out.trans (hb.mono HB.out.size))
    clear hb
    clear t13 t14 t15
    go_wp2_with fail
    go_ret
    exact ⟨by first | rfl | exact congrArg _ Hen.out.symm, by first | exact HB.out | exact below_dn HB.out _ | exact HB.out.drew⟩
   ·subst hm1
    rcases can with _ | _
    ·have e : endV rg (-1) false rep ms.length = 3 := by rw [show rg = -1 from Hrm.out]; rfl
     rw [e]
     clear e
     go_enter Tryz.func60, Tryz.ntmps60
     go_wp2_with (refine wpList_load_mid rfl 35 _ rfl pb 0 rfl _ _ HRg.out Tryz.underlying35 rfl (by kernel_rfl) ?_)
     refine (hasR_no _ _ _ _ _ _ _ _ _ _ _ _ _ _ _ _ _ _ _ _ _ _ _ _ _ _ _ _ Hrm.out).mono ?_
     rintro e u4 ⟨rfl, hb⟩
     have H := Lib.hid (H.out.below hb)
     have HB := Lib.hid (HB.out.trans (hb.mono HB.out.size))
     clear hb
     clear HRg
     obtain ⟨-, t13, t14, t15⟩ := H.out.now
     go_wp2_with fail
     refine (HMj.out _ HB.out).mono ?_
     rintro e u5 ⟨rfl, hb⟩
     have H := Lib.hid (H.out.below hb)
     have HB := Lib.hid (HB.out.trans (hb.mono HB.out.size))
     clear hb
     clear t13 t14 t15
     go_wp2_with fail
     go_region_held3 (fun v => (pb < v.heap.size ∧ v.cell? ⟨pb, 0, none⟩ = some (.int .i64 p) ∧ v.cell? ⟨pb, 1, none⟩ = some (.int .i64 s) ∧ v.cell? ⟨pb, 2, none⟩ = some (.bool st) ∧ v.cell? ⟨pb, 3, none⟩ = some (.bool sk) ∧ v.cell? ⟨pb, 4, none⟩ = some (.bool re) ∧ v.cell? ⟨pb, 5, none⟩ = some (.bool fe) ∧ v.cell? ⟨pb, 6, none⟩ = some (.bool ag) ∧ v.cell? ⟨pb, 7, none⟩ = some (.int .i64 c) ∧ v.cell? ⟨pb, 8, none⟩ = some (.int .i64 l) ∧ v.cell? ⟨pb, 13, none⟩ = some (.slice (some ⟨h1, 0, none⟩) n1 d1) ∧ v.cell? ⟨pb, 14, none⟩ = some (.slice (some ⟨h2, 0, none⟩) 2 d2) ∧ v.cell? ⟨pb, 15, none⟩ = some (.int .i64 pl))) (first | with_reducible exact HTT.out _ H.out | with_reducible exact HTT.out _ H.out.drew)
      ((go_at_call 102; (with_reducible refine (HCn.out _ ?_).mono ?_); (first | with_reducible exact HB.out | with_reducible exact HB.out.drew); rintro e u6 ⟨rfl, hb⟩; (first | with_reducible have H := Lib.hid (H.out.below hb) | with_reducible have H := Lib.hid (H.out.drew.below hb)); (first | with_reducible have HB := Lib.hid (Below.trans HB.out (hb.mono HB.out.size)) | with_reducible have HB := Lib.hid (Below.trans HB.out.drew (hb.mono HB.out.drew.size))); clear hb))
     go_wp2_with fail
     go_ret
     exact ⟨by first | rfl | exact congrArg _ Hen.out.symm, by first | exact HB.out | exact below_dn HB.out _ | exact HB.out.drew⟩
    ·by_cases h3 : 3 ≤ rep
     ·have e : endV rg (-1) true rep ms.length = 4 := by unfold endV; rw [if_pos Hrm.out, if_pos rfl, if_pos rfl, if_neg (by omega)]
      rw [e]
      clear e
      go_enter Tryz.func60, Tryz.ntmps60
      go_wp2_with (refine wpList_load_mid rfl 35 _ rfl pb 0 rfl _ _ HRg.out Tryz.underlying35 rfl (by kernel_rfl) ?_)
      refine (hasR_no _ _ _ _ _ _ _ _ _ _ _ _ _ _ _ _ _ _ _ _ _ _ _ _ _ _ _ _ Hrm.out).mono ?_
      rintro e u4 ⟨rfl, hb⟩
      have H := Lib.hid (H.out.below hb)
      have HB := Lib.hid (HB.out.trans (hb.mono HB.out.size))
      clear hb
      clear HRg
      obtain ⟨-, t13, t14, t15⟩ := H.out.now
      go_wp2_with fail
      refine (HMj.out _ HB.out).mono ?_
      rintro e u5 ⟨rfl, hb⟩
      have H := Lib.hid (H.out.below hb)
      have HB := Lib.hid (HB.out.trans (hb.mono HB.out.size))
      clear hb
      clear t13 t14 t15
      go_wp2_with fail
      go_region_held3 (fun v => (pb < v.heap.size ∧ v.cell? ⟨pb, 0, none⟩ = some (.int .i64 p) ∧ v.cell? ⟨pb, 1, none⟩ = some (.int .i64 s) ∧ v.cell? ⟨pb, 2, none⟩ = some (.bool st) ∧ v.cell? ⟨pb, 3, none⟩ = some (.bool sk) ∧ v.cell? ⟨pb, 4, none⟩ = some (.bool re) ∧ v.cell? ⟨pb, 5, none⟩ = some (.bool fe) ∧ v.cell? ⟨pb, 6, none⟩ = some (.bool ag) ∧ v.cell? ⟨pb, 7, none⟩ = some (.int .i64 c) ∧ v.cell? ⟨pb, 8, none⟩ = some (.int .i64 l) ∧ v.cell? ⟨pb, 13, none⟩ = some (.slice (some ⟨h1, 0, none⟩) n1 d1) ∧ v.cell? ⟨pb, 14, none⟩ = some (.slice (some ⟨h2, 0, none⟩) 2 d2) ∧ v.cell? ⟨pb, 15, none⟩ = some (.int .i64 pl))) (first | with_reducible exact HTT.out _ H.out | with_reducible exact HTT.out _ H.out.drew)
       ((go_at_call 102; (with_reducible refine (HCn.out _ ?_).mono ?_); (first | with_reducible exact HB.out | with_reducible exact HB.out.drew); rintro e u6 ⟨rfl, hb⟩; (first | with_reducible have H := Lib.hid (H.out.below hb) | with_reducible have H := Lib.hid (H.out.drew.below hb)); (first | with_reducible have HB := Lib.hid (Below.trans HB.out (hb.mono HB.out.size)) | with_reducible have HB := Lib.hid (Below.trans HB.out.drew (hb.mono HB.out.drew.size))); clear hb))
      go_wp2_with fail
      refine (HRp.out _ (by first | exact HB.out | exact HB.out.drew)).mono ?_
      rintro e u8 ⟨rfl, hb⟩
      (first | have H := Lib.hid (H.out.below hb) | have H := Lib.hid (H.out.drew.below hb))
      (first | have HB := Lib.hid (Below.trans HB.out (hb.mono HB.out.size)) | have HB := Lib.hid (Below.trans HB.out.drew (hb.mono HB.out.drew.size)))
      clear hb
      go_wp2_with fail
      go_ret
      exact ⟨by first | rfl | exact congrArg _ Hen.out.symm, by first | exact HB.out | exact below_dn HB.out _ | exact HB.out.drew⟩
     ·obtain ⟨en, hen⟩ : ∃ en, endV rg (-1) true rep ms.length = en := ⟨_, rfl⟩
      rw [hen]
      have Hen := Lib.hid hen
      clear hen
      go_enter Tryz.func60, Tryz.ntmps60
      go_wp2_with (refine wpList_load_mid rfl 35 _ rfl pb 0 rfl _ _ HRg.out Tryz.underlying35 rfl (by kernel_rfl) ?_)
      refine (hasR_no _ _ _ _ _ _ _ _ _ _ _ _ _ _ _ _ _ _ _ _ _ _ _ _ _ _ _ _ Hrm.out).mono ?_
      rintro e u4 ⟨rfl, hb⟩
      have H := Lib.hid (H.out.below hb)
      have HB := Lib.hid (HB.out.trans (hb.mono HB.out.size))
      clear hb
      clear HRg
      obtain ⟨-, t13, t14, t15⟩ := H.out.now
      go_wp2_with fail
      refine (HMj.out _ HB.out).mono ?_
      rintro e u5 ⟨rfl, hb⟩
      have H := Lib.hid (H.out.below hb)
      have HB := Lib.hid (HB.out.trans (hb.mono HB.out.size))
      clear hb
      clear t13 t14 t15
      go_wp2_with fail
      go_region_held3 (fun v => (pb < v.heap.size ∧ v.cell? ⟨pb, 0, none⟩ = some (.int .i64 p) ∧ v.cell? ⟨pb, 1, none⟩ = some (.int .i64 s) ∧ v.cell? ⟨pb, 2, none⟩ = some (.bool st) ∧ v.cell? ⟨pb, 3, none⟩ = some (.bool sk) ∧ v.cell? ⟨pb, 4, none⟩ = some (.bool re) ∧ v.cell? ⟨pb, 5, none⟩ = some (.bool fe) ∧ v.cell? ⟨pb, 6, none⟩ = some (.bool ag) ∧ v.cell? ⟨pb, 7, none⟩ = some (.int .i64 c) ∧ v.cell? ⟨pb, 8, none⟩ = some (.int .i64 l) ∧ v.cell? ⟨pb, 13, none⟩ = some (.slice (some ⟨h1, 0, none⟩) n1 d1) ∧ v.cell? ⟨pb, 14, none⟩ = some (.slice (some ⟨h2, 0, none⟩) 2 d2) ∧ v.cell? ⟨pb, 15, none⟩ = some (.int .i64 pl))) (first | with_reducible exact HTT.out _ H.out | with_reducible exact HTT.out _ H.out.drew)
       ((go_at_call 102; (with_reducible refine (HCn.out _ ?_).mono ?_); (first | with_reducible exact HB.out | with_reducible exact HB.out.drew); rintro e u6 ⟨rfl, hb⟩; (first | with_reducible have H := Lib.hid (H.out.below hb) | with_reducible have H := Lib.hid (H.out.drew.below hb)); (first | with_reducible have HB := Lib.hid (Below.trans HB.out (hb.mono HB.out.size)) | with_reducible have HB := Lib.hid (Below.trans HB.out.drew (hb.mono HB.out.drew.size))); clear hb))
      go_wp2_with fail
      refine (HRp.out _ (by first | exact HB.out | exact HB.out.drew)).mono ?_
      rintro e u8 ⟨rfl, hb⟩
      (first | have H := Lib.hid (H.out.below hb) | have H := Lib.hid (H.out.drew.below hb))
      (first | have HB := Lib.hid (Below.trans HB.out (hb.mono HB.out.size)) | have HB := Lib.hid (Below.trans HB.out.drew (hb.mono HB.out.drew.size)))
      clear hb
      have t12 := H.out.g.c12
      have hpb := H.out.g.lt
      by_cases h5 : ms.length = 120
      ·have d5 : ((ms.length : Int) == 120) = true := by simp; omega
       obtain rfl : en = 5 := by rw [← Hen.out]; unfold endV; rw [if_pos Hrm.out, if_pos rfl, if_pos rfl, if_pos (by omega), if_neg (by omega)]
       go_wp2_with fail
       go_ret
       exact ⟨by first | rfl | exact congrArg _ Hen.out.symm, by first | exact HB.out | exact below_dn HB.out _ | exact HB.out.drew⟩
      ·have d5 : ((ms.length : Int) == 120) = false := by simp; omega
       obtain rfl : en = 0 := by rw [← Hen.out]; unfold endV; rw [if_pos Hrm.out, if_pos rfl, if_pos rfl, if_pos (by omega), if_pos (by omega)]
       go_wp2_with fail
       go_ret
       exact ⟨by first | rfl | exact congrArg _ Hen.out.symm, by first | exact HB.out | exact below_dn HB.out _ | exact HB.out.drew⟩
  ·have e : endV rg mj can rep ms.length = 1 := by unfold endV; rw [if_neg hrm]
   rw [e]
   have Hrm := Lib.hid hrm
   clear e hrm
   go_enter Tryz.func60, Tryz.ntmps60
   go_wp2_with (refine wpList_load_mid rfl 35 _ rfl pb 0 rfl _ _ HRg.out Tryz.underlying35 rfl (by kernel_rfl) ?_)
   refine (hasR_yes _ _ _ _ _ _ _ _ _ _ _ _ _ _ _ _ _ _ _ _ _ _ _ _ _ _ _ _ Hrm.out).mono ?_
   rintro e u4 ⟨rfl, hb⟩
   have H := Lib.hid (H.out.below hb)
   have HB := Lib.hid (HB.out.trans (hb.mono HB.out.size))
   clear hb
   go_wp2_with fail
   go_ret
   exact ⟨by first | rfl | exact congrArg _ Hen.out.symm, by first | exact HB.out | exact below_dn HB.out _ | exact HB.out.drew⟩
 ·rw [if_neg (by decide)]
  clear HRg
  rcases (show mj ≠ -1 ∨ mj = -1 by omega) with hm1 | hm1
  ·have e : endV (-1) mj can rep ms.length = 2 := by unfold endV; rw [if_pos rfl, if_neg hm1]
   have d : (mj != -1) = true := by simpa using hm1
   rw [e]
   clear e
   go_enter Tryz.func60, Tryz.ntmps60
   obtain ⟨-, t13, t14, t15⟩ := H.out.now
   go_wp2_with fail
   refine (HMj.out _ HB.out).mono ?_
   rintro e u5 ⟨rfl, hb⟩
   have H := Lib.hid (H.out.below hb)
   have HB := Lib.hid (HB.out.trans (hb.mono HB.out.size))
   clear hb
   clear t13 t14 t15
   go_wp2_with fail
   go_ret
   exact ⟨by first | rfl | exact congrArg _ Hen.out.symm, by first | exact HB.out | exact below_dn HB.out _ | exact HB.out.drew⟩
  ·subst hm1
   rcases can with _ | _
   ·have e : endV (-1) (-1) false rep ms.length = 3 := by rw [show (-1) = -1 from rfl]; rfl
    rw [e]
    clear e
    go_enter Tryz.func60, Tryz.ntmps60
    obtain ⟨-, t13, t14, t15⟩ := H.out.now
    go_wp2_with fail
    refine (HMj.out _ HB.out).mono ?_
    rintro e u5 ⟨rfl, hb⟩
    have H := Lib.hid (H.out.below hb)
    have HB := Lib.hid (HB.out.trans (hb.mono HB.out.size))
    clear hb
    clear t13 t14 t15
    go_wp2_with fail
    go_region_held3 (fun v => (pb < v.heap.size ∧ v.cell? ⟨pb, 0, none⟩ = some (.int .i64 p) ∧ v.cell? ⟨pb, 1, none⟩ = some (.int .i64 s) ∧ v.cell? ⟨pb, 2, none⟩ = some (.bool st) ∧ v.cell? ⟨pb, 3, none⟩ = some (.bool sk) ∧ v.cell? ⟨pb, 4, none⟩ = some (.bool re) ∧ v.cell? ⟨pb, 5, none⟩ = some (.bool fe) ∧ v.cell? ⟨pb, 6, none⟩ = some (.bool ag) ∧ v.cell? ⟨pb, 7, none⟩ = some (.int .i64 c) ∧ v.cell? ⟨pb, 8, none⟩ = some (.int .i64 l) ∧ v.cell? ⟨pb, 13, none⟩ = some (.slice (some ⟨h1, 0, none⟩) n1 d1) ∧ v.cell? ⟨pb, 14, none⟩ = some (.slice (some ⟨h2, 0, none⟩) 2 d2) ∧ v.cell? ⟨pb, 15, none⟩ = some (.int .i64 pl))) (first | with_reducible exact HTT.out _ H.out | with_reducible exact HTT.out _ H.out.drew)
     ((go_at_call 102; (with_reducible refine (HCn.out _ ?_).mono ?_); (first | with_reducible exact HB.out | with_reducible exact HB.out.drew); rintro e u6 ⟨rfl, hb⟩; (first | with_reducible have H := Lib.hid (H.out.below hb) | with_reducible have H := Lib.hid (H.out.drew.below hb)); (first | with_reducible have HB := Lib.hid (Below.trans HB.out (hb.mono HB.out.size)) | with_reducible have HB := Lib.hid (Below.trans HB.out.drew (hb.mono HB.out.drew.size))); clear hb))
    go_wp2_with fail
    go_ret
    exact ⟨by first | rfl | exact congrArg _ Hen.out.symm, by first | exact HB.out | exact below_dn HB.out _ | exact HB.out.drew⟩
   ·by_cases h3 : 3 ≤ rep
    ·have e : endV (-1) (-1) true rep ms.length = 4 := by unfold endV; rw [if_pos rfl, if_pos rfl, if_pos rfl, if_neg (by omega)]
     rw [e]
     clear e
     go_enter Tryz.func60, Tryz.ntmps60
     obtain ⟨-, t13, t14, t15⟩ := H.out.now
     go_wp2_with fail
     refine (HMj.out _ HB.out).mono ?_
     rintro e u5 ⟨rfl, hb⟩
     have H := Lib.hid (H.out.below hb)
     have HB := Lib.hid (HB.out.trans (hb.mono HB.out.size))
     clear hb
     clear t13 t14 t15
     go_wp2_with fail
     go_region_held3 (fun v => (pb < v.heap.size ∧ v.cell? ⟨pb, 0, none⟩ = some (.int .i64 p) ∧ v.cell? ⟨pb, 1, none⟩ = some (.int .i64 s) ∧ v.cell? ⟨pb, 2, none⟩ = some (.bool st) ∧ v.cell? ⟨pb, 3, none⟩ = some (.bool sk) ∧ v.cell? ⟨pb, 4, none⟩ = some (.bool re) ∧ v.cell? ⟨pb, 5, none⟩ = some (.bool fe) ∧ v.cell? ⟨pb, 6, none⟩ = some (.bool ag) ∧ v.cell? ⟨pb, 7, none⟩ = some (.int .i64 c) ∧ v.cell? ⟨pb, 8, none⟩ = some (.int .i64 l) ∧ v.cell? ⟨pb, 13, none⟩ = some (.slice (some ⟨h1, 0, none⟩) n1 d1) ∧ v.cell? ⟨pb, 14, none⟩ = some (.slice (some ⟨h2, 0, none⟩) 2 d2) ∧ v.cell? ⟨pb, 15, none⟩ = some (.int .i64 pl))) (first | with_reducible exact HTT.out _ H.out | with_reducible exact HTT.out _ H.out.drew)
      ((go_at_call 102; (with_reducible refine (HCn.out _ ?_).mono ?_); (first | with_reducible exact HB.out | with_reducible exact HB.out.drew); rintro e u6 ⟨rfl, hb⟩; (first | with_reducible have H := Lib.hid (H.out.below hb) | with_reducible have H := Lib.hid (H.out.drew.below hb)); (first | with_reducible have HB := Lib.hid (Below.trans HB.out (hb.mono HB.out.size)) | with_reducible have HB := Lib.hid (Below.trans HB.out.drew (hb.mono HB.out.drew.size))); clear hb))
     go_wp2_with fail
     refine (HRp.out _ (by first | exact HB.out | exact HB.out.drew)).mono ?_
     rintro e u8 ⟨rfl, hb⟩
     (first | have H := Lib.hid (H.out.below hb) | have H := Lib.hid (H.out.drew.below hb))
     (first | have HB := Lib.hid (Below.trans HB.out (hb.mono HB.out.size)) | have HB := Lib.hid (Below.trans HB.out.drew (hb.mono HB.out.drew.size)))
     clear hb
     go_wp2_with fail
     go_ret
     exact ⟨by first | rfl | exact congrArg _ Hen.out.symm, by first | exact HB.out | exact below_dn HB.out _ | exact HB.out.drew⟩
    ·obtain ⟨en, hen⟩ : ∃ en, endV (-1) (-1) true rep ms.length = en := ⟨_, rfl⟩
     rw [hen]
     have Hen := Lib.hid hen
     clear hen
     go_enter Tryz.func60, Tryz.ntmps60
     obtain ⟨-, t13, t14, t15⟩ := H.out.now
     go_wp2_with fail
     refine (HMj.out _ HB.out).mono ?_
     rintro e u5 ⟨rfl, hb⟩
     have H := Lib.hid (H.out.below hb)
     have HB := Lib.hid (HB.out.trans (hb.mono HB.out.size))
     clear hb
     clear t13 t14 t15
     go_wp2_with fail
     go_region_held3 (fun v => (pb < v.heap.size ∧ v.cell? ⟨pb, 0, none⟩ = some (.int .i64 p) ∧ v.cell? ⟨pb, 1, none⟩ = some (.int .i64 s) ∧ v.cell? ⟨pb, 2, none⟩ = some (.bool st) ∧ v.cell? ⟨pb, 3, none⟩ = some (.bool sk) ∧ v.cell? ⟨pb, 4, none⟩ = some (.bool re) ∧ v.cell? ⟨pb, 5, none⟩ = some (.bool fe) ∧ v.cell? ⟨pb, 6, none⟩ = some (.bool ag) ∧ v.cell? ⟨pb, 7, none⟩ = some (.int .i64 c) ∧ v.cell? ⟨pb, 8, none⟩ = some (.int .i64 l) ∧ v.cell? ⟨pb, 13, none⟩ = some (.slice (some ⟨h1, 0, none⟩) n1 d1) ∧ v.cell? ⟨pb, 14, none⟩ = some (.slice (some ⟨h2, 0, none⟩) 2 d2) ∧ v.cell? ⟨pb, 15, none⟩ = some (.int .i64 pl))) (first | with_reducible exact HTT.out _ H.out | with_reducible exact HTT.out _ H.out.drew)
      ((go_at_call 102; (with_reducible refine (HCn.out _ ?_).mono ?_); (first | with_reducible exact HB.out | with_reducible exact HB.out.drew); rintro e u6 ⟨rfl, hb⟩; (first | with_reducible have H := Lib.hid (H.out.below hb) | with_reducible have H := Lib.hid (H.out.drew.below hb)); (first | with_reducible have HB := Lib.hid (Below.trans HB.out (hb.mono HB.out.size)) | with_reducible have HB := Lib.hid (Below.trans HB.out.drew (hb.mono HB.out.drew.size))); clear hb))
     go_wp2_with fail
     refine (HRp.out _ (by first | exact HB.out | exact HB.out.drew)).mono ?_
     rintro e u8 ⟨rfl, hb⟩
     (first | have H := Lib.hid (H.out.below hb) | have H := Lib.hid (H.out.drew.below hb))
     (first | have HB := Lib.hid (Below.trans HB.out (hb.mono HB.out.size)) | have HB := Lib.hid (Below.trans HB.out.drew (hb.mono HB.out.drew.size)))
     clear hb
     have t12 := H.out.g.c12
     have hpb := H.out.g.lt
     by_cases h5 : ms.length = 120
     ·have d5 : ((ms.length : Int) == 120) = true := by simp; omega
      obtain rfl : en = 5 := by rw [← Hen.out]; unfold endV; rw [if_pos rfl, if_pos rfl, if_pos rfl, if_pos (by omega), if_neg (by omega)]
      go_wp2_with fail
      go_ret
      exact ⟨by first | rfl | exact congrArg _ Hen.out.symm, by first | exact HB.out | exact below_dn HB.out _ | exact HB.out.drew⟩
     ·have d5 : ((ms.length : Int) == 120) = false := by simp; omega
      obtain rfl : en = 0 := by rw [← Hen.out]; unfold endV; rw [if_pos rfl, if_pos rfl, if_pos rfl, if_pos (by omega), if_pos (by omega)]
      go_wp2_with fail
      go_ret
      exact ⟨by first | rfl | exact congrArg _ Hen.out.symm, by first | exact HB.out | exact below_dn HB.out _ | exact HB.out.drew⟩
/- EndO -/
def EoO (p s c l : Int) (st sk re fe ag : Bool) (n1 n2 : Nat) (pp : Int) (xs ys ms : List Int) (bp : Int) (nx ny : List Int) (rg : Int) : Value :=
 .tuple #[.int .i64 (if okG p s c l st sk re fe ag n1 n2 pp xs ys ms bp nx ny rg = true then endG p s c l st sk re fe ag pp xs ys ms bp nx ny rg else 0), .int .i64 (if okG p s c l st sk re fe ag n1 n2 pp xs ys ms bp nx ny rg = true then 0 else 1)]
theorem end_eq {p s c l : Int} {st sk re fe ag : Bool} {n1 n2 : Nat} {pp : Int} {xs ys ms : List Int} {bp : Int} {nx ny : List Int} {rg : Int} {rs : List R7} {q : Ps} {qs : List Ps} (h : okG p s c l st sk re fe ag n1 n2 pp xs ys ms bp nx ny rg = true) (l1 : xs.length = n1) (l2 : ys.length = n2) (hro : runO (stp p c l st sk re fe ag) ⟨pp, xs, ys⟩ ms = some rs) (hq : q = lastP ⟨pp, xs, ys⟩ rs) (hL : qs ++ [q] = (⟨pp, xs, ys⟩ : Ps) :: rs.map R7.ps) :
  OkQ p s c l st ag n1 q ∧ endG p s c l st sk re fe ag pp xs ys ms bp nx ny rg = endV rg (majQ q.xs q.ys) (canB p s c l st sk re fe ag q.pl q.xs q.ys) (1 + (cntP q.pl q.xs q.ys qs : Int)) ms.length := by
 obtain ⟨hk, -, -, rs', e1, e2, e3, e4⟩ := okG_parts h
 obtain ⟨-, -, e5, -, -⟩ := okP_parts hk
 subst e5
 have hQ := run_ok (show OkQ p s c l st ag n1 ⟨pp, xs, ys⟩ from ⟨hk, l1, l2⟩) hro
 have hr := rep_eq h hro hq hL
 rw [hro] at e1
 cases e1
 rw [← hq] at hQ e2 e3 e4
 unfold endG
 rw [hr, ← e2, ← e3, ← e4]
 exact ⟨hQ, rfl⟩
theorem specEO_any (Jp Js Jc Jl : Int) (Jst Jsk Jre Jfe Jag : Bool) (Ja1 Ja2 : Option Addr) (Jan1 Jac1 Jan2 Jac2 : Nat) (Jap : Int) (Jm : Option Addr) (Jmn Jmc : Nat) (Jb1 Jb2 : Option Addr) (Jbn1 Jbc1 Jbn2 Jbc2 : Nat) (Jbp Jrg : Int) (sx sy ms nx ny : List Int) (w : World) (h : GamR w Ja1 Ja2 Jan1 Jan2 Jm Jmn Jb1 Jb2 Jbn1 Jbn2 sx sy ms nx ny) :
  Calls Tryz.prog 13 #[.agg #[.int .i64 Jp, .int .i64 Js, .bool Jst, .bool Jsk, .bool Jre, .bool Jfe, .bool Jag, .int .i64 Jc, .int .i64 Jl, .slice Ja1 Jan1 Jac1, .slice Ja2 Jan2 Jac2, .int .i64 Jap, .slice Jm Jmn Jmc, .slice Jb1 Jbn1 Jbc1, .slice Jb2 Jbn2 Jbc2, .int .i64 Jbp, .int .i64 Jrg]] w (BelP (EoO Jp Js Jc Jl Jst Jsk Jre Jfe Jag Jan1 Jan2 Jap sx sy ms Jbp nx ny Jrg) w) := by
 have HB := Lib.hid (gmb_new Jp Js Jc Jl Jst Jsk Jre Jfe Jag Ja1 Ja2 Jan1 Jac1 Jan2 Jac2 Jap Jm Jmn Jmc Jb1 Jb2 Jbn1 Jbc1 Jbn2 Jbc2 Jbp Jrg w 35)
 have HC := Lib.hid (l08Ok_any Jp Js Jc Jl Jst Jsk Jre Jfe Jag Ja1 Ja2 Jan1 Jac1 Jan2 Jac2 Jap Jm Jmn Jmc Jb1 Jb2 Jbn1 Jbc1 Jbn2 Jbc2 Jbp Jrg sx sy ms nx ny w.heap.size _ HB.out.1 (h.below HB.out.2))
 have H := Lib.hid h
 unfold EoO
 clear h
 cases hok : okG Jp Js Jc Jl Jst Jsk Jre Jfe Jag Jan1 Jan2 Jap sx sy ms Jbp nx ny Jrg
 ·rw [hok] at HC
  clear hok
  go_enter Tryz.func13, Tryz.ntmps13
  go_wp2_with fail
  refine HC.out.mono ?_
  rintro e u ⟨rfl, hb⟩
  have HB := Lib.hid (HB.out.below hb)
  clear hb
  go_wp2_with fail
  go_ret2
  exact ⟨rfl, HB.out.2⟩
 ·rw [hok] at HC
  have Hok := Lib.hid hok
  clear hok
  go_enter Tryz.func13, Tryz.ntmps13
  go_wp2_with fail
  refine HC.out.mono ?_
  rintro e u ⟨rfl, hb⟩
  have HB := Lib.hid (HB.out.below hb)
  clear hb
  go_wp2_with fail
  refine (l09End_any Jp Js Jc Jl Jst Jsk Jre Jfe Jag Ja1 Ja2 Jan1 Jac1 Jan2 Jac2 Jap Jm Jmn Jmc Jb1 Jb2 Jbn1 Jbc1 Jbn2 Jbc2 Jbp Jrg sx sy ms nx ny w.heap.size u HB.out.1 (H.out.below HB.out.2) Hok.out).mono ?_
  rintro e u2 ⟨rfl, hb⟩
  have HB := Lib.hid (HB.out.below hb)
  clear hb
  go_wp2_with fail
  go_ret2
  exact ⟨rfl, HB.out.2⟩
theorem implEO_any (Jp Js Jc Jl : Int) (Jst Jsk Jre Jfe Jag : Bool) (Ja1 Ja2 : Option Addr) (Jan1 Jac1 Jan2 Jac2 : Nat) (Jap : Int) (Jm : Option Addr) (Jmn Jmc : Nat) (Jb1 Jb2 : Option Addr) (Jbn1 Jbc1 Jbn2 Jbc2 : Nat) (Jbp Jrg : Int) (sx sy ms nx ny : List Int) (w : World) (h : GamR w Ja1 Ja2 Jan1 Jan2 Jm Jmn Jb1 Jb2 Jbn1 Jbn2 sx sy ms nx ny) :
  Calls Tryz.prog 15 #[.agg #[.int .i64 Jp, .int .i64 Js, .bool Jst, .bool Jsk, .bool Jre, .bool Jfe, .bool Jag, .int .i64 Jc, .int .i64 Jl, .slice Ja1 Jan1 Jac1, .slice Ja2 Jan2 Jac2, .int .i64 Jap, .slice Jm Jmn Jmc, .slice Jb1 Jbn1 Jbc1, .slice Jb2 Jbn2 Jbc2, .int .i64 Jbp, .int .i64 Jrg]] w (BelP (EoO Jp Js Jc Jl Jst Jsk Jre Jfe Jag Jan1 Jan2 Jap sx sy ms Jbp nx ny Jrg) w) := by
 have HB := Lib.hid (gmb_new Jp Js Jc Jl Jst Jsk Jre Jfe Jag Ja1 Ja2 Jan1 Jac1 Jan2 Jac2 Jap Jm Jmn Jmc Jb1 Jb2 Jbn1 Jbc1 Jbn2 Jbc2 Jbp Jrg w 35)
 have HRg := Lib.hid (GmAt.range HB.out.1)
 have HC := Lib.hid (replay_any Jp Js Jc Jl Jst Jsk Jre Jfe Jag Ja1 Ja2 Jan1 Jac1 Jan2 Jac2 Jap Jm Jmn Jmc Jb1 Jb2 Jbn1 Jbc1 Jbn2 Jbc2 Jbp Jrg sx sy ms nx ny _ (h.below HB.out.2))
 have Hl := Lib.hid (And.intro h.s.l1 h.s.l2)
 unfold EoO
 clear h
 cases hok : okG Jp Js Jc Jl Jst Jsk Jre Jfe Jag Jan1 Jan2 Jap sx sy ms Jbp nx ny Jrg
 ·rw [hok] at HC
  clear hok
  go_enter Tryz.func15, Tryz.ntmps15
  go_wp2_with (refine wpList_load_mid rfl 35 _ rfl w.heap.size 0 rfl _ _ HRg.out Tryz.underlying35 rfl (by kernel_rfl) ?_)
  refine HC.out.mono ?_
  intro e u hq
  obtain ⟨cs, hc1, hc2, rfl, hb⟩ := hq.d
  have HCs := Lib.hid (And.intro hc1 hc2)
  have HB := Lib.hid (HB.out.below hb)
  clear hq hb hc1 hc2 HRg
  go_wp2_with (refine wpList_store_mid rfl 72 _ _ rfl u.heap.size 0 cs.toArray rfl rfl (by rw [show cs.toArray.size = 18 from by simpa using HCs.out.1]; exact there18 u 72) (by rw [show cs.toArray.size = 18 from by simpa using HCs.out.1]; kernel_rfl) HCs.out.2 ?_)
  go_ret2
  exact ⟨rfl, OnW.of9 HB.out.2 (below_scg u.heap.size (Nat.le_refl _) cs 0 (al1 u _))⟩
 ·rw [hok] at HC
  have Hok := Lib.hid hok
  clear hok
  go_enter Tryz.func15, Tryz.ntmps15
  go_wp2_with (refine wpList_load_mid rfl 35 _ rfl w.heap.size 0 rfl _ _ HRg.out Tryz.underlying35 rfl (by kernel_rfl) ?_)
  refine HC.out.mono ?_
  intro e u hq
  unfold RpP at hq
  rw [if_pos rfl] at hq
  obtain ⟨pb, b1, e1, b2, e2, v1, v2, L, h1, d1, h2, d2, q, R, rs, rfl, hP, hro, hq1, hL1, hL2⟩ := hq
  have hee := end_eq Hok.out Hl.out.1 Hl.out.2 hro hq1 hL2
  have HE := Lib.hid hee.2
  have HQ := Lib.hid hee.1
  obtain ⟨va, vc, rfl⟩ := slice_own hP.mo
  obtain ⟨ta, tc, rfl⟩ := slice_own hP.tu
  have hLe : L.length = ms.length := by
   have e1 := runO_len hro
   have e2 := congrArg List.length hL1
   rw [List.length_map] at e2
   omega
  have HLn := Lib.hid (And.intro hLe (okG_parts Hok.out).2.1)
  have HP := Lib.hid hP
  have HB := Lib.hid (HB.out.2.trans (hP.be.mono HB.out.2.size))
  obtain ⟨cs, hcs⟩ : ∃ cs, cs = vals18 Jp Js Jc Jl Jst Jsk Jre Jfe Jag Jan1 b1 e1 b2 e2 Jap (.slice va ms.length vc) (.slice ta L.length tc) h1 d1 h2 d2 q.pl Jrg := ⟨_, rfl⟩
  have HCs := Lib.hid (show cs.length = 18 ∧ cs.toArray.all (·.oneCell') = true from by rw [hcs]; exact ⟨rfl, vals18_one _ _ _ _ _ _ _ _ _ _ _ _ _ _ _ _ _ _ _ _ _ _ _ _ _ _ _⟩)
  rw [← hcs]
  have Hcs := Lib.hid hcs
  clear hcs
  clear hP hro hq1 hL1 hL2 hLe HRg HC hee
  go_wp2_with (refine wpList_store_mid rfl 72 _ _ rfl u.heap.size 0 cs.toArray rfl rfl (by rw [show cs.toArray.size = 18 from by simpa using HCs.out.1]; exact there18 u 72) (by rw [show cs.toArray.size = 18 from by simpa using HCs.out.1]; kernel_rfl) HCs.out.2 ?_)
  generalize hX : World.setCells _ _ _ _ = X
  have hM := HP.out.move 72 X (by rw [← Hcs.out]; exact hX.symm)
  have HM := Lib.hid hM.1
  have HBX := Lib.hid (OnW.of9 HB.out hM.2)
  have HRp := Lib.hid (endFrom_any _ _ _ _ _ _ _ _ _ X hM.1 HQ.out HLn.out.1 HLn.out.2 1 (.inl rfl))
  generalize u.heap.size = M at *
  clear hX hM HP HB HM Hcs HCs
  refine HRp.out.mono ?_
  rintro e u2 ⟨rfl, hb⟩
  have HBX := Lib.hid (OnW.of9 HBX.out hb)
  clear hb
  go_wp2_with fail
  go_ret2
  exact ⟨by rw [HE.out]; rfl, HBX.out⟩
end Go.Proofs.YtgbaneildbdgdaaGreat
