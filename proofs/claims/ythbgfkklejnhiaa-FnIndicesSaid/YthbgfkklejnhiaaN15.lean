/- IndexOf of the program, NumberOf and IndexOf of the reference. No conditions. -/
import Derived.Test.YthbgfkklejnhiaaN14
namespace Go.Proofs.Ythbgfkklejnhiaa
open Go.Joins Go.ChangeShapes Go.WideShapes Go.ChangeAt Go.RowKit Go.Deep
set_option linter.unusedVariables false

theorem nb_new (p s c l : Int) (st sk re fe ag : Bool) (x1 x2 : Option Addr) (xn1 xc1 xn2 xc2 : Nat) (xp : Int) (w : World) (L : List Int) (h : RowN w x1 L) (T U : TypeId) : NbAt w w.heap.size (w.heap.size + 1) p s c l st sk re fe ag x1 x2 xn1 xc1 xn2 xc2 xp L ((w.alloc (.cells #[.int .i64 p, .int .i64 s, .bool st, .bool sk, .bool re, .bool fe, .bool ag, .int .i64 c, .int .i64 l] T)).alloc (.cells #[.slice x1 xn1 xc1, .slice x2 xn2 xc2, .int .i64 xp] U)) :=
  ⟨(rp_new p s c l st sk re fe ag x1 x2 xn1 xc1 xn2 xc2 xp w T U).1, (rp_new p s c l st sk re fe ag x1 x2 xn1 xc1 xn2 xc2 xp w T U).2.1, h.below (rp_new p s c l st sk re fe ag x1 x2 xn1 xc1 xn2 xc2 xp w T U).2.2, (rp_new p s c l st sk re fe ag x1 x2 xn1 xc1 xn2 xc2 xp w T U).2.2⟩
set_option maxHeartbeats 4000000 in
theorem implIx_any (p s c l : Int) (st sk re fe ag : Bool) (p1 p2 : Option Addr) (pn1 pc1 pn2 pc2 : Nat) (pp : Int) (xs ys : List Int) (w : World) (h : PosR w p1 p2 pn1 pn2 xs ys) (hc1 : pn1 ≤ pc1) (k : Bool) (hk : okP (okR p s c l st ag) p pn1 pn2 pp xs ys = k) :
    Calls Try.prog 13 #[.agg #[.int .i64 p, .int .i64 s, .bool st, .bool sk, .bool re, .bool fe, .bool ag, .int .i64 c, .int .i64 l], .agg #[.slice p1 pn1 pc1, .slice p2 pn2 pc2, .int .i64 pp]] w fun e w' => e = .returned (.tuple #[.int .i64 (ixV k p pp xs), .int .i64 (n13C k p (tot xs))]) ∧ Below w.heap.size w w' := by
  have HS := Lib.hid (nb_new p s c l st sk re fe ag p1 p2 pn1 pc1 pn2 pc2 pp w xs h.r1 25 28)
  have HN := Lib.hid (fun (u : World) (hu : Below w.heap.size w u) => implNb_any p s c l st sk re fe ag p1 p2 pn1 pc1 pn2 pc2 pp xs ys u (h.below hu) hc1 k hk)
  by_cases hc : n13C k p (tot xs) = 0
  · obtain ⟨rfl, -⟩ := n13_parts hc
    obtain ⟨P, S, zs, y0, y1, rfl, hP, hP2, rfl, rfl, rfl, hpp, hok, hv⟩ := pos_parts hk h.l1 h.l2
    have HSum := Lib.hid (fun (u : World) (hu : RowN u p1 xs) => sumOf_any p1 pc1 (2 * P) xs u h.l1 hu hv.pos (by rw [hv.tot]; have := hv.s96; omega))
    have HF := Lib.hid (fun u => implFI_any (P : Int) s c l st sk re fe ag (S : Int) u)
    rw [hv.tot] at hc HSum HN ⊢
    rw [(nb_some hv hc).2, hc]
    rw [(nb_some hv hc).1, hc] at HN
    rw [hok, (n13_some hc).2, hc] at HF
    obtain ⟨-, S', hS', hS96, hb⟩ := n13_parts hc
    obtain rfl : S = S' := by omega
    rw [Int.toNat_natCast] at hb
    have hlt := vw_rk hv (by omega) hb
    generalize bf P (S + 1) = X at *
    generalize bf P S = B at *
    generalize rk zs = V at *
    have q1 : B + V < 1000000000 := by omega
    clear hlt hb hS' hv hc hk h hok
    obtain ⟨hz, r0, r1, r2, r3, r4, r5, r6, r7, r8⟩ := HS.out.1
    obtain ⟨hy, k0, k1, k2⟩ := HS.out.2.1
    go_enter Try.func13, Try.ntmps13
    go_wp2_with fail
    clear hz r0 r1 r2 r3 r4 r5 r6 r7 r8 hy k0 k1 k2
    refine (HN.out _ HS.out.2.2.2).mono ?_
    rintro e v ⟨rfl, hb⟩
    have HS := Lib.hid (HS.out.below hb)
    clear hb
    go_wp2_with fail
    go_region_held3 (fun u => (w.heap.size < u.heap.size ∧ u.cell? ⟨w.heap.size, 0, none⟩ = some (.int .i64 (P : Int)) ∧ u.cell? ⟨w.heap.size, 1, none⟩ = some (.int .i64 s) ∧ u.cell? ⟨w.heap.size, 2, none⟩ = some (.bool st) ∧ u.cell? ⟨w.heap.size, 3, none⟩ = some (.bool sk) ∧ u.cell? ⟨w.heap.size, 4, none⟩ = some (.bool re) ∧ u.cell? ⟨w.heap.size, 5, none⟩ = some (.bool fe) ∧ u.cell? ⟨w.heap.size, 6, none⟩ = some (.bool ag) ∧ u.cell? ⟨w.heap.size, 7, none⟩ = some (.int .i64 c) ∧ u.cell? ⟨w.heap.size, 8, none⟩ = some (.int .i64 l)) ∧ ((w.heap.size + 1) < u.heap.size ∧ u.cell? ⟨(w.heap.size + 1), 0, none⟩ = some (.slice p1 (2 * P) pc1) ∧ u.cell? ⟨(w.heap.size + 1), 1, none⟩ = some (.slice p2 2 pc2) ∧ u.cell? ⟨(w.heap.size + 1), 2, none⟩ = some (.int .i64 pp)) ∧ RowN u p1 xs ∧ Below w.heap.size w u) (first | with_reducible exact HS.out | exact HS.out | exact HS.out.drew)
      (first
      | (go_at_call 44; (with_reducible refine (HSum.out _ ?_).mono ?_); (first | exact HS.out.2.2.1 | exact HS.out.drew.2.2.1); rintro e w5 ⟨rfl, rfl⟩)
      | (go_at_call 15; (with_reducible refine (HF.out _).mono ?_); rintro e w6 ⟨rfl, hb6⟩; have HS := Lib.hid (by first | exact HS.out.below hb6 | exact HS.out.drew.below hb6 : NbAt w w.heap.size (w.heap.size + 1) (P : Int) s c l st sk re fe ag p1 p2 (2 * P) pc1 2 pc2 pp xs w6)))
    go_wp2_with fail
    go_ret2
    exact ⟨rfl, HS.out.2.2.2⟩
  · rw [(nb_none hc).2]
    rw [(nb_none hc).1] at HN
    generalize n13C k p (tot xs) = C at *
    have d1 : (C != 0) = true := by simpa using hc
    clear hc hk h
    obtain ⟨hz, r0, r1, r2, r3, r4, r5, r6, r7, r8⟩ := HS.out.1
    obtain ⟨hy, k0, k1, k2⟩ := HS.out.2.1
    go_enter Try.func13, Try.ntmps13
    go_wp2_with fail
    clear hz r0 r1 r2 r3 r4 r5 r6 r7 r8 hy k0 k1 k2
    refine (HN.out _ HS.out.2.2.2).mono ?_
    rintro e v ⟨rfl, hb⟩
    have HS := Lib.hid (HS.out.below hb)
    clear hb
    go_wp2_with fail
    go_ret2
    exact ⟨rfl, HS.out.2.2.2⟩
set_option maxHeartbeats 4000000 in
theorem ask_any (p s c l : Int) (st sk re fe ag : Bool) (p1 p2 : Option Addr) (pn1 pc1 pn2 pc2 : Nat) (pp : Int) (xs ys : List Int) (b d : Nat) (w : World) (hr : RuAt w b p s c l st sk re fe ag) (hp : PoAt w d p1 p2 pn1 pc1 pn2 pc2 pp) (h : PosR w p1 p2 pn1 pn2 xs ys) (k : Bool) (hk : okP (okR p s c l st ag) p pn1 pn2 pp xs ys = k) :
    Calls Try.prog 61 #[.pointer (some ⟨b, 0, none⟩), .pointer (some ⟨d, 0, none⟩)] w fun e w' => e = .returned (.int .i64 (n13C k p (tot xs))) ∧ Below w.heap.size w w' := by
  have HO := Lib.hid (l04Ok_at p s c l st sk re fe ag p1 p2 pn1 pc1 pn2 pc2 pp xs ys b d w hr hp h k hk)
  cases k
  · rw [n13_no]
    clear hr hp h hk
    go_enter Try.func61, Try.ntmps61
    go_wp2_with (go_at_call 45; refine HO.out.mono ?_; rintro e w1 ⟨rfl, m, rfl⟩)
    go_ret
    exact ⟨rfl, below_dn (Below.refl _ _) m⟩
  · obtain ⟨P, S, zs, y0, y1, rfl, hP, hP2, rfl, rfl, rfl, hpp, hok, hv⟩ := pos_parts hk h.l1 h.l2
    have hs := fun (u : World) (hu : RowN u p1 xs) => l04Sum_any p1 pc1 (2 * P) xs u h.l1 hu
    rw [sumC_yes (inB_of_pos hv.pos (by rw [hv.tot]; have := hv.s96; omega)) (by rw [hv.tot]; have := hv.s96; omega), hv.tot] at hs
    have HSum := Lib.hid hs
    have HR := Lib.hid h.r1
    have HK := Lib.hid (fun (u : World) (hu : RuAt u b (P : Int) s c l st sk re fe ag) => code13_any (P : Int) s c l st sk re fe ag (S : Int) b u hu)
    rw [hok] at HK
    rw [hv.tot]
    generalize n13C true (P : Int) (S : Int) = C at *
    have HP := Lib.hid hp
    have HU := Lib.hid hr
    obtain ⟨hy, k0, k1, k2⟩ := hp
    clear hs hv hk h hok hr
    go_enter Try.func61, Try.ntmps61
    go_wp2_with fail
    refine HO.out.mono ?_
    rintro e w1 ⟨rfl, m, rfl⟩
    obtain ⟨hy, k0, k1, k2⟩ := HP.out.below (below_dn (Below.refl _ _) m)
    go_wp2_with fail
    refine (HSum.out _ (HR.out.drewN m)).mono ?_
    rintro e w2 ⟨rfl, rfl⟩
    go_wp2_with fail
    refine (HK.out _ (HU.out.below (below_dn (Below.refl _ _) m))).mono ?_
    rintro e w3 ⟨rfl, hb⟩
    have HB := Lib.hid ((below_dn (Below.refl w.heap.size w) m).trans hb)
    clear hb
    go_wp2_with fail
    go_ret
    exact ⟨rfl, HB.out⟩
set_option maxHeartbeats 4000000 in
theorem num_any (P S : Nat) (s c l : Int) (st sk re fe ag : Bool) (p1 p2 : Option Addr) (pc1 pc2 : Nat) (pp : Int) (xs : List Int) (zs : List Nat) (y0 y1 : Int) (b d : Nat) (w : World) (hr : RuAt w b (P : Int) s c l st sk re fe ag) (hp : PoAt w d p1 p2 (2 * P) pc1 2 pc2 pp) (h : PosR w p1 p2 (2 * P) 2 xs [y0, y1]) (hP : 2 ≤ P) (hP2 : P ≤ 8) (hc1 : 2 * P ≤ pc1) (hpp : pp = 0 ∨ pp = 1) (hv : Vw P S pp xs zs) (hb : bf P (S + 1) ≤ 1000000000) :
    Calls Try.prog 62 #[.pointer (some ⟨b, 0, none⟩), .pointer (some ⟨d, 0, none⟩)] w fun e w' => e = .returned (.int .i64 (rk zs : Int)) ∧ Below w.heap.size w w' := by
  have HV : Hid (∃ vs : List Int, Calls Try.prog 54 #[.pointer (some ⟨b, 0, none⟩), .pointer (some ⟨d, 0, none⟩)] w (PosQ (2 * P) 2 0 (vals zs) vs w)) := Lib.hid (by
    rw [← hv.eq]
    rcases hpp with rfl | rfl
    · exact ⟨_, l04View_zero P s c l st sk re fe ag p1 p2 (2 * P) pc1 2 pc2 xs y0 y1 b d w hr hp h hP hP2 rfl rfl hc1⟩
    · have e : vwL (P : Int) 1 xs = turnL P xs := by unfold vwL; rw [if_pos rfl, Int.toNat_natCast]
      rw [e]
      exact ⟨_, l04View_one P s c l st sk re fe ag p1 p2 (2 * P) pc1 2 pc2 xs y0 y1 b d w hr hp h hP hP2 rfl rfl hc1⟩)
  have hd := vw_dis hv (by omega) hP2 hb
  have HR := Lib.hid (fun (a : Option Addr) (cc : Nat) (u : World) (hu : RowN u a (vals zs)) => specR_any a cc (2 * P - 1) zs u hd hu)
  rw [show 2 * P - 1 + 1 = 2 * P by omega] at HR
  clear hd hv hb h hp hr
  generalize rk zs = V at *
  generalize vals zs = L at *
  obtain ⟨vs, HV⟩ := HV.out
  have HV := Lib.hid HV
  go_enter Try.func62, Try.ntmps62
  go_wp2_with fail
  refine HV.out.mono ?_
  rintro e v ⟨g1, c1, g2, c2, rfl, ho, l1, l2, q1, q2, hb⟩
  have HP := Lib.hid (po_new (some ⟨g1, 0, none⟩) (some ⟨g2, 0, none⟩) (2 * P) c1 2 c2 0 v 28)
  have HO := Lib.hid (ho.o1.row.alloc (.cells #[.slice (some ⟨g1, 0, none⟩) (2 * P) c1, .slice (some ⟨g2, 0, none⟩) 2 c2, .int .i64 0] 28))
  have HB := Lib.hid (hb.trans ((al1 _ (.cells #[.slice (some ⟨g1, 0, none⟩) (2 * P) c1, .slice (some ⟨g2, 0, none⟩) 2 c2, .int .i64 0] 28)).mono hb.size))
  clear hb ho l1 l2 q1 q2
  go_wp2_with fail
  refine (HR.out _ _ _ HO.out).mono ?_
  rintro e v3 ⟨rfl, hb⟩
  have HB := Lib.hid (HB.out.trans (hb.mono HB.out.size))
  clear hb
  go_wp2_with fail
  go_ret
  exact ⟨rfl, HB.out⟩
set_option maxHeartbeats 4000000 in
theorem idx_any (P S : Nat) (s c l : Int) (st sk re fe ag : Bool) (p1 p2 : Option Addr) (pc1 pc2 : Nat) (pp : Int) (xs : List Int) (zs : List Nat) (y0 y1 : Int) (b d : Nat) (w : World) (hr : RuAt w b (P : Int) s c l st sk re fe ag) (hp : PoAt w d p1 p2 (2 * P) pc1 2 pc2 pp) (h : PosR w p1 p2 (2 * P) 2 xs [y0, y1]) (hP : 2 ≤ P) (hP2 : P ≤ 8) (hc1 : 2 * P ≤ pc1) (hpp : pp = 0 ∨ pp = 1) (hv : Vw P S pp xs zs) (hb : bf P (S + 1) ≤ 1000000000) :
    Calls Try.prog 70 #[.pointer (some ⟨b, 0, none⟩), .pointer (some ⟨d, 0, none⟩)] w fun e w' => e = .returned (.int .i64 ((bf P S : Int) + (rk zs : Int))) ∧ Below w.heap.size w w' := by
  have hs := fun (u : World) (hu : RowN u p1 xs) => l04Sum_any p1 pc1 (2 * P) xs u h.l1 hu
  rw [sumC_yes (inB_of_pos hv.pos (by rw [hv.tot]; have := hv.s96; omega)) (by rw [hv.tot]; have := hv.s96; omega), hv.tot] at hs
  have HSum := Lib.hid (hs w h.r1)
  have HF := Lib.hid (before_any P S (P : Int) s c l st sk re fe ag (S : Int) b w hr rfl rfl hP hP2 (by have := hv.s96; omega))
  rw [cut9_lo (cnt_fit (P := P) (S := S) (by omega) hb).2] at HF
  have HN := Lib.hid (fun (u : World) (hu : Below w.heap.size w u) => num_any P S s c l st sk re fe ag p1 p2 pc1 pc2 pp xs zs y0 y1 b d u (hr.below hu) (hp.below hu) (h.below hu) hP hP2 hc1 hpp hv hb)
  have hlt := vw_rk hv (by omega) hb
  generalize bf P (S + 1) = X at *
  generalize bf P S = B at *
  generalize rk zs = V at *
  have q1 : B + V < 1000000000 := by omega
  obtain ⟨hy, k0, k1, k2⟩ := hp
  clear hlt hb hs hv h hr
  go_enter Try.func70, Try.ntmps70
  go_wp2_with fail
  refine HSum.out.mono ?_
  rintro e w2 ⟨rfl, rfl⟩
  go_wp2_with fail
  refine HF.out.mono ?_
  rintro e w3 ⟨rfl, hb⟩
  have HB := Lib.hid hb
  clear hb
  go_wp2_with fail
  refine (HN.out _ HB.out).mono ?_
  rintro e w4 ⟨rfl, hb⟩
  have HB := Lib.hid (HB.out.trans (hb.mono HB.out.size))
  clear hb
  go_wp2_with fail
  go_ret
  exact ⟨rfl, HB.out⟩
set_option maxHeartbeats 4000000 in
theorem specNb_any (p s c l : Int) (st sk re fe ag : Bool) (p1 p2 : Option Addr) (pn1 pc1 pn2 pc2 : Nat) (pp : Int) (xs ys : List Int) (w : World) (h : PosR w p1 p2 pn1 pn2 xs ys) (hc1 : pn1 ≤ pc1) (k : Bool) (hk : okP (okR p s c l st ag) p pn1 pn2 pp xs ys = k) :
    Calls Try.prog 29 #[.agg #[.int .i64 p, .int .i64 s, .bool st, .bool sk, .bool re, .bool fe, .bool ag, .int .i64 c, .int .i64 l], .agg #[.slice p1 pn1 pc1, .slice p2 pn2 pc2, .int .i64 pp]] w fun e w' => e = .returned (.tuple #[.int .i64 (nbV k p pp xs), .int .i64 (n13C k p (tot xs))]) ∧ Below w.heap.size w w' := by
  have HS := Lib.hid (rp_new p s c l st sk re fe ag p1 p2 pn1 pc1 pn2 pc2 pp w 25 28)
  have HN := Lib.hid (ask_any p s c l st sk re fe ag p1 p2 pn1 pc1 pn2 pc2 pp xs ys w.heap.size (w.heap.size + 1) _ HS.out.1 HS.out.2.1 (h.below HS.out.2.2) k hk)
  by_cases hc : n13C k p (tot xs) = 0
  · obtain ⟨rfl, -⟩ := n13_parts hc
    obtain ⟨P, S, zs, y0, y1, rfl, hP, hP2, rfl, rfl, rfl, hpp, hok, hv⟩ := pos_parts hk h.l1 h.l2
    rw [hv.tot] at hc HN ⊢
    rw [(nb_some hv hc).1, hc]
    rw [hc] at HN
    obtain ⟨-, S', hS', hS96, hb⟩ := n13_parts hc
    obtain rfl : S = S' := by omega
    rw [Int.toNat_natCast] at hb
    have HF := Lib.hid (fun (u : World) (hu : RpAt w (P : Int) s c l st sk re fe ag p1 p2 (2 * P) pc1 2 pc2 pp u) => num_any P S s c l st sk re fe ag p1 p2 pc1 pc2 pp xs zs y0 y1 w.heap.size (w.heap.size + 1) u hu.1 hu.2.1 (h.below hu.2.2) hP hP2 hc1 hpp hv hb)
    clear hb hS' hv hc hk h hok
    go_enter Try.func29, Try.ntmps29
    go_wp2_with fail
    refine HN.out.mono ?_
    rintro e v ⟨rfl, hb⟩
    have HS := Lib.hid (HS.out.below hb)
    clear hb
    go_wp2_with fail
    refine (HF.out _ HS.out).mono ?_
    rintro e v2 ⟨rfl, hb⟩
    have HS := Lib.hid (HS.out.below hb)
    clear hb
    go_wp2_with fail
    go_ret2
    exact ⟨rfl, HS.out.2.2⟩
  · rw [(nb_none hc).1]
    generalize n13C k p (tot xs) = C at *
    have d1 : (C != 0) = true := by simpa using hc
    clear hc hk h
    go_enter Try.func29, Try.ntmps29
    go_wp2_with fail
    refine HN.out.mono ?_
    rintro e v ⟨rfl, hb⟩
    have HS := Lib.hid (HS.out.below hb)
    clear hb
    go_wp2_with fail
    go_ret2
    exact ⟨rfl, HS.out.2.2⟩
set_option maxHeartbeats 4000000 in
theorem specIx_any (p s c l : Int) (st sk re fe ag : Bool) (p1 p2 : Option Addr) (pn1 pc1 pn2 pc2 : Nat) (pp : Int) (xs ys : List Int) (w : World) (h : PosR w p1 p2 pn1 pn2 xs ys) (hc1 : pn1 ≤ pc1) (k : Bool) (hk : okP (okR p s c l st ag) p pn1 pn2 pp xs ys = k) :
    Calls Try.prog 36 #[.agg #[.int .i64 p, .int .i64 s, .bool st, .bool sk, .bool re, .bool fe, .bool ag, .int .i64 c, .int .i64 l], .agg #[.slice p1 pn1 pc1, .slice p2 pn2 pc2, .int .i64 pp]] w fun e w' => e = .returned (.tuple #[.int .i64 (ixV k p pp xs), .int .i64 (n13C k p (tot xs))]) ∧ Below w.heap.size w w' := by
  have HS := Lib.hid (rp_new p s c l st sk re fe ag p1 p2 pn1 pc1 pn2 pc2 pp w 25 28)
  have HN := Lib.hid (ask_any p s c l st sk re fe ag p1 p2 pn1 pc1 pn2 pc2 pp xs ys w.heap.size (w.heap.size + 1) _ HS.out.1 HS.out.2.1 (h.below HS.out.2.2) k hk)
  by_cases hc : n13C k p (tot xs) = 0
  · obtain ⟨rfl, -⟩ := n13_parts hc
    obtain ⟨P, S, zs, y0, y1, rfl, hP, hP2, rfl, rfl, rfl, hpp, hok, hv⟩ := pos_parts hk h.l1 h.l2
    rw [hv.tot] at hc HN ⊢
    rw [(nb_some hv hc).2, hc]
    rw [hc] at HN
    obtain ⟨-, S', hS', hS96, hb⟩ := n13_parts hc
    obtain rfl : S = S' := by omega
    rw [Int.toNat_natCast] at hb
    have HF := Lib.hid (fun (u : World) (hu : RpAt w (P : Int) s c l st sk re fe ag p1 p2 (2 * P) pc1 2 pc2 pp u) => idx_any P S s c l st sk re fe ag p1 p2 pc1 pc2 pp xs zs y0 y1 w.heap.size (w.heap.size + 1) u hu.1 hu.2.1 (h.below hu.2.2) hP hP2 hc1 hpp hv hb)
    clear hb hS' hv hc hk h hok
    go_enter Try.func36, Try.ntmps36
    go_wp2_with fail
    refine HN.out.mono ?_
    rintro e v ⟨rfl, hb⟩
    have HS := Lib.hid (HS.out.below hb)
    clear hb
    go_wp2_with fail
    refine (HF.out _ HS.out).mono ?_
    rintro e v2 ⟨rfl, hb⟩
    have HS := Lib.hid (HS.out.below hb)
    clear hb
    go_wp2_with fail
    go_ret2
    exact ⟨rfl, HS.out.2.2⟩
  · rw [(nb_none hc).2]
    generalize n13C k p (tot xs) = C at *
    have d1 : (C != 0) = true := by simpa using hc
    clear hc hk h
    go_enter Try.func36, Try.ntmps36
    go_wp2_with fail
    refine HN.out.mono ?_
    rintro e v ⟨rfl, hb⟩
    have HS := Lib.hid (HS.out.below hb)
    clear hb
    go_wp2_with fail
    go_ret2
    exact ⟨rfl, HS.out.2.2⟩
end Go.Proofs.Ythbgfkklejnhiaa
