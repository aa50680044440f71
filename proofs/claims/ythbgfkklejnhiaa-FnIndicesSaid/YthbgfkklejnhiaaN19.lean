/- SameNumber of both sides. No conditions. -/
import Derived.Test.YthbgfkklejnhiaaN15
namespace Go.Proofs.Ythbgfkklejnhiaa
open Go.Joins Go.ChangeShapes Go.WideShapes Go.ChangeAt Go.RowKit Go.Deep
set_option linter.unusedVariables false

/-- Rules and two positions, boxed one after the other. -/
def PqAt (w : World) (p s c l : Int) (st sk re fe ag : Bool) (p1 p2 : Option Addr) (pn1 pc1 pn2 pc2 : Nat) (pp : Int) (x1 x2 : Option Addr) (xn1 xc1 xn2 xc2 : Nat) (xp : Int) (u : World) : Prop := RuAt u w.heap.size p s c l st sk re fe ag ∧ PoAt u (w.heap.size + 1) p1 p2 pn1 pc1 pn2 pc2 pp ∧ PoAt u (w.heap.size + 1 + 1) x1 x2 xn1 xc1 xn2 xc2 xp ∧ Below w.heap.size w u
section
variable {w u v : World} {p s c l : Int} {st sk re fe ag : Bool} {p1 p2 : Option Addr} {pn1 pc1 pn2 pc2 : Nat} {pp : Int} {x1 x2 : Option Addr} {xn1 xc1 xn2 xc2 : Nat} {xp : Int}
theorem PqAt.below (h : PqAt w p s c l st sk re fe ag p1 p2 pn1 pc1 pn2 pc2 pp x1 x2 xn1 xc1 xn2 xc2 xp u) (k : Below u.heap.size u v) : PqAt w p s c l st sk re fe ag p1 p2 pn1 pc1 pn2 pc2 pp x1 x2 xn1 xc1 xn2 xc2 xp v := ⟨h.1.below k, h.2.1.below k, h.2.2.1.below k, h.2.2.2.trans (k.mono h.2.2.2.size)⟩
theorem PqAt.drew (h : PqAt w p s c l st sk re fe ag p1 p2 pn1 pc1 pn2 pc2 pp x1 x2 xn1 xc1 xn2 xc2 xp u) : PqAt w p s c l st sk re fe ag p1 p2 pn1 pc1 pn2 pc2 pp x1 x2 xn1 xc1 xn2 xc2 xp u.drew := ⟨h.1, h.2.1, h.2.2.1, h.2.2.2.drew⟩
end
theorem pq_new (p s c l : Int) (st sk re fe ag : Bool) (p1 p2 : Option Addr) (pn1 pc1 pn2 pc2 : Nat) (pp : Int) (x1 x2 : Option Addr) (xn1 xc1 xn2 xc2 : Nat) (xp : Int) (w : World) (T U V : TypeId) : PqAt w p s c l st sk re fe ag p1 p2 pn1 pc1 pn2 pc2 pp x1 x2 xn1 xc1 xn2 xc2 xp (((w.alloc (.cells #[.int .i64 p, .int .i64 s, .bool st, .bool sk, .bool re, .bool fe, .bool ag, .int .i64 c, .int .i64 l] T)).alloc (.cells #[.slice p1 pn1 pc1, .slice p2 pn2 pc2, .int .i64 pp] U)).alloc (.cells #[.slice x1 xn1 xc1, .slice x2 xn2 xc2, .int .i64 xp] V)) := by
  have h := rp_new p s c l st sk re fe ag p1 p2 pn1 pc1 pn2 pc2 pp w T U
  have h3 := po_new x1 x2 xn1 xc1 xn2 xc2 xp ((w.alloc (.cells #[.int .i64 p, .int .i64 s, .bool st, .bool sk, .bool re, .bool fe, .bool ag, .int .i64 c, .int .i64 l] T)).alloc (.cells #[.slice p1 pn1 pc1, .slice p2 pn2 pc2, .int .i64 pp] U)) V
  rw [show ((w.alloc (.cells #[.int .i64 p, .int .i64 s, .bool st, .bool sk, .bool re, .bool fe, .bool ag, .int .i64 c, .int .i64 l] T)).alloc (.cells #[.slice p1 pn1 pc1, .slice p2 pn2 pc2, .int .i64 pp] U)).heap.size = w.heap.size + 1 + 1 by simp] at h3
  exact ⟨h.1.below (al1 _ _), h.2.1.below (al1 _ _), h3, h.2.2.trans ((al1 _ _).mono h.2.2.size)⟩
/-- Whether both positions have one number. -/
def snV (k j : Bool) (p pp xp : Int) (xs us : List Int) : Bool := decide (n13C k p (tot xs) = 0) && (decide (n13C j p (tot us) = 0) && decide (ixV k p pp xs = ixV j p xp us))
theorem sn_1 {k j : Bool} {p pp xp : Int} {xs us : List Int} (h : n13C k p (tot xs) ≠ 0) : snV k j p pp xp xs us = false := by unfold snV; rw [decide_eq_false h]; rfl
theorem sn_2 {k j : Bool} {p pp xp : Int} {xs us : List Int} (h : n13C j p (tot us) ≠ 0) : snV k j p pp xp xs us = false := by unfold snV; rw [decide_eq_false h]; simp
theorem sn_3 {k j : Bool} {p pp xp : Int} {xs us : List Int} (h : n13C k p (tot xs) = 0) (h2 : n13C j p (tot us) = 0) : snV k j p pp xp xs us = decide (ixV k p pp xs = ixV j p xp us) := by unfold snV; rw [decide_eq_true h, decide_eq_true h2]; rfl
set_option maxHeartbeats 4000000 in
theorem implSn_any (p s c l : Int) (st sk re fe ag : Bool) (p1 p2 : Option Addr) (pn1 pc1 pn2 pc2 : Nat) (pp : Int) (x1 x2 : Option Addr) (xn1 xc1 xn2 xc2 : Nat) (xp : Int) (xs ys us vs : List Int) (w : World) (h1 : PosR w p1 p2 pn1 pn2 xs ys) (h2 : PosR w x1 x2 xn1 xn2 us vs) (hc1 : pn1 ≤ pc1) (hc2 : xn1 ≤ xc1) (k j : Bool) (hk : okP (okR p s c l st ag) p pn1 pn2 pp xs ys = k) (hj : okP (okR p s c l st ag) p xn1 xn2 xp us vs = j) :
    Calls Try.prog 25 #[.agg #[.int .i64 p, .int .i64 s, .bool st, .bool sk, .bool re, .bool fe, .bool ag, .int .i64 c, .int .i64 l], .agg #[.slice p1 pn1 pc1, .slice p2 pn2 pc2, .int .i64 pp], .agg #[.slice x1 xn1 xc1, .slice x2 xn2 xc2, .int .i64 xp]] w fun e w' => e = .returned (.bool (snV k j p pp xp xs us)) ∧ Below w.heap.size w w' := by
  have HS := Lib.hid (pq_new p s c l st sk re fe ag p1 p2 pn1 pc1 pn2 pc2 pp x1 x2 xn1 xc1 xn2 xc2 xp w 25 28 28)
  have H1 := Lib.hid (fun (u : World) (hu : Below w.heap.size w u) => implIx_any p s c l st sk re fe ag p1 p2 pn1 pc1 pn2 pc2 pp xs ys u (h1.below hu) hc1 k hk)
  have H2 := Lib.hid (fun (u : World) (hu : Below w.heap.size w u) => implIx_any p s c l st sk re fe ag x1 x2 xn1 xc1 xn2 xc2 xp us vs u (h2.below hu) hc2 j hj)
  clear h1 h2 hc1 hc2 hk hj
  by_cases ha : n13C k p (tot xs) = 0
  · by_cases hb : n13C j p (tot us) = 0
    all_goals first | rw [sn_3 ha hb] | rw [sn_2 hb]
    · rw [ha] at H1
      rw [hb] at H2
      generalize ixV k p pp xs = A at *
      generalize ixV j p xp us = C at *
      clear ha hb
      by_cases hq : A = C
      all_goals
        have HQ : Hid (decide (A = C) = (A == C)) := Lib.hid (by by_cases e : A = C <;> simp [e])
        rw [HQ.out]
        clear hq
        obtain ⟨hz, r0, r1, r2, r3, r4, r5, r6, r7, r8⟩ := HS.out.1
        obtain ⟨hy, k0, k1, k2⟩ := HS.out.2.1
        obtain ⟨hx, j0, j1, j2⟩ := HS.out.2.2.1
        go_enter Try.func25, Try.ntmps25
        go_wp2_with fail
        clear hz r0 r1 r2 r3 r4 r5 r6 r7 r8 hy k0 k1 k2 hx j0 j1 j2
        refine (H1.out _ HS.out.2.2.2).mono ?_
        rintro e u ⟨rfl, hb⟩
        have HS := Lib.hid (HS.out.below hb)
        clear hb
        obtain ⟨hz, r0, r1, r2, r3, r4, r5, r6, r7, r8⟩ := HS.out.1
        obtain ⟨hy, k0, k1, k2⟩ := HS.out.2.1
        obtain ⟨hx, j0, j1, j2⟩ := HS.out.2.2.1
        go_wp2_with fail
        clear hz r0 r1 r2 r3 r4 r5 r6 r7 r8 hy k0 k1 k2 hx j0 j1 j2
        refine (H2.out _ HS.out.2.2.2).mono ?_
        rintro e u ⟨rfl, hb⟩
        have HS := Lib.hid (HS.out.below hb)
        clear hb
        go_wp2_with fail
        go_ret
        exact ⟨rfl, HS.out.2.2.2⟩
    · rw [ha] at H1
      generalize n13C j p (tot us) = D at *
      generalize ixV k p pp xs = A at *
      generalize ixV j p xp us = C at *
      have d1 : (D == 0) = false := by simpa using hb
      clear ha hb
      obtain ⟨hz, r0, r1, r2, r3, r4, r5, r6, r7, r8⟩ := HS.out.1
      obtain ⟨hy, k0, k1, k2⟩ := HS.out.2.1
      obtain ⟨hx, j0, j1, j2⟩ := HS.out.2.2.1
      go_enter Try.func25, Try.ntmps25
      go_wp2_with fail
      clear hz r0 r1 r2 r3 r4 r5 r6 r7 r8 hy k0 k1 k2 hx j0 j1 j2
      refine (H1.out _ HS.out.2.2.2).mono ?_
      rintro e u ⟨rfl, hb⟩
      have HS := Lib.hid (HS.out.below hb)
      clear hb
      obtain ⟨hz, r0, r1, r2, r3, r4, r5, r6, r7, r8⟩ := HS.out.1
      obtain ⟨hy, k0, k1, k2⟩ := HS.out.2.1
      obtain ⟨hx, j0, j1, j2⟩ := HS.out.2.2.1
      go_wp2_with fail
      clear hz r0 r1 r2 r3 r4 r5 r6 r7 r8 hy k0 k1 k2 hx j0 j1 j2
      refine (H2.out _ HS.out.2.2.2).mono ?_
      rintro e u ⟨rfl, hb⟩
      have HS := Lib.hid (HS.out.below hb)
      clear hb
      go_wp2_with fail
      go_ret
      exact ⟨rfl, HS.out.2.2.2⟩
  · rw [sn_1 ha]
    generalize n13C k p (tot xs) = D at *
    generalize ixV k p pp xs = A at *
    have d1 : (D != 0) = true := by simpa using ha
    clear ha
    obtain ⟨hz, r0, r1, r2, r3, r4, r5, r6, r7, r8⟩ := HS.out.1
    obtain ⟨hy, k0, k1, k2⟩ := HS.out.2.1
    obtain ⟨hx, j0, j1, j2⟩ := HS.out.2.2.1
    go_enter Try.func25, Try.ntmps25
    go_wp2_with fail
    clear hz r0 r1 r2 r3 r4 r5 r6 r7 r8 hy k0 k1 k2 hx j0 j1 j2
    refine (H1.out _ HS.out.2.2.2).mono ?_
    rintro e u ⟨rfl, hb⟩
    have HS := Lib.hid (HS.out.below hb)
    clear hb
    go_wp2_with fail
    go_ret
    exact ⟨rfl, HS.out.2.2.2⟩
theorem idx_ex {k : Bool} (p s c l : Int) (st sk re fe ag : Bool) {p1 p2 : Option Addr} {pn1 pc1 pn2 pc2 : Nat} {pp : Int} {xs ys : List Int} {w : World} (b d : Nat) (h : PosR w p1 p2 pn1 pn2 xs ys) (hc1 : pn1 ≤ pc1) (hk : okP (okR p s c l st ag) p pn1 pn2 pp xs ys = k) (hc : n13C k p (tot xs) = 0) (u : World) (hu : Below w.heap.size w u) (hr : RuAt u b p s c l st sk re fe ag) (hp : PoAt u d p1 p2 pn1 pc1 pn2 pc2 pp) :
    Calls Try.prog 70 #[.pointer (some ⟨b, 0, none⟩), .pointer (some ⟨d, 0, none⟩)] u fun e w' => e = .returned (.int .i64 (ixV k p pp xs)) ∧ Below u.heap.size u w' := by
  obtain ⟨rfl, -⟩ := n13_parts hc
  obtain ⟨P, S, zs, y0, y1, rfl, hP, hP2, rfl, rfl, rfl, hpp, hok, hv⟩ := pos_parts hk h.l1 h.l2
  rw [hv.tot] at hc
  rw [(nb_some hv hc).2]
  obtain ⟨-, S', hS', hS96, hb⟩ := n13_parts hc
  obtain rfl : S = S' := by omega
  rw [Int.toNat_natCast] at hb
  exact idx_any P S s c l st sk re fe ag p1 p2 pc1 pc2 pp xs zs y0 y1 b d u hr hp (h.below hu) hP hP2 hc1 hpp hv hb
set_option maxHeartbeats 4000000 in
theorem specSn_any (p s c l : Int) (st sk re fe ag : Bool) (p1 p2 : Option Addr) (pn1 pc1 pn2 pc2 : Nat) (pp : Int) (x1 x2 : Option Addr) (xn1 xc1 xn2 xc2 : Nat) (xp : Int) (xs ys us vs : List Int) (w : World) (h1 : PosR w p1 p2 pn1 pn2 xs ys) (h2 : PosR w x1 x2 xn1 xn2 us vs) (hc1 : pn1 ≤ pc1) (hc2 : xn1 ≤ xc1) (k j : Bool) (hk : okP (okR p s c l st ag) p pn1 pn2 pp xs ys = k) (hj : okP (okR p s c l st ag) p xn1 xn2 xp us vs = j) :
    Calls Try.prog 38 #[.agg #[.int .i64 p, .int .i64 s, .bool st, .bool sk, .bool re, .bool fe, .bool ag, .int .i64 c, .int .i64 l], .agg #[.slice p1 pn1 pc1, .slice p2 pn2 pc2, .int .i64 pp], .agg #[.slice x1 xn1 xc1, .slice x2 xn2 xc2, .int .i64 xp]] w fun e w' => e = .returned (.bool (snV k j p pp xp xs us)) ∧ Below w.heap.size w w' := by
  have HS := Lib.hid (pq_new p s c l st sk re fe ag p1 p2 pn1 pc1 pn2 pc2 pp x1 x2 xn1 xc1 xn2 xc2 xp w 25 28 28)
  have A1 := Lib.hid (fun (u : World) (hu : PqAt w p s c l st sk re fe ag p1 p2 pn1 pc1 pn2 pc2 pp x1 x2 xn1 xc1 xn2 xc2 xp u) => ask_any p s c l st sk re fe ag p1 p2 pn1 pc1 pn2 pc2 pp xs ys w.heap.size (w.heap.size + 1) u hu.1 hu.2.1 (h1.below hu.2.2.2) k hk)
  have A2 := Lib.hid (fun (u : World) (hu : PqAt w p s c l st sk re fe ag p1 p2 pn1 pc1 pn2 pc2 pp x1 x2 xn1 xc1 xn2 xc2 xp u) => ask_any p s c l st sk re fe ag x1 x2 xn1 xc1 xn2 xc2 xp us vs w.heap.size (w.heap.size + 1 + 1) u hu.1 hu.2.2.1 (h2.below hu.2.2.2) j hj)
  by_cases ha : n13C k p (tot xs) = 0
  · by_cases hb : n13C j p (tot us) = 0
    all_goals first | rw [sn_3 ha hb] | rw [sn_2 hb]
    · have I1 := Lib.hid (fun (u : World) (hu : PqAt w p s c l st sk re fe ag p1 p2 pn1 pc1 pn2 pc2 pp x1 x2 xn1 xc1 xn2 xc2 xp u) => idx_ex p s c l st sk re fe ag w.heap.size (w.heap.size + 1) h1 hc1 hk ha u hu.2.2.2 hu.1 hu.2.1)
      have I2 := Lib.hid (fun (u : World) (hu : PqAt w p s c l st sk re fe ag p1 p2 pn1 pc1 pn2 pc2 pp x1 x2 xn1 xc1 xn2 xc2 xp u) => idx_ex p s c l st sk re fe ag w.heap.size (w.heap.size + 1 + 1) h2 hc2 hj hb u hu.2.2.2 hu.1 hu.2.2.1)
      rw [ha] at A1
      rw [hb] at A2
      generalize ixV k p pp xs = A at *
      generalize ixV j p xp us = C at *
      have HQ : Hid (decide (A = C) = (A == C)) := Lib.hid (by by_cases e : A = C <;> simp [e])
      rw [HQ.out]
      clear ha hb h1 h2 hc1 hc2 hk hj
      go_enter Try.func38, Try.ntmps38
      go_wp2_with fail
      refine (A1.out _ HS.out).mono ?_
      rintro e u ⟨rfl, hb⟩
      have HS := Lib.hid (HS.out.below hb)
      clear hb
      go_wp2_with fail
      refine (A2.out _ HS.out).mono ?_
      rintro e u ⟨rfl, hb⟩
      have HS := Lib.hid (HS.out.below hb)
      clear hb
      go_wp2_with fail
      refine (I1.out _ HS.out).mono ?_
      rintro e u ⟨rfl, hb⟩
      have HS := Lib.hid (HS.out.below hb)
      clear hb
      go_wp2_with fail
      refine (I2.out _ HS.out).mono ?_
      rintro e u ⟨rfl, hb⟩
      have HS := Lib.hid (HS.out.below hb)
      clear hb
      go_wp2_with fail
      go_ret
      exact ⟨rfl, HS.out.2.2.2⟩
    · rw [ha] at A1
      generalize n13C j p (tot us) = D at *
      have d1 : (D != 0) = true := by simpa using hb
      clear ha hb h1 h2 hc1 hc2 hk hj
      go_enter Try.func38, Try.ntmps38
      go_wp2_with fail
      refine (A1.out _ HS.out).mono ?_
      rintro e u ⟨rfl, hb⟩
      have HS := Lib.hid (HS.out.below hb)
      clear hb
      go_wp2_with fail
      refine (A2.out _ HS.out).mono ?_
      rintro e u ⟨rfl, hb⟩
      have HS := Lib.hid (HS.out.below hb)
      clear hb
      go_wp2_with fail
      go_ret
      exact ⟨rfl, HS.out.2.2.2⟩
  · rw [sn_1 ha]
    generalize n13C k p (tot xs) = D at *
    have d1 : (D != 0) = true := by simpa using ha
    clear ha h1 h2 hc1 hc2 hk hj
    go_enter Try.func38, Try.ntmps38
    go_wp2_with fail
    refine (A1.out _ HS.out).mono ?_
    rintro e u ⟨rfl, hb⟩
    have HS := Lib.hid (HS.out.below hb)
    clear hb
    go_wp2_with fail
    go_ret
    exact ⟨rfl, HS.out.2.2.2⟩
end Go.Proofs.Ythbgfkklejnhiaa
