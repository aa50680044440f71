/- NumberOf and IndexOf of both sides. No conditions. -/
import Derived.Test.YthbgfkklejnhiaaN13L
import Derived.Test.YthbgfkklejnhiaaView5
namespace Go.Proofs.Ythbgfkklejnhiaa
open Go.Joins Go.ChangeShapes Go.WideShapes Go.ChangeAt Go.RowKit Go.Deep
set_option linter.unusedVariables false

/-- The pits as the player to move sees them. -/
def vwL (p pp : Int) (xs : List Int) : List Int := if pp = 1 then turnL p.toNat xs else xs
theorem tot_turn (P : Nat) (xs : List Int) : tot (turnL P xs) = tot xs := by
  have h : tot (xs.take P ++ xs.drop P) = tot xs := congrArg tot (List.take_append_drop _ _)
  rw [tot_app] at h
  unfold turnL
  rw [tot_app]
  omega
theorem posB_turn {P : Nat} {xs : List Int} (h : posB xs = true) : posB (turnL P xs) = true := by
  unfold turnL
  rw [posB_app, posB_drop h, posB_take h]
  rfl
/-- The numbers of a position that is valid. -/
structure Vw (P S : Nat) (pp : Int) (xs : List Int) (zs : List Nat) : Prop where
  eq : vwL (P : Int) pp xs = vals zs
  len : zs.length = 2 * P
  sum : sm zs = S
  tot : tot xs = (S : Int)
  s96 : S ≤ 96
  pos : posB xs = true
theorem vw_of {P : Nat} {pp : Int} {xs : List Int} (h1 : posB xs = true) (h2 : xs.length = 2 * P) (h3 : tot xs ≤ 96) : ∃ S zs, Vw P S pp xs zs := by
  have h0 := posB_tot h1
  by_cases hp : pp = 1
  · have e : vwL (P : Int) pp xs = turnL P xs := by unfold vwL; rw [if_pos hp, Int.toNat_natCast]
    obtain ⟨zs, hz⟩ := vals_of (posB_turn (P := P) h1)
    have hs := tot_turn P xs
    rw [hz, vals_tot] at hs
    have hl := turnL_len h2
    rw [hz, vals_len] at hl
    exact ⟨(tot xs).toNat, zs, e.trans hz, hl, by omega, by omega, by omega, h1⟩
  · have e : vwL (P : Int) pp xs = xs := by unfold vwL; rw [if_neg hp]
    obtain ⟨zs, hz⟩ := vals_of h1
    have hs : tot xs = (sm zs : Int) := by rw [hz, vals_tot]
    have hl : zs.length = 2 * P := by rw [hz, vals_len] at h2; exact h2
    exact ⟨(tot xs).toNat, zs, e.trans hz, hl, by omega, by omega, by omega, h1⟩
theorem vw_dis {P S : Nat} {pp : Int} {xs : List Int} {zs : List Nat} (h : Vw P S pp xs zs) (hP : 1 ≤ P) (hP2 : P ≤ 8) (hb : bf P (S + 1) ≤ 1000000000) : DisOk zs (2 * P - 1) :=
  ⟨by have := h.len; omega, by omega, by have := h.sum; have := h.s96; omega, by rw [h.sum, show 2 * P - 1 + 1 = 2 * P by omega]; exact Nat.le_trans (cnt_fit hP hb).1 (by omega)⟩
/-- What NumberOf and IndexOf answer. -/
def nbV (k : Bool) (p pp : Int) (xs : List Int) : Int := if n13C k p (tot xs) = 0 then (rk ((vwL p pp xs).map Int.toNat) : Int) else 0
def ixV (k : Bool) (p pp : Int) (xs : List Int) : Int := if n13C k p (tot xs) = 0 then (bf p.toNat (tot xs).toNat : Int) + (rk ((vwL p pp xs).map Int.toNat) : Int) else 0
theorem nb_none {k : Bool} {p pp : Int} {xs : List Int} (h : n13C k p (tot xs) ≠ 0) : nbV k p pp xs = 0 ∧ ixV k p pp xs = 0 := ⟨if_neg h, if_neg h⟩
theorem nb_some {P S : Nat} {pp : Int} {xs : List Int} {zs : List Nat} (h : Vw P S pp xs zs) (hc : n13C true (P : Int) (S : Int) = 0) : nbV true (P : Int) pp xs = (rk zs : Int) ∧ ixV true (P : Int) pp xs = (bf P S : Int) + (rk zs : Int) := by
  unfold nbV ixV
  rw [h.tot, if_pos hc, if_pos hc, h.eq, vals_nat, Int.toNat_natCast, Int.toNat_natCast]
  exact ⟨rfl, rfl⟩
theorem vw_rk {P S : Nat} {pp : Int} {xs : List Int} {zs : List Nat} (h : Vw P S pp xs zs) (hP : 1 ≤ P) (hb : bf P (S + 1) ≤ 1000000000) : bf P S + rk zs < bf P (S + 1) := by
  have h1 := rk_lt zs
  rw [h.sum, h.len] at h1
  have := bf_succ hP S
  omega
/-- Rules and a position in memory, and one of its rows. -/
def NbAt (w : World) (b z : Nat) (p s c l : Int) (st sk re fe ag : Bool) (x1 x2 : Option Addr) (xn1 xc1 xn2 xc2 : Nat) (xp : Int) (L : List Int) (u : World) : Prop := RuAt u b p s c l st sk re fe ag ∧ PoAt u z x1 x2 xn1 xc1 xn2 xc2 xp ∧ RowN u x1 L ∧ Below w.heap.size w u
section
variable {w u v : World} {b z : Nat} {p s c l : Int} {st sk re fe ag : Bool} {x1 x2 : Option Addr} {xn1 xc1 xn2 xc2 : Nat} {xp : Int} {L : List Int}
theorem NbAt.below (h : NbAt w b z p s c l st sk re fe ag x1 x2 xn1 xc1 xn2 xc2 xp L u) (k : Below u.heap.size u v) : NbAt w b z p s c l st sk re fe ag x1 x2 xn1 xc1 xn2 xc2 xp L v := ⟨h.1.below k, h.2.1.below k, h.2.2.1.below k, h.2.2.2.trans (k.mono h.2.2.2.size)⟩
theorem NbAt.drew (h : NbAt w b z p s c l st sk re fe ag x1 x2 xn1 xc1 xn2 xc2 xp L u) : NbAt w b z p s c l st sk re fe ag x1 x2 xn1 xc1 xn2 xc2 xp L u.drew := ⟨h.1, h.2.1, h.2.2.1.drewN 1, h.2.2.2.drew⟩
end
/-- What a valid position is. -/
theorem pos_parts {p s c l : Int} {st ag : Bool} {pn1 pn2 : Nat} {pp : Int} {xs ys : List Int} (hk : okP (okR p s c l st ag) p pn1 pn2 pp xs ys = true) (l1 : xs.length = pn1) (l2 : ys.length = pn2) :
    ∃ (P S : Nat) (zs : List Nat) (y0 y1 : Int), p = (P : Int) ∧ 2 ≤ P ∧ P ≤ 8 ∧ pn1 = 2 * P ∧ pn2 = 2 ∧ ys = [y0, y1] ∧ (pp = 0 ∨ pp = 1) ∧ okR p s c l st ag = true ∧ Vw P S pp xs zs := by
  obtain ⟨hok, hn1, hn2, hpl, hs⟩ := okP_parts hk
  obtain ⟨hp1, hp2, -⟩ := okR_bd hok
  obtain ⟨P, rfl⟩ : ∃ P : Nat, p = (P : Int) := ⟨p.toNat, by omega⟩
  subst hn2
  obtain ⟨y0, y1, rfl⟩ := two_of l2
  obtain ⟨h1, h2, h3⟩ := seedB_parts hs
  have h4 := posB_tot h2
  obtain ⟨S, zs, hv⟩ := vw_of (P := P) (pp := pp) h1 (by omega) (by omega)
  exact ⟨P, S, zs, y0, y1, rfl, by omega, by omega, by omega, rfl, rfl, by omega, hok, hv⟩
/-- The view of a valid position. -/
theorem implVw_any (P : Nat) (s c l : Int) (st sk re fe ag : Bool) (p1 p2 : Option Addr) (pc1 pc2 : Nat) (pp : Int) (xs : List Int) (y0 y1 : Int) (w : World) (h : PosR w p1 p2 (2 * P) 2 xs [y0, y1]) (hP : 2 ≤ P) (hP2 : P ≤ 8) (hc : 2 * P ≤ pc1) (hpp : pp = 0 ∨ pp = 1) (hk : okP (okR (P : Int) s c l st ag) (P : Int) (2 * P) 2 pp xs [y0, y1] = true) :
    Calls Try.prog 51 #[.agg #[.int .i64 P, .int .i64 s, .bool st, .bool sk, .bool re, .bool fe, .bool ag, .int .i64 c, .int .i64 l], .agg #[.slice p1 (2 * P) pc1, .slice p2 2 pc2, .int .i64 pp]] w (PosZ (2 * P) 2 0 0 (vwL (P : Int) pp xs) (if pp = 1 then [y1, y0] else [y0, y1]) w) := by
  obtain ⟨g, o, rfl, -⟩ := h.r1.2.resolve_left (by intro e; have := h.l1; rw [e] at this; simp at this; omega)
  obtain ⟨g2, o2, rfl, -⟩ := h.r2.2.resolve_left (by simp)
  rcases hpp with rfl | rfl
  · exact implView_zero P s c l st sk re fe ag g o g2 o2 pc1 pc2 xs y0 y1 w h hP hP2 hc hk
  · have e : vwL (P : Int) 1 xs = turnL P xs := by unfold vwL; rw [if_pos rfl, Int.toNat_natCast]
    rw [e]
    exact implView_one P s c l st sk re fe ag g o g2 o2 pc1 pc2 xs y0 y1 w h hP hP2 hc hk
/-- The view of a valid position. -/
theorem specVw_any (P : Nat) (s c l : Int) (st sk re fe ag : Bool) (p1 p2 : Option Addr) (pc1 pc2 : Nat) (pp : Int) (xs : List Int) (y0 y1 : Int) (w : World) (h : PosR w p1 p2 (2 * P) 2 xs [y0, y1]) (hP : 2 ≤ P) (hP2 : P ≤ 8) (hc : 2 * P ≤ pc1) (hpp : pp = 0 ∨ pp = 1) (hk : okP (okR (P : Int) s c l st ag) (P : Int) (2 * P) 2 pp xs [y0, y1] = true) :
    Calls Try.prog 19 #[.agg #[.int .i64 P, .int .i64 s, .bool st, .bool sk, .bool re, .bool fe, .bool ag, .int .i64 c, .int .i64 l], .agg #[.slice p1 (2 * P) pc1, .slice p2 2 pc2, .int .i64 pp]] w (PosZ (2 * P) 2 0 0 (vwL (P : Int) pp xs) (if pp = 1 then [y1, y0] else [y0, y1]) w) := by
  rcases hpp with rfl | rfl
  · exact specView_zero P s c l st sk re fe ag _ _ _ pc1 _ pc2 _ xs y0 y1 w h hP hP2 rfl rfl hc rfl hk
  · have e : vwL (P : Int) 1 xs = turnL P xs := by unfold vwL; rw [if_pos rfl, Int.toNat_natCast]
    rw [e]
    exact specView_one P s c l st sk re fe ag _ _ _ pc1 _ pc2 _ xs y0 y1 w h hP hP2 rfl rfl hc rfl hk
set_option maxHeartbeats 4000000 in
theorem implNb_any (p s c l : Int) (st sk re fe ag : Bool) (p1 p2 : Option Addr) (pn1 pc1 pn2 pc2 : Nat) (pp : Int) (xs ys : List Int) (w : World) (h : PosR w p1 p2 pn1 pn2 xs ys) (hc1 : pn1 ≤ pc1) (k : Bool) (hk : okP (okR p s c l st ag) p pn1 pn2 pp xs ys = k) :
    Calls Try.prog 17 #[.agg #[.int .i64 p, .int .i64 s, .bool st, .bool sk, .bool re, .bool fe, .bool ag, .int .i64 c, .int .i64 l], .agg #[.slice p1 pn1 pc1, .slice p2 pn2 pc2, .int .i64 pp]] w fun e w' => e = .returned (.tuple #[.int .i64 (nbV k p pp xs), .int .i64 (n13C k p (tot xs))]) ∧ Below w.heap.size w w' := by
  have HS := Lib.hid (rp_new p s c l st sk re fe ag p1 p2 pn1 pc1 pn2 pc2 pp w 25 28)
  cases k
  · have HV := Lib.hid (fun (u : World) (hu : Below w.heap.size w u) => implView_no p s c l st sk re fe ag p1 p2 pn1 pc1 pn2 pc2 pp xs ys u (h.below hu) hk)
    have hn : n13C false p (tot xs) ≠ 0 := by rw [n13_no]; decide
    rw [(nb_none hn).1, n13_no]
    clear h hk hn
    obtain ⟨hz, r0, r1, r2, r3, r4, r5, r6, r7, r8⟩ := HS.out.1
    obtain ⟨hy, k0, k1, k2⟩ := HS.out.2.1
    go_enter Try.func17, Try.ntmps17
    go_wp2_with fail
    clear hz r0 r1 r2 r3 r4 r5 r6 r7 r8 hy k0 k1 k2
    refine (HV.out _ HS.out.2.2).mono ?_
    rintro e v ⟨a1, c1, b1, a2, c2, b2, rfl, ho, l1, l2, q1, q2, hb⟩
    have HB := Lib.hid ((HS.out.below hb).below (al1 _ (.cells #[.slice a1 0 c1, .slice a2 0 c2, .int .i64 0] 28)))
    clear hb ho l1 l2 q1 q2
    go_wp2_with fail
    go_ret2
    exact ⟨rfl, HB.out.2.2⟩
  · obtain ⟨P, S, zs, y0, y1, rfl, hP, hP2, rfl, rfl, rfl, hpp, hok, hv⟩ := pos_parts hk h.l1 h.l2
    have HV := Lib.hid (fun (u : World) (hu : Below w.heap.size w u) => implVw_any P s c l st sk re fe ag p1 p2 pc1 pc2 pp xs y0 y1 u (h.below hu) hP hP2 hc1 hpp hk)
    have HK := Lib.hid (fun u => chk_any (P : Int) s c l st sk re fe ag (S : Int) u)
    rw [hok] at HK
    rw [hv.eq] at HV
    have hl : (vals zs).length = 2 * P := by rw [vals_len, hv.len]
    have ht : tot (vals zs) = (S : Int) := by rw [vals_tot, hv.sum]
    have HSum := Lib.hid (fun (a : Option Addr) (cc : Nat) (u : World) (hu : RowN u a (vals zs)) => sumOf_any a cc (2 * P) (vals zs) u hl hu (posB_vals zs) (by rw [ht]; have := hv.s96; omega))
    rw [ht] at HSum
    rw [hv.tot]
    generalize hvs : (if pp = 1 then [y1, y0] else [y0, y1]) = vs at *
    clear hvs
    by_cases hc : n13C true (P : Int) (S : Int) = 0
    all_goals
      first
      | (rw [(nb_some hv hc).1])
      | (rw [(nb_none (by rw [hv.tot]; exact hc)).1])
    · rw [hc] at HK ⊢
      obtain ⟨-, S', hS', hS96, hb⟩ := n13_parts hc
      obtain rfl : S = S' := by omega
      rw [Int.toNat_natCast] at hb
      have hd := vw_dis hv (by omega) hP2 hb
      have HR := Lib.hid (fun (a : Option Addr) (cc : Nat) (u : World) (hu : RowN u a (vals zs)) => implRk_yes a cc (2 * P - 1) zs u hd hu)
      rw [show 2 * P - 1 + 1 = 2 * P by omega] at HR
      unfold RkP at HR
      rw [(rk_yes hd).1, (rk_yes hd).2] at HR
      clear hd hb hc hS' ht hl hv hk h hok hpp
      generalize rk zs = V at *
      generalize vals zs = L at *
      obtain ⟨hz, r0, r1, r2, r3, r4, r5, r6, r7, r8⟩ := HS.out.1
      obtain ⟨hy, k0, k1, k2⟩ := HS.out.2.1
      go_enter Try.func17, Try.ntmps17
      go_wp2_with fail
      clear hz r0 r1 r2 r3 r4 r5 r6 r7 r8 hy k0 k1 k2
      refine (HV.out _ HS.out.2.2).mono ?_
      rintro e v ⟨a1, c1, b1, a2, c2, b2, rfl, ho, l1, l2, q1, q2, hb⟩
      have HS := Lib.hid (show NbAt w w.heap.size v.heap.size (P : Int) s c l st sk re fe ag a1 a2 (2 * P) c1 2 c2 0 L _ from ⟨((HS.out.below hb).below (al1 _ (.cells #[.slice a1 (2 * P) c1, .slice a2 2 c2, .int .i64 0] 28))).1, po_new _ _ _ _ _ _ _ v _, ho.o1.row.alloc _, ((HS.out.below hb).below (al1 _ _)).2.2⟩)
      clear hb ho l1 l2 q1 q2
      go_wp2_with fail
      generalize hD : v.heap.size = D at *
      generalize hW : v.alloc (.cells #[.slice a1 (2 * P) c1, .slice a2 2 c2, .int .i64 0] 28) = v1 at *
      clear hD hW
      go_region_held3 (fun u => (w.heap.size < u.heap.size ∧ u.cell? ⟨w.heap.size, 0, none⟩ = some (.int .i64 (P : Int)) ∧ u.cell? ⟨w.heap.size, 1, none⟩ = some (.int .i64 s) ∧ u.cell? ⟨w.heap.size, 2, none⟩ = some (.bool st) ∧ u.cell? ⟨w.heap.size, 3, none⟩ = some (.bool sk) ∧ u.cell? ⟨w.heap.size, 4, none⟩ = some (.bool re) ∧ u.cell? ⟨w.heap.size, 5, none⟩ = some (.bool fe) ∧ u.cell? ⟨w.heap.size, 6, none⟩ = some (.bool ag) ∧ u.cell? ⟨w.heap.size, 7, none⟩ = some (.int .i64 c) ∧ u.cell? ⟨w.heap.size, 8, none⟩ = some (.int .i64 l)) ∧ (D < u.heap.size ∧ u.cell? ⟨D, 0, none⟩ = some (.slice a1 (2 * P) c1) ∧ u.cell? ⟨D, 1, none⟩ = some (.slice a2 2 c2) ∧ u.cell? ⟨D, 2, none⟩ = some (.int .i64 0)) ∧ RowN u a1 L ∧ Below w.heap.size w u) (first | with_reducible exact HS.out | exact HS.out | exact HS.out.drew)
        (first
        | (go_at_call 44; (with_reducible refine (HSum.out _ _ _ ?_).mono ?_); (first | exact HS.out.2.2.1 | exact HS.out.drew.2.2.1); rintro e w5 ⟨rfl, rfl⟩)
        | (go_at_call 47; (with_reducible refine (HK.out _).mono ?_); rintro e w6 ⟨rfl, hb6⟩; have HS := Lib.hid (by first | exact HS.out.below hb6 | exact HS.out.drew.below hb6 : NbAt w w.heap.size D (P : Int) s c l st sk re fe ag a1 a2 (2 * P) c1 2 c2 0 L w6)))
      obtain ⟨hz, r0, r1, r2, r3, r4, r5, r6, r7, r8⟩ := HS.out.1
      obtain ⟨hy, k0, k1, k2⟩ := HS.out.2.1
      go_wp2_with fail
      clear hz r0 r1 r2 r3 r4 r5 r6 r7 r8 hy k0 k1 k2
      refine (HR.out _ _ _ HS.out.2.2.1).mono ?_
      rintro e v3 ⟨rfl, hb⟩
      have HS := Lib.hid (HS.out.below hb)
      clear hb
      go_wp2_with fail
      go_ret2
      exact ⟨rfl, HS.out.2.2.2⟩
    · generalize n13C true (P : Int) (S : Int) = C at *
      have d1 : (C != 0) = true := by simpa using hc
      clear hc ht hl hv hk h hok hpp
      generalize vals zs = L at *
      obtain ⟨hz, r0, r1, r2, r3, r4, r5, r6, r7, r8⟩ := HS.out.1
      obtain ⟨hy, k0, k1, k2⟩ := HS.out.2.1
      go_enter Try.func17, Try.ntmps17
      go_wp2_with fail
      clear hz r0 r1 r2 r3 r4 r5 r6 r7 r8 hy k0 k1 k2
      refine (HV.out _ HS.out.2.2).mono ?_
      rintro e v ⟨a1, c1, b1, a2, c2, b2, rfl, ho, l1, l2, q1, q2, hb⟩
      have HS := Lib.hid (show NbAt w w.heap.size v.heap.size (P : Int) s c l st sk re fe ag a1 a2 (2 * P) c1 2 c2 0 L _ from ⟨((HS.out.below hb).below (al1 _ (.cells #[.slice a1 (2 * P) c1, .slice a2 2 c2, .int .i64 0] 28))).1, po_new _ _ _ _ _ _ _ v _, ho.o1.row.alloc _, ((HS.out.below hb).below (al1 _ _)).2.2⟩)
      clear hb ho l1 l2 q1 q2
      go_wp2_with fail
      generalize hD : v.heap.size = D at *
      generalize hW : v.alloc (.cells #[.slice a1 (2 * P) c1, .slice a2 2 c2, .int .i64 0] 28) = v1 at *
      clear hD hW
      go_region_held3 (fun u => (w.heap.size < u.heap.size ∧ u.cell? ⟨w.heap.size, 0, none⟩ = some (.int .i64 (P : Int)) ∧ u.cell? ⟨w.heap.size, 1, none⟩ = some (.int .i64 s) ∧ u.cell? ⟨w.heap.size, 2, none⟩ = some (.bool st) ∧ u.cell? ⟨w.heap.size, 3, none⟩ = some (.bool sk) ∧ u.cell? ⟨w.heap.size, 4, none⟩ = some (.bool re) ∧ u.cell? ⟨w.heap.size, 5, none⟩ = some (.bool fe) ∧ u.cell? ⟨w.heap.size, 6, none⟩ = some (.bool ag) ∧ u.cell? ⟨w.heap.size, 7, none⟩ = some (.int .i64 c) ∧ u.cell? ⟨w.heap.size, 8, none⟩ = some (.int .i64 l)) ∧ (D < u.heap.size ∧ u.cell? ⟨D, 0, none⟩ = some (.slice a1 (2 * P) c1) ∧ u.cell? ⟨D, 1, none⟩ = some (.slice a2 2 c2) ∧ u.cell? ⟨D, 2, none⟩ = some (.int .i64 0)) ∧ RowN u a1 L ∧ Below w.heap.size w u) (first | with_reducible exact HS.out | exact HS.out | exact HS.out.drew)
        (first
        | (go_at_call 44; (with_reducible refine (HSum.out _ _ _ ?_).mono ?_); (first | exact HS.out.2.2.1 | exact HS.out.drew.2.2.1); rintro e w5 ⟨rfl, rfl⟩)
        | (go_at_call 47; (with_reducible refine (HK.out _).mono ?_); rintro e w6 ⟨rfl, hb6⟩; have HS := Lib.hid (by first | exact HS.out.below hb6 | exact HS.out.drew.below hb6 : NbAt w w.heap.size D (P : Int) s c l st sk re fe ag a1 a2 (2 * P) c1 2 c2 0 L w6)))
      go_wp2_with fail
      go_ret2
      exact ⟨rfl, HS.out.2.2.2⟩
end Go.Proofs.Ythbgfkklejnhiaa
