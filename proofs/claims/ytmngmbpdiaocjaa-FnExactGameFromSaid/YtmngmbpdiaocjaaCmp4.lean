/- The order of positions: what the reference and the program answer. No conditions. -/
import Derived.Test.YtmngmbpdiaocjaaBox4
import Derived.Test.YtmngmbpdiaocjaaStep
import Derived.Deep.RegionHeld3
namespace Go.Proofs.Ytmngmbpdiaocjaa
open Go.Joins Go.ChangeShapes Go.WideShapes Go.ChangeAt Go.RowKit Go.Deep
set_option linter.unusedVariables false

/-- The order of two rows: number by number, a beginning first. -/
def cmpL : List Int → List Int → Int
  | [], [] => 0
  | [], _ :: _ => -1
  | _ :: _, [] => 1
  | x :: r, y :: q => if x < y then -1 else if y < x then 1 else cmpL r q
theorem cmpL_lt {xs ys : List Int} {k : Nat} {x y : Int} (hx : xs[k]? = some x) (hy : ys[k]? = some y) (h : x < y) : cmpL (xs.drop k) (ys.drop k) = -1 := by
  have hlx := (List.getElem?_eq_some_iff.1 hx).1
  have hly := (List.getElem?_eq_some_iff.1 hy).1
  rw [List.drop_eq_getElem_cons hlx, List.drop_eq_getElem_cons hly, (List.getElem?_eq_some_iff.1 hx).2, (List.getElem?_eq_some_iff.1 hy).2, cmpL, if_pos h]
theorem cmpL_gt {xs ys : List Int} {k : Nat} {x y : Int} (hx : xs[k]? = some x) (hy : ys[k]? = some y) (h : y < x) : cmpL (xs.drop k) (ys.drop k) = 1 := by
  have hlx := (List.getElem?_eq_some_iff.1 hx).1
  have hly := (List.getElem?_eq_some_iff.1 hy).1
  rw [List.drop_eq_getElem_cons hlx, List.drop_eq_getElem_cons hly, (List.getElem?_eq_some_iff.1 hx).2, (List.getElem?_eq_some_iff.1 hy).2, cmpL, if_neg (by omega), if_pos h]
theorem cmpL_eq {xs ys : List Int} {k : Nat} {x y : Int} (hx : xs[k]? = some x) (hy : ys[k]? = some y) (h : x = y) : cmpL (xs.drop k) (ys.drop k) = cmpL (xs.drop (k + 1)) (ys.drop (k + 1)) := by
  have hlx := (List.getElem?_eq_some_iff.1 hx).1
  have hly := (List.getElem?_eq_some_iff.1 hy).1
  rw [List.drop_eq_getElem_cons hlx, List.drop_eq_getElem_cons hly, (List.getElem?_eq_some_iff.1 hx).2, (List.getElem?_eq_some_iff.1 hy).2, cmpL, if_neg (by omega), if_neg (by omega)]
theorem cmpL_both {xs ys : List Int} {k : Nat} (hx : xs.length ≤ k) (hy : ys.length ≤ k) : cmpL (xs.drop k) (ys.drop k) = 0 := by
  rw [List.drop_eq_nil_of_le hx, List.drop_eq_nil_of_le hy]; rfl
theorem cmpL_short {xs ys : List Int} {k : Nat} (hx : xs.length ≤ k) (hy : k < ys.length) : cmpL (xs.drop k) (ys.drop k) = -1 := by
  rw [List.drop_eq_nil_of_le hx, List.drop_eq_getElem_cons hy]; rfl
theorem cmpL_long {xs ys : List Int} {k : Nat} (hx : k < xs.length) (hy : ys.length ≤ k) : cmpL (xs.drop k) (ys.drop k) = 1 := by
  rw [List.drop_eq_nil_of_le hy, List.drop_eq_getElem_cons hx]; rfl
/-- The first of three that is not 0. -/
def or3 (a b c : Int) : Int := if a = 0 then (if b = 0 then c else b) else a
/-- The order of two positions. -/
def cmpP (xs us ys vs : List Int) (p q : Int) : Int := or3 (cmpL xs us) (cmpL ys vs) (cmpL [p] [q])
theorem cell_of {w : World} {a : Option Addr} {xs : List Int} {k : Nat} {x : Int} (h : RowN w a xs) (hx : xs[k]? = some x) : ∃ g o, a = some ⟨g, o, none⟩ ∧ w.cell? ⟨g, o + k, none⟩ = some (.int .i64 x) := by
  have hne : xs ≠ [] := by intro e; subst e; cases hx
  obtain ⟨g, o, rfl, _, hc⟩ := h.2.resolve_left hne
  exact ⟨g, o, rfl, hc k x hx⟩

theorem dn1 (w : World) (a : Nat) : ∃ m, w.drewN a = w.drewN m := ⟨_, rfl⟩
theorem dn2 (w : World) (a b : Nat) : ∃ m, (w.drewN a).drewN b = w.drewN m := ⟨_, World.drewN_drewN _ _ _⟩
theorem dn3 (w : World) (a b c : Nat) : ∃ m, ((w.drewN a).drewN b).drewN c = w.drewN m := by
  rw [World.drewN_drewN, World.drewN_drewN]
  exact ⟨_, rfl⟩
theorem row_one (u : World) (x : Int) (T : TypeId) : RowN (u.alloc (.cells #[.int .i64 x] T)) (some ⟨u.heap.size, 0, none⟩) [x] :=
  ⟨by simp, .inr ⟨u.heap.size, 0, rfl, by simp, fun i y hi => by
    match i, hi with
    | 0, hi =>
      cases hi
      rw [World.cell?_alloc_new]
      rfl⟩⟩
/-- Two positions, boxed one after the other. -/
def PpAt (w : World) (p1 p2 : Option Addr) (pn1 pc1 pn2 pc2 : Nat) (pp : Int) (x1 x2 : Option Addr) (xn1 xc1 xn2 xc2 : Nat) (xp : Int) (u : World) : Prop := PoAt u w.heap.size p1 p2 pn1 pc1 pn2 pc2 pp ∧ PoAt u (w.heap.size + 1) x1 x2 xn1 xc1 xn2 xc2 xp ∧ Below w.heap.size w u
section
variable {w u v : World} {p1 p2 : Option Addr} {pn1 pc1 pn2 pc2 : Nat} {pp : Int} {x1 x2 : Option Addr} {xn1 xc1 xn2 xc2 : Nat} {xp : Int}
theorem PpAt.below (h : PpAt w p1 p2 pn1 pc1 pn2 pc2 pp x1 x2 xn1 xc1 xn2 xc2 xp u) (k : Below u.heap.size u v) : PpAt w p1 p2 pn1 pc1 pn2 pc2 pp x1 x2 xn1 xc1 xn2 xc2 xp v := ⟨h.1.below k, h.2.1.below k, h.2.2.trans (k.mono h.2.2.size)⟩
theorem PpAt.drew (h : PpAt w p1 p2 pn1 pc1 pn2 pc2 pp x1 x2 xn1 xc1 xn2 xc2 xp u) : PpAt w p1 p2 pn1 pc1 pn2 pc2 pp x1 x2 xn1 xc1 xn2 xc2 xp u.drew := ⟨h.1, h.2.1, h.2.2.drew⟩
theorem PpAt.drewN (h : PpAt w p1 p2 pn1 pc1 pn2 pc2 pp x1 x2 xn1 xc1 xn2 xc2 xp u) (m : Nat) : PpAt w p1 p2 pn1 pc1 pn2 pc2 pp x1 x2 xn1 xc1 xn2 xc2 xp (u.drewN m) := h.below (below_dn (Below.refl _ _) m)
end
theorem pp_new (p1 p2 : Option Addr) (pn1 pc1 pn2 pc2 : Nat) (pp : Int) (x1 x2 : Option Addr) (xn1 xc1 xn2 xc2 : Nat) (xp : Int) (w : World) (T : TypeId) : PpAt w p1 p2 pn1 pc1 pn2 pc2 pp x1 x2 xn1 xc1 xn2 xc2 xp ((w.alloc (.cells #[.slice p1 pn1 pc1, .slice p2 pn2 pc2, .int .i64 pp] T)).alloc (.cells #[.slice x1 xn1 xc1, .slice x2 xn2 xc2, .int .i64 xp] T)) :=
  ⟨(po_new p1 p2 pn1 pc1 pn2 pc2 pp w T).below ((Below.refl _ _).alloc (Nat.le_refl _) _), by have := po_new x1 x2 xn1 xc1 xn2 xc2 xp (w.alloc (.cells #[.slice p1 pn1 pc1, .slice p2 pn2 pc2, .int .i64 pp] T)) T; simpa using this, ((Below.refl _ _).alloc (Nat.le_refl _) _).alloc (by simp) _⟩

theorem nan_any (x : Int) (w : World) : Calls Try.prog 96 #[.int .i64 x] w fun e w' => e = .returned (.bool false) ∧ w = w' := by
  go_enter Try.func96, Try.ntmps96
  go_wp2
  go_ret
  exact ⟨rfl, rfl⟩
theorem cmp1_any (x y : Int) (w : World) : Calls Try.prog 81 #[.int .i64 x, .int .i64 y] w fun e w' => e = .returned (.int .i64 (cmpL [x] [y])) ∧ w = w' := by
  by_cases h1 : x < y
  · have E : Hid (cmpL [x] [y] = -1) := Lib.hid (by simp [cmpL, h1])
    go_enter Try.func81, Try.ntmps81
    go_wp2_with (go_at_call 96; refine (nan_any _ _).mono ?_; rintro e w' ⟨rfl, rfl⟩)
    go_ret
    exact ⟨by rw [E.out]; rfl, rfl⟩
  · by_cases h2 : y < x
    · have E : Hid (cmpL [x] [y] = 1) := Lib.hid (by simp [cmpL, h1, h2])
      have d1 : decide (x < y) = false := by simpa using h1
      clear h1
      go_enter Try.func81, Try.ntmps81
      go_wp2_with (go_at_call 96; refine (nan_any _ _).mono ?_; rintro e w' ⟨rfl, rfl⟩)
      go_ret
      exact ⟨by rw [E.out]; rfl, rfl⟩
    · obtain rfl : x = y := by omega
      have E : Hid (cmpL [x] [x] = 0) := Lib.hid (by simp [cmpL])
      clear h1 h2
      go_enter Try.func81, Try.ntmps81
      go_wp2_with (go_at_call 96; refine (nan_any _ _).mono ?_; rintro e w' ⟨rfl, rfl⟩)
      go_ret
      exact ⟨by rw [E.out]; rfl, rfl⟩
set_option maxHeartbeats 4000000 in
theorem slCmp_any (a d : Option Addr) (c1 c2 n m : Nat) (xs ys : List Int) (w : World) (hn : xs.length = n) (hm : ys.length = m) (h1 : RowN w a xs) (h2 : RowN w d ys) :
    Calls Try.prog 80 #[.slice a n c1, .slice d m c2] w fun e w' => e = .returned (.int .i64 (cmpL xs ys)) ∧ w = w' := by
  have hl : n ≤ 1000000000000 := by rw [← hn]; exact h1.1
  have hl2 : m ≤ 1000000000000 := by rw [← hm]; exact h2.1
  have Hn := Lib.hid hn
  have Hm := Lib.hid hm
  have H1 := Lib.hid h1
  have H2 := Lib.hid h2
  clear hn hm h1 h2
  go_enter Try.func80, Try.ntmps80
  go_wp2
  go_loop [11] (fun i => ∃ k : Nat, k ≤ n ∧ k ≤ m ∧ i = .int .i64 k ∧ cmpL xs ys = cmpL (xs.drop k) (ys.drop k)) (fun i => n - (intOf i).toNat)
  case atStart => exact ⟨0, Nat.zero_le _, Nat.zero_le _, rfl, rfl⟩
  case round =>
    obtain ⟨k, hk, hk2, rfl, hc⟩ := hrel
    have Hc := Lib.hid hc
    clear hc
    have q0 : (0 : Int) ≤ (k : Int) := by omega
    by_cases hlt : k < n
    · obtain ⟨x, hx⟩ : ∃ x, xs[k]? = some x := ⟨xs[k]'(by rw [Hn.out]; exact hlt), List.getElem?_eq_getElem _⟩
      obtain ⟨g1, o1, rfl, y1⟩ := cell_of H1.out hx
      have Hx := Lib.hid hx
      have q1 : (k : Int) < (n : Int) := by omega
      clear hx
      by_cases hlm : k < m
      · obtain ⟨y, hy⟩ : ∃ y, ys[k]? = some y := ⟨ys[k]'(by rw [Hm.out]; exact hlm), List.getElem?_eq_getElem _⟩
        obtain ⟨g2, o2, rfl, y2⟩ := cell_of H2.out hy
        have Hy := Lib.hid hy
        have q2 : (k : Int) < (m : Int) := by omega
        clear hy
        rcases (show x < y ∨ y < x ∨ x = y by omega) with e1 | e1 | rfl
        · have D : Hid (cmpL [x] [y] = -1) := Lib.hid (by simp [cmpL, e1])
          have E : Hid (cmpL xs ys = -1) := Lib.hid (by rw [Hc.out, cmpL_lt Hx.out Hy.out e1])
          clear e1
          go_wp2_with fail
          refine (cmp1_any x y _).mono ?_
          rintro e u ⟨rfl, rfl⟩
          rw [D.out]
          go_wp2_with fail
          go_ret
          exact ⟨by rw [E.out]; rfl, rfl⟩
        · have D : Hid (cmpL [x] [y] = 1) := Lib.hid (by simp [cmpL, e1]; omega)
          have E : Hid (cmpL xs ys = 1) := Lib.hid (by rw [Hc.out, cmpL_gt Hx.out Hy.out e1])
          clear e1
          go_wp2_with fail
          refine (cmp1_any x y _).mono ?_
          rintro e u ⟨rfl, rfl⟩
          rw [D.out]
          go_wp2_with fail
          go_ret
          exact ⟨by rw [E.out]; rfl, rfl⟩
        · have D : Hid (cmpL [x] [x] = 0) := Lib.hid (by simp [cmpL])
          go_wp2_with fail
          refine (cmp1_any x x _).mono ?_
          rintro e u ⟨rfl, rfl⟩
          rw [D.out]
          go_wp2_with fail
          go_round
          case rel => exact ⟨k + 1, by omega, by omega, by go_num, by rw [Hc.out, cmpL_eq Hx.out Hy.out rfl]⟩
          case measure => simp [intOf]; omega
      · have E : Hid (cmpL xs ys = 1) := Lib.hid (by rw [Hc.out]; exact cmpL_long (by rw [Hn.out]; exact hlt) (by rw [Hm.out]; omega))
        have q2 : (m : Int) ≤ (k : Int) := by omega
        go_wp2_with fail
        go_ret
        exact ⟨by rw [E.out]; rfl, rfl⟩
    · by_cases hlm : n < m
      · have E : Hid (cmpL xs ys = -1) := Lib.hid (by rw [Hc.out]; exact cmpL_short (by rw [Hn.out]; omega) (by rw [Hm.out]; omega))
        go_wp2
        go_ret
        exact ⟨by rw [E.out]; rfl, rfl⟩
      · have E : Hid (cmpL xs ys = 0) := Lib.hid (by rw [Hc.out]; exact cmpL_both (by rw [Hn.out]; omega) (by rw [Hm.out]; omega))
        obtain rfl : n = m := by omega
        go_wp2
        go_ret
        exact ⟨by rw [E.out]; rfl, rfl⟩
set_option maxHeartbeats 1000000 in
theorem or_any (g c : Nat) (a1 a2 a3 : Int) (w : World) (y0 : w.cell? ⟨g, 0, none⟩ = some (.int .i64 a1)) (y1 : w.cell? ⟨g, 1, none⟩ = some (.int .i64 a2)) (y2 : w.cell? ⟨g, 2, none⟩ = some (.int .i64 a3)) :
    Calls Try.prog 79 #[.slice (some ⟨g, 0, none⟩) 3 c] w fun e w' => e = .returned (.int .i64 (or3 a1 a2 a3)) ∧ w = w' := by
  go_enter Try.func79, Try.ntmps79
  go_wp2
  go_loop [8] (fun i => i = .int .i64 0 ∨ (i = .int .i64 1 ∧ a1 = 0) ∨ (i = .int .i64 2 ∧ a1 = 0 ∧ a2 = 0) ∨ (i = .int .i64 3 ∧ a1 = 0 ∧ a2 = 0 ∧ a3 = 0)) (fun i => 3 - (intOf i).toNat)
  case atStart => exact .inl rfl
  case round =>
    rcases hrel with rfl | ⟨rfl, h1⟩ | ⟨rfl, h1, h2⟩ | ⟨rfl, h1, h2, h3⟩
    · by_cases h : a1 = 0
      · have E := Lib.hid h
        have d : (a1 != 0) = false := by simpa using h
        clear h
        go_wp2
        go_round
        case rel => exact .inr (.inl ⟨by go_num, E.out⟩)
        case measure => simp [intOf]
      · have E : Hid (or3 a1 a2 a3 = a1) := Lib.hid (by unfold or3; rw [if_neg h])
        have d : (a1 != 0) = true := by simpa using h
        clear h
        go_wp2
        go_ret
        exact ⟨by rw [E.out]; rfl, rfl⟩
    · by_cases h : a2 = 0
      · have E := Lib.hid (And.intro h1 h)
        have d : (a2 != 0) = false := by simpa using h
        clear h h1
        go_wp2
        go_round
        case rel => exact .inr (.inr (.inl ⟨by go_num, E.out⟩))
        case measure => simp [intOf]
      · have E : Hid (or3 a1 a2 a3 = a2) := Lib.hid (by unfold or3; rw [if_pos h1, if_neg h])
        have d : (a2 != 0) = true := by simpa using h
        clear h h1
        go_wp2
        go_ret
        exact ⟨by rw [E.out]; rfl, rfl⟩
    · by_cases h : a3 = 0
      · have E := Lib.hid (And.intro h1 (And.intro h2 h))
        have d : (a3 != 0) = false := by simpa using h
        clear h h1 h2
        go_wp2
        go_round
        case rel => exact .inr (.inr (.inr ⟨by go_num, E.out⟩))
        case measure => simp [intOf]
      · have E : Hid (or3 a1 a2 a3 = a3) := Lib.hid (by unfold or3; rw [if_pos h1, if_pos h2])
        have d : (a3 != 0) = true := by simpa using h
        clear h h1 h2
        go_wp2
        go_ret
        exact ⟨by rw [E.out]; rfl, rfl⟩
    · have E : Hid (or3 a1 a2 a3 = 0) := Lib.hid (by unfold or3; rw [if_pos h1, if_pos h2, h3])
      clear h1 h2 h3
      go_wp2
      go_ret
      exact ⟨by rw [E.out]; rfl, rfl⟩
set_option maxHeartbeats 2000000 in
theorem implCmp_any (p1 p2 : Option Addr) (pn1 pc1 pn2 pc2 : Nat) (pp : Int) (x1 x2 : Option Addr) (xn1 xc1 xn2 xc2 : Nat) (xp : Int) (xs ys us vs : List Int) (w : World) (h1 : PosR w p1 p2 pn1 pn2 xs ys) (h2 : PosR w x1 x2 xn1 xn2 us vs) :
    Calls Try.prog 64 #[.agg #[.slice p1 pn1 pc1, .slice p2 pn2 pc2, .int .i64 pp], .agg #[.slice x1 xn1 xc1, .slice x2 xn2 xc2, .int .i64 xp]] w fun e w' => e = .returned (.int .i64 (cmpP xs us ys vs pp xp)) ∧ Below w.heap.size w w' := by
  have HS := Lib.hid (pp_new p1 p2 pn1 pc1 pn2 pc2 pp x1 x2 xn1 xc1 xn2 xc2 xp w 32)
  have H1 := Lib.hid h1
  have H2 := Lib.hid h2
  clear h1 h2
  have C1 := Lib.hid (fun u (hb : Below w.heap.size w u) => slCmp_any p1 x1 pc1 xc1 pn1 xn1 xs us u H1.out.l1 H2.out.l1 (H1.out.below hb).r1 (H2.out.below hb).r1)
  have C2 := Lib.hid (fun u (hb : Below w.heap.size w u) => slCmp_any p2 x2 pc2 xc2 pn2 xn2 ys vs u H1.out.l2 H2.out.l2 (H1.out.below hb).r2 (H2.out.below hb).r2)
  go_enter Try.func64, Try.ntmps64
  go_wp2_with fail
  go_region_held3 (fun u => (w.heap.size < u.heap.size ∧ u.cell? ⟨w.heap.size, 0, none⟩ = some (.slice p1 pn1 pc1) ∧ u.cell? ⟨w.heap.size, 1, none⟩ = some (.slice p2 pn2 pc2) ∧ u.cell? ⟨w.heap.size, 2, none⟩ = some (.int .i64 pp)) ∧ (w.heap.size + 1 < u.heap.size ∧ u.cell? ⟨w.heap.size + 1, 0, none⟩ = some (.slice x1 xn1 xc1) ∧ u.cell? ⟨w.heap.size + 1, 1, none⟩ = some (.slice x2 xn2 xc2) ∧ u.cell? ⟨w.heap.size + 1, 2, none⟩ = some (.int .i64 xp)) ∧ Below w.heap.size w u) (first | exact HS.out | exact HS.out.drew | exact HS.out.below ((Below.refl _ _).alloc (Nat.le_refl _) _) | exact HS.out.drew.below ((Below.refl _ _).alloc (Nat.le_refl _) _))
    (first
    | (go_at_call 80; (with_reducible refine (C1.out _ ?_).mono ?_); (first | exact HS.out.2.2 | exact HS.out.drew.2.2); (rintro e w5 ⟨rfl, rfl⟩))
    | (go_at_call 80; (with_reducible refine (C2.out _ ?_).mono ?_); (first | exact HS.out.2.2 | exact HS.out.drew.2.2); (rintro e w5 ⟨rfl, rfl⟩))
    | (go_at_call 81; refine (cmp1_any _ _ _).mono ?_; rintro e w5 ⟨rfl, rfl⟩)
    | (go_at_call 79; refine (or_any _ _ (cmpL xs us) (cmpL ys vs) (cmpL [pp] [xp]) _ (by go_simp) (by go_simp) (by go_simp)).mono ?_; rintro e w5 ⟨rfl, rfl⟩))
  go_wp2_with fail
  go_ret
  exact ⟨rfl, (HS.out.2.2.alloc HS.out.2.2.size _).drew⟩
end Go.Proofs.Ytmngmbpdiaocjaa
