/- NextSeeds and LastSeeds of both sides. No conditions. -/
import Derived.Test.YtcgckpnkmmjljaaWe
import Derived.Deep.RegionHeld3
import Derived.IntWalk
namespace Go.Proofs.Ytcgckpnkmmjljaa
open Go.Joins Go.ChangeShapes Go.WideShapes Go.ChangeAt Go.RowKit Go.Deep
set_option linter.unusedVariables false

/-- The distribution whose rank differs. -/
def byK (xs : List Int) (by_ : Int) : Bool := decide (0 ≤ rkV xs + by_) && decide (rkV xs + by_ ≤ (cnt (tot xs).toNat xs.length : Int) - 1)
def byL (xs : List Int) (by_ : Int) : List Int := if okD xs then (if byK xs by_ then vals (unr (xs.length - 1) (tot xs).toNat (rkV xs + by_).toNat) else []) else []
def byC (xs : List Int) (by_ : Int) : Int := if okD xs then (if byK xs by_ then 0 else 3) else 1
theorem by_no {xs : List Int} {d : Int} (h : okD xs = false) : byL xs d = [] ∧ byC xs d = 1 := by
  unfold byL byC
  rw [h]
  exact ⟨rfl, rfl⟩
theorem by_out {xs : List Int} {d : Int} (h : okD xs = true) (h2 : byK xs d = false) : byL xs d = [] ∧ byC xs d = 3 := by
  unfold byL byC
  rw [h, h2]
  exact ⟨rfl, rfl⟩
theorem by_in {xs : List Int} {d : Int} (h : okD xs = true) (h2 : byK xs d = true) : byL xs d = vals (unr (xs.length - 1) (tot xs).toNat (rkV xs + d).toNat) ∧ byC xs d = 0 := by
  unfold byL byC
  rw [h, h2]
  exact ⟨rfl, rfl⟩
theorem byK_eq {ys : List Nat} {P : Nat} (h : DisOk ys P) (d : Int) : byK (vals ys) d = (decide (0 ≤ (rk ys : Int) + d) && decide ((rk ys : Int) + d ≤ (cnt (sm ys) (P + 1) : Int) - 1)) := by
  unfold byK
  rw [(rk_yes h).1, vals_tot, vals_len, h.len, Int.toNat_natCast]
/-- What has the rank is the answer. -/
theorem by_is {ys zs : List Nat} {P : Nat} {d : Int} (h : DisOk ys P) (hl : zs.length = P + 1) (hs : sm zs = sm ys) (hr : (rk zs : Int) = (rk ys : Int) + d) : byL (vals ys) d = vals zs ∧ byC (vals ys) d = 0 := by
  have hz := rk_lt zs
  rw [hl, hs] at hz
  have hk : byK (vals ys) d = true := by
    rw [byK_eq h, decide_eq_true (by omega), decide_eq_true (by omega)]
    rfl
  have e := by_in (ok_of_dis h) hk
  rw [e.1, e.2, (rk_yes h).1, vals_tot, vals_len, h.len, Int.toNat_natCast, ← hr, Int.toNat_natCast, ← hs]
  have := unr_rk P zs hl
  rw [show P + 1 - 1 = P by omega, this]
  exact ⟨rfl, rfl⟩
/-- The last number that is not zero. -/
theorem lz_cases : ∀ ys : List Nat, (ys = List.replicate ys.length 0) ∨ ∃ A b m, ys = A ++ (b + 1) :: List.replicate m 0
  | [] => .inl rfl
  | y :: ys => by
    rcases lz_cases ys with h | ⟨A, b, m, h⟩
    · rcases y with _ | y
      · exact .inl (by rw [List.length_cons, List.replicate_succ, ← h])
      · exact .inr ⟨[], y, ys.length, by rw [← h]; rfl⟩
    · exact .inr ⟨y :: A, b, m, by rw [h]; rfl⟩
theorem next_cases (ys : List Nat) (hne : ys ≠ []) : (∃ a, ys = a :: List.replicate (ys.length - 1) 0) ∨ ∃ A a b m, ys = A ++ a :: (b + 1) :: List.replicate m 0 := by
  match ys, hne with
  | y :: ys, _ =>
    rcases lz_cases ys with h | ⟨A, b, m, h⟩
    · exact .inl ⟨y, by rw [List.length_cons, Nat.add_sub_cancel, ← h]⟩
    · rcases List.eq_nil_or_concat A with rfl | ⟨B, a, rfl⟩
      · exact .inr ⟨[], y, b, m, by rw [h]; rfl⟩
      · exact .inr ⟨y :: B, a, b, m, by rw [h]; simp⟩
theorem next_last {a n : Nat} {P : Nat} (h : DisOk (a :: List.replicate n 0) P) : byL (vals (a :: List.replicate n 0)) 1 = [] ∧ byC (vals (a :: List.replicate n 0)) 1 = 3 := by
  have hl : n = P := by have := h.len; simpa using this
  have hr := rk_last a n
  have hs : sm (a :: List.replicate n 0) = a := by show a + sm _ = a; rw [sm_zeros]; rfl
  refine by_out (ok_of_dis h) ?_
  rw [byK_eq h, hs, decide_eq_false (p := _ ≤ _ - (1 : Int)) (by rw [← hl]; omega)]
  simp
theorem last_first {e n : Nat} {P : Nat} (h : DisOk (List.replicate n 0 ++ [e]) P) : byL (vals (List.replicate n 0 ++ [e])) (-1) = [] ∧ byC (vals (List.replicate n 0 ++ [e])) (-1) = 3 := by
  refine by_out (ok_of_dis h) ?_
  rw [byK_eq h, rk_end, decide_eq_false (by omega)]
  rfl
theorem sm_next (A : List Nat) (a b m : Nat) : sm (A ++ (a + 1) :: (List.replicate m 0 ++ [b])) = sm (A ++ a :: (b + 1) :: List.replicate m 0) := by
  rw [sm_app, sm_app]
  show sm A + (a + 1 + sm (List.replicate m 0 ++ [b])) = sm A + (a + (b + 1 + sm (List.replicate m 0)))
  rw [sm_app, sm_zeros]
  show sm A + (a + 1 + (0 + (b + 0))) = _
  omega
theorem len_next (A : List Nat) (a b m : Nat) : (A ++ (a + 1) :: (List.replicate m 0 ++ [b])).length = (A ++ a :: (b + 1) :: List.replicate m 0).length := by simp
theorem next_is {A : List Nat} {a b m P : Nat} (h : DisOk (A ++ a :: (b + 1) :: List.replicate m 0) P) : byL (vals (A ++ a :: (b + 1) :: List.replicate m 0)) 1 = vals (A ++ (a + 1) :: (List.replicate m 0 ++ [b])) ∧ byC (vals (A ++ a :: (b + 1) :: List.replicate m 0)) 1 = 0 :=
  by_is h (by rw [len_next, h.len]) (sm_next A a b m) (by rw [rk_next]; omega)
theorem last_is {A : List Nat} {a b m P : Nat} (h : DisOk (A ++ (a + 1) :: (List.replicate m 0 ++ [b])) P) : byL (vals (A ++ (a + 1) :: (List.replicate m 0 ++ [b]))) (-1) = vals (A ++ a :: (b + 1) :: List.replicate m 0) ∧ byC (vals (A ++ (a + 1) :: (List.replicate m 0 ++ [b]))) (-1) = 0 :=
  by_is h (by rw [← len_next, h.len]) (sm_next A a b m).symm (by rw [rk_next]; omega)

set_option maxHeartbeats 2000000 in
theorem specBy_any (a : Option Addr) (c n : Nat) (xs : List Int) (d : Int) (hd : d = 1 ∨ d = -1) (w : World) (hn : xs.length = n) (h : RowN w a xs) :
    Calls Try.prog 54 #[.slice a n c, .int .i64 d] w (RwP (byL xs d) (byL xs d).length (byC xs d) w) := by
  have HV := Lib.hid (l12Ok_any a c n xs w hn h)
  rcases hk : okD xs with _ | _
  · rw [hk] at HV
    rw [(by_no hk).1, (by_no hk).2]
    clear hk hn h hd
    go_enter Try.func54, Try.ntmps54
    go_wp2_with (go_at_call 49; refine HV.out.mono ?_; rintro e w1 ⟨rfl, hb⟩; have HB := Lib.hid hb; clear hb)
    go_ret2
    exact rwp_nil _ _ _ HB.out
  · rw [hk] at HV
    obtain ⟨ys, P, rfl, hD⟩ := okD_parts hk
    obtain rfl : n = P + 1 := by rw [← hn, vals_len, hD.len]
    have HR := Lib.hid (fun (u : World) (hu : Below w.heap.size w u) => specR_any a c P ys u hD (h.below hu))
    have HS : Hid (∀ u, Below w.heap.size w u → Calls Try.prog 58 #[.slice a (P + 1) c] u fun e w' => e = .returned (.int .i64 (sm ys : Int)) ∧ u = w') := Lib.hid (fun u hu => by
      have hs := l04Sum_any a c (P + 1) (vals ys) u hn (h.below hu)
      rwa [sumC_yes (inB_of_pos (posB_vals ys) (by rw [vals_tot]; have := hD.s96; omega)) (by rw [vals_tot]; have := hD.s96; omega), vals_tot] at hs)
    have HN : Hid (∀ (u : World) (p : Int), p = (P : Int) + 1 → Calls Try.prog 52 #[.int .i64 (sm ys : Int), .int .i64 p] u fun e w' => e = .returned (.int .i64 (cnt (sm ys) (P + 1) : Int)) ∧ Below u.heap.size u w') := Lib.hid (by
      rintro u p rfl
      have hc := specN_any (sm ys) P (sm ys : Int) ((P : Int) + 1) u rfl rfl hD.s96 hD.p15
      rwa [cap_lo hD.fit] at hc)
    have hbk := byK_eq hD d
    have hrl := rk_lt ys
    rw [hD.len] at hrl
    have hfit := hD.fit
    have hP := hD.p15
    rcases hk2 : byK (vals ys) d with _ | _
    · rw [(by_out hk hk2).1, (by_out hk hk2).2]
      rw [hk2] at hbk
      have HI := Lib.hid hbk.symm
      generalize cnt (sm ys) (P + 1) = m at *
      generalize rk ys = r at *
      clear hbk hk2 hk hn h hD
      go_enter Try.func54, Try.ntmps54
      go_wp2_with (first | (go_at_call 49; refine HV.out.mono ?_; rintro e w1 ⟨rfl, hb⟩; have HB := Lib.hid hb; clear hb) | (go_at_call 58; refine (HS.out _ HB.out).mono ?_; rintro e w2 ⟨rfl, rfl⟩) | (go_at_call 50; refine (HR.out _ HB.out).mono ?_; rintro e w3 ⟨rfl, hb⟩; have HB := Lib.hid (HB.out.trans (hb.mono HB.out.size)); clear hb) | (go_at_call 52; refine (HN.out _ _ (by omega)).mono ?_; rintro e w4 ⟨rfl, hb⟩; have HB := Lib.hid (HB.out.trans (hb.mono HB.out.size)); clear hb) | (go_at_call 47; with_reducible refine (in_b _ 0 _ false HI.out _).mono ?_; rintro e w' ⟨rfl, rfl⟩))
      go_ret2
      exact rwp_nil _ _ _ HB.out
    · have hin := hbk
      rw [hk2, eq_comm, Bool.and_eq_true, decide_eq_true_eq, decide_eq_true_eq] at hin
      obtain ⟨R, hR⟩ : ∃ R : Nat, (rk ys : Int) + d = (R : Int) := ⟨((rk ys : Int) + d).toNat, by omega⟩
      have e := by_in hk hk2
      rw [(rk_yes hD).1, vals_tot, vals_len, hD.len, Int.toNat_natCast, hR, Int.toNat_natCast, show P + 1 - 1 = P by omega] at e
      have hRl : R < cnt (sm ys) (P + 1) := by omega
      rw [e.1, e.2, vals_len, (unr_is P (sm ys) R hRl).1]
      have HAt := Lib.hid (fun (u : World) (p r : Int) (hp : p = (P : Int) + 1) (hr : r = (R : Int)) => by rw [hr]; exact specAt_any (sm ys) P R p u hp hD.s96 hD.p15 hD.fit hRl : ∀ (u : World) (p r : Int), p = (P : Int) + 1 → r = (R : Int) → Calls Try.prog 53 #[.int .i64 (sm ys : Int), .int .i64 p, .int .i64 r] u (OwnP (vals (unr P (sm ys) R)) (P + 1) u))
      have HL := Lib.hid (show (vals (unr P (sm ys) R)).length = P + 1 by rw [vals_len, (unr_is P (sm ys) R hRl).1])
      rw [hk2] at hbk
      have HI := Lib.hid hbk.symm
      have HRd := Lib.hid hR
      generalize cnt (sm ys) (P + 1) = m at *
      generalize vals (unr P (sm ys) R) = L at *
      generalize rk ys = r at *
      clear hbk hk2 hk hn h hD e hR hin hRl
      go_enter Try.func54, Try.ntmps54
      go_wp2_with (first | (go_at_call 49; refine HV.out.mono ?_; rintro e w1 ⟨rfl, hb⟩; have HB := Lib.hid hb; clear hb) | (go_at_call 58; refine (HS.out _ HB.out).mono ?_; rintro e w2 ⟨rfl, rfl⟩) | (go_at_call 50; refine (HR.out _ HB.out).mono ?_; rintro e w3 ⟨rfl, hb⟩; have HB := Lib.hid (HB.out.trans (hb.mono HB.out.size)); clear hb) | (go_at_call 52; refine (HN.out _ _ (by omega)).mono ?_; rintro e w4 ⟨rfl, hb⟩; have HB := Lib.hid (HB.out.trans (hb.mono HB.out.size)); clear hb) | (go_at_call 47; with_reducible refine (in_b _ 0 _ true HI.out _).mono ?_; rintro e w' ⟨rfl, rfl⟩) | (go_at_call 53; refine (HAt.out _ _ _ (by omega) (by have := HRd.out; omega)).mono ?_; rintro e w5 ⟨v5, rfl, hown, hb⟩; have HO := Lib.hid (own_lower hown HB.out.size); have HB := Lib.hid (HB.out.trans (hb.mono HB.out.size)); clear hb hown))
      go_ret2
      obtain ⟨a, c, b, rfl, ho, hl⟩ := out_own HO.out HL.out (by omega)
      exact ⟨a, c, b, rfl, ho, hl, HB.out⟩
theorem specNx_any (a : Option Addr) (c n : Nat) (xs : List Int) (w : World) (hn : xs.length = n) (h : RowN w a xs) :
    Calls Try.prog 33 #[.slice a n c] w (RwP (byL xs 1) (byL xs 1).length (byC xs 1) w) := by
  have H := Lib.hid (specBy_any a c n xs 1 (.inl rfl) w hn h)
  clear hn h
  go_enter Try.func33, Try.ntmps33
  go_wp2_with (go_at_call 54; refine H.out.mono ?_; rintro e w1 ⟨a1, c1, b1, rfl, ho, hl, hb⟩; have HX := Lib.hid (And.intro ho (And.intro hl hb)); clear ho hl hb)
  go_ret2
  exact ⟨a1, c1, b1, rfl, HX.out.1, HX.out.2.1, HX.out.2.2⟩
theorem specLs_any (a : Option Addr) (c n : Nat) (xs : List Int) (w : World) (hn : xs.length = n) (h : RowN w a xs) :
    Calls Try.prog 34 #[.slice a n c] w (RwP (byL xs (-1)) (byL xs (-1)).length (byC xs (-1)) w) := by
  have H := Lib.hid (specBy_any a c n xs (-1) (.inr rfl) w hn h)
  clear hn h
  go_enter Try.func34, Try.ntmps34
  go_wp2_with (go_at_call 54; refine H.out.mono ?_; rintro e w1 ⟨a1, c1, b1, rfl, ho, hl, hb⟩; have HX := Lib.hid (And.intro ho (And.intro hl hb)); clear ho hl hb)
  go_ret2
  exact ⟨a1, c1, b1, rfl, HX.out.1, HX.out.2.1, HX.out.2.2⟩
theorem rep_at {n q : Nat} (h : q < n) : (vals (List.replicate n 0))[q]? = some 0 := by simp [vals, h]
set_option maxHeartbeats 2000000 in
theorem implNx_no (a : Option Addr) (c n : Nat) (xs : List Int) (w : World) (hn : xs.length = n) (h : RowN w a xs) (hk : okD xs = false) :
    Calls Try.prog 20 #[.slice a n c] w (RwP [] 0 1 w) := by
  have HV := Lib.hid (implVd_any a c n xs w hn h)
  rw [hk] at HV
  clear hk hn h
  go_enter Try.func20, Try.ntmps20
  go_wp2_with (go_at_call 40; refine HV.out.mono ?_; rintro e w1 ⟨rfl, hb⟩; have HB := Lib.hid hb; clear hb)
  go_ret2
  exact rwp_nil _ _ _ HB.out
set_option maxHeartbeats 2000000 in
theorem implNx_last (a : Option Addr) (c y m P : Nat) (w : World) (hD : DisOk (y :: List.replicate m 0) P) (h : RowN w a (vals (y :: List.replicate m 0))) :
    Calls Try.prog 20 #[.slice a (m + 1) c] w (RwP [] 0 3 w) := by
  have hn : (vals (y :: List.replicate m 0)).length = m + 1 := by rw [vals_len]; simp
  have HV := Lib.hid (implVd_any a c (m + 1) _ w hn h)
  rw [ok_of_dis hD] at HV
  obtain ⟨f, hf0, hf⟩ : ∃ f : Int, f < 1 ∧ ∀ u : World, Below w.heap.size w u → Calls Try.prog 45 #[.slice a (m + 1) c] u fun e w' => e = .returned (.int .i64 f) ∧ u = w' := by
    rcases y with _ | y
    · refine ⟨-1, by omega, fun u hu => lastNz_none a (m + 1) c _ u hn (h.below hu) (fun q hq => ?_)⟩
      have := rep_at hq
      rwa [List.replicate_succ] at this
    · refine ⟨0, by omega, fun u hu => lastNz_some a (m + 1) c 0 ((y + 1 : Nat) : Int) _ u hn (h.below hu) rfl (by omega) (fun q hq hqm => ?_)⟩
      obtain ⟨t, rfl⟩ : ∃ t, q = t + 1 := ⟨q - 1, by omega⟩
      exact rep_at (n := m) (by omega)
  have HF := Lib.hid hf
  clear hf hn h hD
  go_enter Try.func20, Try.ntmps20
  go_wp2_with (first | (go_at_call 40; refine HV.out.mono ?_; rintro e w1 ⟨rfl, hb⟩; have HB := Lib.hid hb; clear hb) | (go_at_call 45; refine (HF.out _ HB.out).mono ?_; rintro e w1 ⟨rfl, rfl⟩))
  go_ret2
  exact rwp_nil _ _ _ HB.out
set_option maxHeartbeats 4000000 in
theorem implNx_yes (g o c y b m P : Nat) (A : List Nat) (w : World) (hD : DisOk (A ++ y :: (b + 1) :: List.replicate m 0) P) (h : RowN w (some ⟨g, o, none⟩) (vals (A ++ y :: (b + 1) :: List.replicate m 0))) (hc : P + 1 ≤ c) :
    Calls Try.prog 20 #[.slice (some ⟨g, o, none⟩) (P + 1) c] w (RwP (vals (A ++ (y + 1) :: (List.replicate m 0 ++ [b]))) (P + 1) 0 w) := by
  have hP : P = A.length + 1 + m := by have := hD.len; simp at this; omega
  have hn : (vals (A ++ y :: (b + 1) :: List.replicate m 0)).length = P + 1 := by rw [vals_len, hD.len]
  have HV := Lib.hid (implVd_any (some ⟨g, o, none⟩) c (P + 1) _ w hn h)
  rw [ok_of_dis hD] at HV
  have ex0 : (vals (A ++ y :: (b + 1) :: List.replicate m 0))[A.length]? = some (y : Int) := vals_at _ (by rw [List.getElem?_append_right (Nat.le_refl _)]; simp)
  have ex1 : (vals (A ++ y :: (b + 1) :: List.replicate m 0))[A.length + 1]? = some ((b + 1 : Nat) : Int) := vals_at _ (by rw [List.getElem?_append_right (by omega)]; simp)
  have HF : Hid (∀ u : World, Below w.heap.size w u → Calls Try.prog 45 #[.slice (some ⟨g, o, none⟩) (P + 1) c] u fun e w' => e = .returned (.int .i64 ((A.length + 1 : Nat) : Int)) ∧ u = w') := Lib.hid (fun u hu => lastNz_some _ _ c (A.length + 1) _ _ u hn (h.below hu) ex1 (by omega) (fun q hq hqm => vals_at (y := 0) _ (by
    rw [List.getElem?_append_right (by omega)]
    obtain ⟨t, ht⟩ : ∃ t, q - A.length = t + 2 := ⟨q - A.length - 2, by omega⟩
    rw [ht]
    show (List.replicate m 0)[t]? = some 0
    rw [List.getElem?_replicate, if_pos (by omega)])))
  obtain ⟨g', o', e', hg, hx⟩ := h.2.resolve_left (by intro e; rw [e] at hn; cases hn)
  cases e'
  have HY0 : Hid (∀ u, Below w.heap.size w u → u.cell? ⟨g, o + A.length, none⟩ = some (.int .i64 (y : Int))) := Lib.hid (fun u hu => by rw [hu.cell (p := ⟨g, o + A.length, none⟩) hg]; exact hx _ _ ex0)
  have HY1 : Hid (∀ u, Below w.heap.size w u → u.cell? ⟨g, o + (A.length + 1), none⟩ = some (.int .i64 ((b + 1 : Nat) : Int))) := Lib.hid (fun u hu => by rw [hu.cell (p := ⟨g, o + (A.length + 1), none⟩) hg]; exact hx _ _ ex1)
  have HW : Hid (∀ (u : World) (b2 : Nat), Below w.heap.size w u → RowN u (some ⟨b2, 0, none⟩) [((y : Int) + 1)] → Calls Try.prog 46 #[.slice (some ⟨g, o, none⟩) (P + 1) c, .int .i64 (A.length : Int), .slice (some ⟨b2, 0, none⟩) 1 1] u (WeP (vals A ++ ((y : Int) + 1) :: List.replicate (m + 1) 0) (P + 1) u)) := Lib.hid (fun u b2 hu hr => by
    have hw := withEnd_any g o (P + 1) c A.length 1 b2 0 1 _ [((y : Int) + 1)] u hn rfl (h.below hu) hr hc (by have := hD.p15; omega) (by omega) (by omega) (by omega)
    have e : (vals (A ++ y :: (b + 1) :: List.replicate m 0)).take A.length = vals A := by
      unfold vals
      rw [List.map_append, List.take_left' (by simp)]
    rw [e, show P + 1 - (A.length + 1) = m + 1 by omega] at hw
    exact hw)
  have hs96 := hD.s96
  have hy96 : y ≤ 96 ∧ b ≤ 96 := by
    rw [sm_app] at hs96
    have e : sm (y :: (b + 1) :: List.replicate m 0) = y + (b + 1 + sm (List.replicate m 0)) := rfl
    rw [e] at hs96
    omega
  obtain ⟨hy, hb96⟩ := hy96
  have hP15 := hD.p15
  have HP := Lib.hid hP
  have hA15 : A.length ≤ 15 := by omega
  have q0 : (0 : Int) ≤ (A.length : Int) := by omega
  have q1 : (A.length : Int) + 1 < (P : Int) + 1 := by omega
  have q2 : (A.length : Int) < (P : Int) + 1 := by omega
  have q3 : (0 : Int) ≤ (P : Int) := by omega
  clear ex0 ex1 hx hn h hD hs96 hP
  generalize hal : A.length = al at *
  have Hal := Lib.hid hal
  clear hal
  go_enter Try.func20, Try.ntmps20
  go_wp2_with (first | (go_at_call 40; refine HV.out.mono ?_; rintro e w1 ⟨rfl, hb⟩; have HB := Lib.hid hb; have y0 := HY0.out _ hb; have y1 := HY1.out _ hb; clear hb) | (go_at_call 45; refine (HF.out _ HB.out).mono ?_; rintro e w1 ⟨rfl, rfl⟩))
  refine (HW.out _ _ (HB.out.trans ((alo _ _).mono HB.out.size)) (row_sng _ _ _)).mono ?_
  rintro e w5 ⟨G, C, rfl, ha, hG, hcC, hb⟩
  have hb5 : Below w.heap.size w w5 := (HB.out.trans ((alo _ _).mono HB.out.size)).trans (hb.mono (by have := HB.out.size; simp; omega))
  have HB5 := Lib.hid hb5
  have y5 := HY1.out _ hb5
  have hGw : w.heap.size ≤ G := by have := HB.out.size; simp at hG; omega
  have eL : vals A ++ ((y : Int) + 1) :: List.replicate (m + 1) 0 = (vals A ++ ((y : Int) + 1) :: List.replicate m 0) ++ (0 : Int) :: [] := by rw [show List.replicate (m + 1) (0 : Int) = List.replicate m 0 ++ [0] from List.replicate_succ']; simp
  rw [eL] at ha
  have hlen : (vals A ++ ((y : Int) + 1) :: List.replicate m 0).length = P := by rw [List.length_append, vals_len, List.length_cons, List.length_replicate, Hal.out]; have := HP.out; omega
  have z5 := ha.2.1 P 0 (by rw [List.getElem?_append_right (by omega), hlen, Nat.sub_self]; rfl)
  have f5 := ha.2.2 P
  have hs := ha.set P (by rw [List.length_append, hlen]; simp) (b : Int)
  have e2 := set_mid (vals A ++ ((y : Int) + 1) :: List.replicate m 0) [] 0 (b : Int)
  rw [hlen] at e2
  rw [e2] at hs
  have HS := Lib.hid hs
  have hG1 := ha.1
  have qC : (P : Int) < (P : Int) + 1 := by omega
  clear hb5 hb ha eL hlen hs e2 y0 y1 hG
  go_wp2_with fail
  go_ret2
  refine ⟨some ⟨G, 0, none⟩, C, G, rfl, ?_, fun _ => by simpa using hG1, HB5.out.setCell (p := ⟨G, P, none⟩) hGw _⟩
  have e3 : vals (A ++ (y + 1) :: (List.replicate m 0 ++ [b])) = vals A ++ ((y : Int) + 1) :: List.replicate m 0 ++ [(b : Int)] := by simp [vals]
  rw [e3]
  exact Arr.out (n := P + 1) HS.out (by rw [List.length_append, List.length_append, vals_len, List.length_cons, List.length_replicate, Hal.out]; have := HP.out; simp; omega) (by omega) hGw
theorem implNx_any (a : Option Addr) (c n : Nat) (xs : List Int) (w : World) (hn : xs.length = n) (h : RowN w a xs) (hc : n ≤ c) :
    Calls Try.prog 20 #[.slice a n c] w (RwP (byL xs 1) (byL xs 1).length (byC xs 1) w) := by
  rcases hk : okD xs with _ | _
  · rw [(by_no hk).1, (by_no hk).2]
    exact implNx_no a c n xs w hn h hk
  · obtain ⟨ys, P, rfl, hD⟩ := okD_parts hk
    obtain rfl : n = P + 1 := by rw [← hn, vals_len, hD.len]
    obtain ⟨g, o, rfl, -, -⟩ := h.2.resolve_left (by intro e; rw [e] at hn; cases hn)
    rcases next_cases ys (by intro e; have := hD.len; rw [e] at this; cases this) with ⟨y, e⟩ | ⟨A, y, b, m, rfl⟩
    · rw [hD.len, Nat.add_sub_cancel] at e
      subst e
      rw [(next_last hD).1, (next_last hD).2]
      exact implNx_last _ c y P P w hD h
    · rw [(next_is hD).1, (next_is hD).2, vals_len, len_next, hD.len]
      exact implNx_yes g o c y b m P A w hD h hc
set_option maxHeartbeats 2000000 in
theorem implLs_no (a : Option Addr) (c n : Nat) (xs : List Int) (w : World) (hn : xs.length = n) (h : RowN w a xs) (hk : okD xs = false) :
    Calls Try.prog 21 #[.slice a n c] w (RwP [] 0 1 w) := by
  have HV := Lib.hid (implVd_any a c n xs w hn h)
  rw [hk] at HV
  clear hk hn h
  go_enter Try.func21, Try.ntmps21
  go_wp2_with (go_at_call 40; refine HV.out.mono ?_; rintro e w1 ⟨rfl, hb⟩; have HB := Lib.hid hb; clear hb)
  go_ret2
  exact rwp_nil _ _ _ HB.out
theorem RowN.cut {w : World} {a : Option Addr} {xs ys : List Int} (h : RowN w a (xs ++ ys)) : RowN w a xs := by
  by_cases hne : xs = []
  · subst hne; exact rowN_nil _ _
  · obtain ⟨hl, h | ⟨g, o, ha, hg, hx⟩⟩ := h
    · exact absurd (List.append_eq_nil_iff.1 h).1 hne
    · refine ⟨by rw [List.length_append] at hl; omega, .inr ⟨g, o, ha, hg, fun i x hi => hx i x ?_⟩⟩
      rw [List.getElem?_append_left (List.getElem?_eq_some_iff.1 hi).1]
      exact hi
set_option maxHeartbeats 2000000 in
theorem implLs_first (g o c m e0 P : Nat) (w : World) (hD : DisOk (List.replicate m 0 ++ [e0]) P) (h : RowN w (some ⟨g, o, none⟩) (vals (List.replicate m 0 ++ [e0]))) (hc : m + 1 ≤ c) :
    Calls Try.prog 21 #[.slice (some ⟨g, o, none⟩) (m + 1) c] w (RwP [] 0 3 w) := by
  have hn : (vals (List.replicate m 0 ++ [e0])).length = m + 1 := by rw [vals_len]; simp
  have HV := Lib.hid (implVd_any _ c (m + 1) _ w hn h)
  rw [ok_of_dis hD] at HV
  have hm15 : m ≤ 15 := by have := hD.len; have := hD.p15; simp at *; omega
  have hcut : RowN w (some ⟨g, o, none⟩) (vals (List.replicate m 0)) := RowN.cut (ys := [(e0 : Int)]) (by
    have e : vals (List.replicate m 0 ++ [e0]) = vals (List.replicate m 0) ++ [(e0 : Int)] := by simp [vals]
    rwa [← e])
  have HF := Lib.hid (fun (u : World) (c' : Nat) (hu : Below w.heap.size w u) => lastNz_none (some ⟨g, o, none⟩) m c' _ u (by rw [vals_len]; simp) (hcut.below hu) (fun q hq => rep_at hq))
  have q0 : (0 : Int) ≤ (m : Int) := by omega
  have q1 : (m : Int) ≤ (c : Int) := by omega
  clear hn h hD hcut
  go_enter Try.func21, Try.ntmps21
  go_wp2_with (first | (go_at_call 40; refine HV.out.mono ?_; rintro e w1 ⟨rfl, hb⟩; have HB := Lib.hid hb; clear hb) | (go_at_call 45; refine (HF.out _ _ HB.out).mono ?_; rintro e w1 ⟨rfl, rfl⟩))
  go_ret2
  exact rwp_nil _ _ _ HB.out
set_option maxHeartbeats 4000000 in
theorem implLs_yes (g o c y b m P : Nat) (A : List Nat) (w : World) (hD : DisOk (A ++ (y + 1) :: (List.replicate m 0 ++ [b])) P) (h : RowN w (some ⟨g, o, none⟩) (vals (A ++ (y + 1) :: (List.replicate m 0 ++ [b])))) (hc : P + 1 ≤ c) :
    Calls Try.prog 21 #[.slice (some ⟨g, o, none⟩) (P + 1) c] w (RwP (vals (A ++ y :: (b + 1) :: List.replicate m 0)) (P + 1) 0 w) := by
  have hP : P = A.length + 1 + m := by have := hD.len; simp at this; omega
  have hn : (vals (A ++ (y + 1) :: (List.replicate m 0 ++ [b]))).length = P + 1 := by rw [vals_len, hD.len]
  have HV := Lib.hid (implVd_any (some ⟨g, o, none⟩) c (P + 1) _ w hn h)
  rw [ok_of_dis hD] at HV
  have ex0 : (vals (A ++ (y + 1) :: (List.replicate m 0 ++ [b])))[A.length]? = some ((y + 1 : Nat) : Int) := vals_at _ (by rw [List.getElem?_append_right (Nat.le_refl _)]; simp)
  have ex1 : (vals (A ++ (y + 1) :: (List.replicate m 0 ++ [b])))[P]? = some (b : Int) := vals_at _ (by
    rw [List.getElem?_append_right (by omega), show P - A.length = m + 1 by omega]
    show (List.replicate m 0 ++ [b])[m]? = some b
    rw [List.getElem?_append_right (by simp)]
    simp)
  have eC : vals (A ++ (y + 1) :: (List.replicate m 0 ++ [b])) = vals (A ++ (y + 1) :: List.replicate m 0) ++ [(b : Int)] := by simp [vals]
  have hcut : RowN w (some ⟨g, o, none⟩) (vals (A ++ (y + 1) :: List.replicate m 0)) := RowN.cut (ys := [(b : Int)]) (by rwa [← eC])
  have HF : Hid (∀ (u : World) (c' : Nat), Below w.heap.size w u → Calls Try.prog 45 #[.slice (some ⟨g, o, none⟩) P c'] u fun e w' => e = .returned (.int .i64 (A.length : Int)) ∧ u = w') := Lib.hid (fun u c' hu => lastNz_some _ P c' A.length ((y + 1 : Nat) : Int) _ u (by rw [vals_len]; simp; omega) (hcut.below hu) (vals_at _ (by rw [List.getElem?_append_right (Nat.le_refl _)]; simp)) (by omega) (fun q hq hqm => vals_at (y := 0) _ (by
    rw [List.getElem?_append_right (by omega)]
    obtain ⟨t, ht⟩ : ∃ t, q - A.length = t + 1 := ⟨q - A.length - 1, by omega⟩
    rw [ht]
    show (List.replicate m 0)[t]? = some 0
    rw [List.getElem?_replicate, if_pos (by omega)])))
  obtain ⟨g', o', e', hg, hx⟩ := h.2.resolve_left (by intro e; rw [e] at hn; cases hn)
  cases e'
  have HY : Hid (∀ u, Below w.heap.size w u → u.cell? ⟨g, o + A.length, none⟩ = some (.int .i64 ((y + 1 : Nat) : Int)) ∧ u.cell? ⟨g, o + P, none⟩ = some (.int .i64 (b : Int)) ∧ Below w.heap.size w u) := Lib.hid (fun u hu => ⟨by rw [hu.cell (p := ⟨g, o + A.length, none⟩) hg]; exact hx _ _ ex0, by rw [hu.cell (p := ⟨g, o + P, none⟩) hg]; exact hx _ _ ex1, hu⟩)
  have HW : Hid (∀ (u : World) (b2 : Nat), Below w.heap.size w u → RowN u (some ⟨b2, 0, none⟩) [(y : Int), (b : Int) + 1] → Calls Try.prog 46 #[.slice (some ⟨g, o, none⟩) (P + 1) c, .int .i64 (A.length : Int), .slice (some ⟨b2, 0, none⟩) 2 2] u (WeP (vals (A ++ y :: (b + 1) :: List.replicate m 0)) (P + 1) u)) := Lib.hid (fun u b2 hu hr => by
    have hw := withEnd_any g o (P + 1) c A.length 2 b2 0 2 _ [(y : Int), (b : Int) + 1] u hn rfl (h.below hu) hr hc (by have := hD.p15; omega) (by omega) (by omega) (by omega)
    have e : (vals (A ++ (y + 1) :: (List.replicate m 0 ++ [b]))).take A.length = vals A := by
      unfold vals
      rw [List.map_append, List.take_left' (by simp)]
    rw [e, show P + 1 - (A.length + 2) = m by omega] at hw
    have e2 : vals (A ++ y :: (b + 1) :: List.replicate m 0) = vals A ++ ([(y : Int), (b : Int) + 1] ++ List.replicate m 0) := by simp [vals]
    rw [e2]
    exact hw)
  have hs96 := hD.s96
  have hy96 : y ≤ 96 ∧ b ≤ 96 := by
    rw [sm_next, sm_app] at hs96
    have e : sm (y :: (b + 1) :: List.replicate m 0) = y + (b + 1 + sm (List.replicate m 0)) := rfl
    omega
  obtain ⟨hy, hb96⟩ := hy96
  have hP15 := hD.p15
  have hA15 : A.length ≤ 15 := by omega
  have HL := Lib.hid (show (vals (A ++ y :: (b + 1) :: List.replicate m 0)).length = P + 1 by rw [vals_len, ← len_next, hD.len])
  have q0 : (0 : Int) ≤ (A.length : Int) := by omega
  have q2 : (A.length : Int) < (P : Int) + 1 := by omega
  have q3 : (0 : Int) ≤ (P : Int) := by omega
  have q4 : (P : Int) ≤ (c : Int) := by omega
  have q5 : (P : Int) < (P : Int) + 1 := by omega
  clear ex0 ex1 hx hn h hD hs96 hP eC hcut
  generalize vals (A ++ y :: (b + 1) :: List.replicate m 0) = L at *
  generalize A.length = al at *
  go_enter Try.func21, Try.ntmps21
  go_wp2_with (first | (go_at_call 40; refine HV.out.mono ?_; rintro e w1 ⟨rfl, hb⟩; have HB := Lib.hid hb; clear hb) | (go_at_call 45; refine (HF.out _ _ HB.out).mono ?_; rintro e w1 ⟨rfl, rfl⟩))
  have Hw1 : Hid (IntKind.i64.wrap (y : Int) = (y : Int)) := Lib.hid (IntWalk.i64_in _ ⟨by omega, by omega⟩)
  have Hw2 : Hid (IntKind.i64.wrap ((b : Int) + 1) = (b : Int) + 1) := Lib.hid (IntWalk.i64_in _ ⟨by omega, by omega⟩)
  have HYw := Lib.hid (HY.out _ HB.out)
  have HYd := Lib.hid (HY.out _ HB.out.drew)
  go_region_held3 (fun u => u.cell? ⟨g, o + al, none⟩ = some (.int .i64 ((y + 1 : Nat) : Int)) ∧ u.cell? ⟨g, o + P, none⟩ = some (.int .i64 (b : Int)) ∧ Below w.heap.size w u) (first | exact HYw.out | exact HYd.out | with_reducible exact HY.out _ HB.out | with_reducible exact HY.out _ HB.out.drew | exact HY.out _ ((HB.out.trans ((alo _ _).mono HB.out.size)).drew) | exact HY.out _ (HB.out.drew.trans ((alo _ _).mono HB.out.size)) | exact HY.out _ (HB.out.trans ((alo _ _).mono HB.out.size)))
    (first
    | (go_at_call 46; refine (HW.out _ _ ((HB.out.trans ((alo _ _).mono HB.out.size)).drew) (by rw [Hw1.out, Hw2.out]; exact (out_two _ _ _ _).row.below (Below.refl _ _).drew)).mono ?_; rintro e w5 ⟨G, C, rfl, ha, hG, hcC, hb⟩; have HA := Lib.hid (And.intro ha (And.intro (Nat.le_trans HB.out.size (Nat.le_trans (by simp) hG)) hcC) : Arr w5 G L ∧ w.heap.size ≤ G ∧ P + 1 ≤ C); have HB := Lib.hid ((HB.out.trans ((alo _ _).mono HB.out.size)).drew.trans (hb.mono (by have := HB.out.size; simp; omega))); clear ha hG hcC hb))
  go_wp2_with fail
  go_ret2
  obtain ⟨ha, hG, hcC⟩ := HA.out
  exact ⟨some ⟨G, 0, none⟩, C, G, rfl, ha.out HL.out (by omega) hG, fun _ => ha.1, HB.out⟩
theorem last_cases (ys : List Nat) (hne : ys ≠ []) : (∃ e, ys = List.replicate (ys.length - 1) 0 ++ [e]) ∨ ∃ A y b m, ys = A ++ (y + 1) :: (List.replicate m 0 ++ [b]) := by
  rcases List.eq_nil_or_concat ys with rfl | ⟨B, e, he⟩
  · exact absurd rfl hne
  · rw [List.concat_eq_append] at he
    subst he
    rcases lz_cases B with h | ⟨A, b, m, h⟩
    · exact .inl ⟨e, by rw [List.length_append, List.length_singleton, Nat.add_sub_cancel, ← h]⟩
    · exact .inr ⟨A, b, e, m, by rw [h]; simp⟩
theorem implLs_any (a : Option Addr) (c n : Nat) (xs : List Int) (w : World) (hn : xs.length = n) (h : RowN w a xs) (hc : n ≤ c) :
    Calls Try.prog 21 #[.slice a n c] w (RwP (byL xs (-1)) (byL xs (-1)).length (byC xs (-1)) w) := by
  rcases hk : okD xs with _ | _
  · rw [(by_no hk).1, (by_no hk).2]
    exact implLs_no a c n xs w hn h hk
  · obtain ⟨ys, P, rfl, hD⟩ := okD_parts hk
    obtain rfl : n = P + 1 := by rw [← hn, vals_len, hD.len]
    obtain ⟨g, o, rfl, -, -⟩ := h.2.resolve_left (by intro e; rw [e] at hn; cases hn)
    rcases last_cases ys (by intro e; have := hD.len; rw [e] at this; cases this) with ⟨y, e⟩ | ⟨A, y, b, m, rfl⟩
    · rw [hD.len, Nat.add_sub_cancel] at e
      subst e
      rw [(last_first hD).1, (last_first hD).2]
      exact implLs_first g o c P y P w hD h hc
    · rw [(last_is hD).1, (last_is hD).2, vals_len, ← len_next, hD.len]
      exact implLs_yes g o c y b m P A w hD h hc
end Go.Proofs.Ytcgckpnkmmjljaa
