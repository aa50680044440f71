/- MajorityOf, NeededFor and LeadOf of both sides. No conditions. -/
import Derived.Test.YtgogjjkecbgbiaaEnd9V
namespace Go.Proofs.Ytgogjjkecbgbiaa
open Go.Joins Go.ChangeShapes Go.WideShapes Go.ChangeAt Go.RowKit Go.Deep
set_option linter.unusedVariables false

/-- What the functions of a position answer. -/
def majA (k : Bool) (xs ys : List Int) : Int := if k then majV (tot xs + tot ys) (ys.getD 0 0) (ys.getD 1 0) else 0
def nedA (k : Bool) (xs ys : List Int) (player : Int) : Int := if k && isPl player then needV (tot xs + tot ys) (ys.getD player.toNat 0) else 0
def ledA (k : Bool) (ys : List Int) : Int := if k then ys.getD 0 0 - ys.getD 1 0 else 0
def cdP (k j : Bool) : Int := if k then (if j then 0 else 2) else 1
def Ret2 (a b : Int) (w : World) (e : Ending) (w' : World) : Prop := e = .returned (.tuple #[.int .i64 a, .int .i64 b]) ∧ Below w.heap.size w w'
theorem rp_eq {w u v : World} {p s c l : Int} {st sk re fe ag : Bool} {p1 p2 : Option Addr} {pn1 pc1 pn2 pc2 : Nat} {pp : Int} (e : u = v) (h : RpAt w p s c l st sk re fe ag p1 p2 pn1 pc1 pn2 pc2 pp v) : RpAt w p s c l st sk re fe ag p1 p2 pn1 pc1 pn2 pc2 pp u := e ▸ h
set_option maxHeartbeats 2000000 in
theorem majority_any (p1 p2 : Option Addr) (pn1 pc1 pn2 pc2 : Nat) (pp : Int) (xs : List Int) (y0 y1 : Int) (w : World) (h : PosR w p1 p2 pn1 pn2 xs [y0, y1]) (hs : seedB xs [y0, y1] = true) :
    Calls Try.prog 29 #[.agg #[.slice p1 pn1 pc1, .slice p2 pn2 pc2, .int .i64 pp]] w fun e w' => e = .returned (.int .i64 (majV (tot xs + (y0 + y1)) y0 y1)) ∧ Below w.heap.size w w' := by
  obtain ⟨q1, q2, q3⟩ := seedB_parts hs
  have q4 := posB_tot q1
  simp only [posB, List.all_cons, List.all_nil, Bool.and_true, Bool.and_eq_true, decide_eq_true_eq] at q2
  obtain ⟨r0, r1⟩ := q2
  rw [tot2] at q3
  have ht : 0 ≤ tot xs + (y0 + y1) := by omega
  have HN : Hid (∀ player u, Below w.heap.size w u → (player = 0 ∨ player = 1) → Calls Try.prog 26 #[.agg #[.slice p1 pn1 pc1, .slice p2 pn2 pc2, .int .i64 pp], .int .i64 player] u fun e w' => e = .returned (.int .i64 (needV (tot xs + (y0 + y1)) (if player = 0 then y0 else y1))) ∧ Below u.heap.size u w') := Lib.hid (fun player u hu hp => needed_any p1 p2 pn1 pc1 pn2 pc2 pp xs y0 y1 player u (h.below hu) hs hp)
  have HP := Lib.hid (po_new p1 p2 pn1 pc1 pn2 pc2 pp w 28)
  have HB := Lib.hid (al1 w (.cells #[.slice p1 pn1 pc1, .slice p2 pn2 pc2, .int .i64 pp] 28))
  generalize tot xs + (y0 + y1) = t at *
  clear h hs
  obtain ⟨n0, hn0⟩ : ∃ n, n = needV t y0 := ⟨_, rfl⟩
  obtain ⟨n1, hn1⟩ : ∃ n, n = needV t y1 := ⟨_, rfl⟩
  have z0 : n0 = 0 ↔ t < 2 * y0 := by rw [hn0]; exact need_zero ht
  have z1 : n1 = 0 ↔ t < 2 * y1 := by rw [hn1]; exact need_zero ht
  have H0 : Hid (∀ u, Below w.heap.size w u → Calls Try.prog 26 #[.agg #[.slice p1 pn1 pc1, .slice p2 pn2 pc2, .int .i64 pp], .int .i64 0] u fun e w' => e = .returned (.int .i64 n0) ∧ Below u.heap.size u w') := Lib.hid (fun u hu => by have := HN.out 0 u hu (.inl rfl); rw [if_pos rfl, ← hn0] at this; exact this)
  have H1 : Hid (∀ u, Below w.heap.size w u → Calls Try.prog 26 #[.agg #[.slice p1 pn1 pc1, .slice p2 pn2 pc2, .int .i64 pp], .int .i64 1] u fun e w' => e = .returned (.int .i64 n1) ∧ Below u.heap.size u w') := Lib.hid (fun u hu => by have := HN.out 1 u hu (.inr rfl); rw [if_neg (by decide), ← hn1] at this; exact this)
  clear HN hn0 hn1
  by_cases m0 : t < 2 * y0
  · have e : majV t y0 y1 = 0 := by unfold majV; rw [if_pos m0]
    obtain rfl : n0 = 0 := z0.2 m0
    rw [e]
    clear e z0 z1 m0
    go_enter Try.func29, Try.ntmps29
    go_wp2_with fail
    go_loopw [4] (fun i wr => ∃ k : Nat, k ≤ 0 ∧ i = .int .i64 k ∧ Below w.heap.size w wr ∧ PoAt wr w.heap.size p1 p2 pn1 pc1 pn2 pc2 pp) (fun i _ => 2 - (intOf i).toNat)
    case atStart => exact ⟨0, Nat.le_refl _, rfl, HB.out, HP.out⟩
    case round =>
      clear HB HP
      obtain ⟨k, hk, rfl, hb, hp⟩ := hrel
      obtain rfl : k = 0 := by omega
      have HB := Lib.hid hb
      obtain ⟨_, t0, t1, t2⟩ := hp
      clear hb
      go_wp2_with fail
      refine (H0.out _ HB.out).mono ?_
      rintro e w5 ⟨rfl, hb⟩
      have HB := Lib.hid (HB.out.trans (hb.mono HB.out.size))
      clear hb t0 t1 t2
      go_wp2_with fail
      go_ret
      exact ⟨rfl, HB.out⟩
  · have d0 : (n0 == 0) = false := by simpa using fun e => m0 (z0.1 e)
    by_cases m1 : t < 2 * y1
    · have e : majV t y0 y1 = 1 := by unfold majV; rw [if_neg m0, if_pos m1]
      obtain rfl : n1 = 0 := z1.2 m1
      rw [e]
      clear e z0 z1 m0 m1
      go_enter Try.func29, Try.ntmps29
      go_wp2_with fail
      go_loopw [4] (fun i wr => ∃ k : Nat, k ≤ 1 ∧ i = .int .i64 k ∧ Below w.heap.size w wr ∧ PoAt wr w.heap.size p1 p2 pn1 pc1 pn2 pc2 pp) (fun i _ => 2 - (intOf i).toNat)
      case atStart => exact ⟨0, by omega, rfl, HB.out, HP.out⟩
      case round =>
        clear HB HP
        obtain ⟨k, hk, rfl, hb, hp⟩ := hrel
        have HB := Lib.hid hb
        have HP := Lib.hid hp
        obtain ⟨_, t0, t1, t2⟩ := hp
        clear hb
        rcases (show k = 0 ∨ k = 1 by omega) with rfl | rfl
        · go_wp2_with fail
          refine (H0.out _ HB.out).mono ?_
          rintro e w5 ⟨rfl, hb⟩
          have HB := Lib.hid (HB.out.trans (hb.mono HB.out.size))
          have HP := Lib.hid (HP.out.below hb)
          clear hb t0 t1 t2
          go_wp2_with fail
          go_roundw
          case rel => exact ⟨1, by omega, by go_num, HB.out, HP.out⟩
          case measure => simp [intOf]
        · go_wp2_with fail
          refine (H1.out _ HB.out).mono ?_
          rintro e w5 ⟨rfl, hb⟩
          have HB := Lib.hid (HB.out.trans (hb.mono HB.out.size))
          clear hb t0 t1 t2
          go_wp2_with fail
          go_ret
          exact ⟨rfl, HB.out⟩
    · have d1 : (n1 == 0) = false := by simpa using fun e => m1 (z1.1 e)
      have e : majV t y0 y1 = -1 := by unfold majV; rw [if_neg m0, if_neg m1]
      rw [e]
      clear e z0 z1 m0 m1
      go_enter Try.func29, Try.ntmps29
      go_wp2_with fail
      go_loopw [4] (fun i wr => ∃ k : Nat, k ≤ 2 ∧ i = .int .i64 k ∧ Below w.heap.size w wr ∧ PoAt wr w.heap.size p1 p2 pn1 pc1 pn2 pc2 pp) (fun i _ => 2 - (intOf i).toNat)
      case atStart => exact ⟨0, by omega, rfl, HB.out, HP.out⟩
      case round =>
        clear HB HP
        obtain ⟨k, hk, rfl, hb, hp⟩ := hrel
        have HB := Lib.hid hb
        have HP := Lib.hid hp
        obtain ⟨_, t0, t1, t2⟩ := hp
        clear hb
        rcases (show k = 0 ∨ k = 1 ∨ k = 2 by omega) with rfl | rfl | rfl
        · go_wp2_with fail
          refine (H0.out _ HB.out).mono ?_
          rintro e w5 ⟨rfl, hb⟩
          have HB := Lib.hid (HB.out.trans (hb.mono HB.out.size))
          have HP := Lib.hid (HP.out.below hb)
          clear hb t0 t1 t2
          go_wp2_with fail
          go_roundw
          case rel => exact ⟨1, by omega, by go_num, HB.out, HP.out⟩
          case measure => simp [intOf]
        · go_wp2_with fail
          refine (H1.out _ HB.out).mono ?_
          rintro e w5 ⟨rfl, hb⟩
          have HB := Lib.hid (HB.out.trans (hb.mono HB.out.size))
          have HP := Lib.hid (HP.out.below hb)
          clear hb t0 t1 t2
          go_wp2_with fail
          go_roundw
          case rel => exact ⟨2, by omega, by go_num, HB.out, HP.out⟩
          case measure => simp [intOf]
        · clear t0 t1 t2
          go_wp2_with fail
          go_ret
          exact ⟨rfl, HB.out⟩
theorem specMaj_any (p s c l : Int) (st sk re fe ag : Bool) (p1 p2 : Option Addr) (pn1 pc1 pn2 pc2 : Nat) (pp : Int) (xs ys : List Int) (w : World) (h : PosR w p1 p2 pn1 pn2 xs ys) (k : Bool) (hk : okP (okR p s c l st ag) p pn1 pn2 pp xs ys = k) :
    Calls Try.prog 13 #[.agg #[.int .i64 p, .int .i64 s, .bool st, .bool sk, .bool re, .bool fe, .bool ag, .int .i64 c, .int .i64 l], .agg #[.slice p1 pn1 pc1, .slice p2 pn2 pc2, .int .i64 pp]] w (Ret2 (majA k xs ys) (onC k) w) := by
  have H := Lib.hid h
  have HS := Lib.hid (rp_new p s c l st sk re fe ag p1 p2 pn1 pc1 pn2 pc2 pp w 25 28)
  have Hk := Lib.hid hk
  clear h hk
  cases k
  · go_enter Try.func13, Try.ntmps13
    go_wp2_with fail
    refine (l04Ok_at p s c l st sk re fe ag p1 p2 pn1 pc1 pn2 pc2 pp xs ys _ _ _ HS.out.1 HS.out.2.1 (H.out.below HS.out.2.2) _ Hk.out).mono ?_
    rintro e u ⟨rfl, m, rfl⟩
    have HB := Lib.hid (HS.out.drewN m).2.2
    go_wp2_with fail
    go_ret2
    exact ⟨rfl, HB.out⟩
  · obtain ⟨y0, y1, rfl, rfl, hs, -⟩ := ok9 Hk.out H.out.l2
    have Hs := Lib.hid hs
    clear hs
    have e : majA true xs [y0, y1] = majV (tot xs + (y0 + y1)) y0 y1 := by show majV (tot xs + tot [y0, y1]) y0 y1 = _; rw [tot2]
    rw [e]
    clear e
    go_enter Try.func13, Try.ntmps13
    go_wp2_with fail
    refine (l04Ok_at p s c l st sk re fe ag p1 p2 pn1 pc1 2 pc2 pp xs [y0, y1] _ _ _ HS.out.1 HS.out.2.1 (H.out.below HS.out.2.2) _ Hk.out).mono ?_
    rintro e u ⟨rfl, m, hm⟩
    have HS := Lib.hid (rp_eq hm (HS.out.drewN m))
    clear hm
    go_wp2_with fail
    refine (l09Maj_any p1 p2 pn1 pc1 2 pc2 pp xs y0 y1 _ _ HS.out.2.1 (H.out.below HS.out.2.2) Hs.out).mono ?_
    rintro e u ⟨rfl, m, hm⟩
    have HS := Lib.hid (rp_eq hm (HS.out.drewN m))
    clear hm
    go_wp2_with fail
    go_ret2
    exact ⟨rfl, HS.out.2.2⟩
theorem implMaj_any (p s c l : Int) (st sk re fe ag : Bool) (p1 p2 : Option Addr) (pn1 pc1 pn2 pc2 : Nat) (pp : Int) (xs ys : List Int) (w : World) (h : PosR w p1 p2 pn1 pn2 xs ys) (k : Bool) (hk : okP (okR p s c l st ag) p pn1 pn2 pp xs ys = k) :
    Calls Try.prog 12 #[.agg #[.int .i64 p, .int .i64 s, .bool st, .bool sk, .bool re, .bool fe, .bool ag, .int .i64 c, .int .i64 l], .agg #[.slice p1 pn1 pc1, .slice p2 pn2 pc2, .int .i64 pp]] w (Ret2 (majA k xs ys) (onC k) w) := by
  have H := Lib.hid h
  have HS := Lib.hid (rp_new p s c l st sk re fe ag p1 p2 pn1 pc1 pn2 pc2 pp w 25 28)
  have Hk := Lib.hid hk
  clear h hk
  cases k
  · go_enter Try.func12, Try.ntmps12
    go_wp2_with fail
    refine (implValid_b p s c l st sk re fe ag p1 p2 pn1 pc1 pn2 pc2 pp xs ys _ (H.out.below HS.out.2.2) _ Hk.out).mono ?_
    rintro e u ⟨rfl, hb⟩
    have HB := Lib.hid (HS.out.below hb).2.2
    clear hb
    go_wp2_with fail
    go_ret2
    exact ⟨rfl, HB.out⟩
  · obtain ⟨y0, y1, rfl, rfl, hs, -⟩ := ok9 Hk.out H.out.l2
    have Hs := Lib.hid hs
    clear hs
    have e : majA true xs [y0, y1] = majV (tot xs + (y0 + y1)) y0 y1 := by show majV (tot xs + tot [y0, y1]) y0 y1 = _; rw [tot2]
    rw [e]
    clear e
    go_enter Try.func12, Try.ntmps12
    go_wp2_with fail
    refine (implValid_b p s c l st sk re fe ag p1 p2 pn1 pc1 2 pc2 pp xs [y0, y1] _ (H.out.below HS.out.2.2) _ Hk.out).mono ?_
    rintro e u ⟨rfl, hb⟩
    have HS := Lib.hid (HS.out.below hb)
    clear hb
    obtain ⟨_, t0, t1, t2⟩ := HS.out.2.1
    go_wp2_with fail
    refine (majority_any p1 p2 pn1 pc1 2 pc2 pp xs y0 y1 _ (H.out.below HS.out.2.2) Hs.out).mono ?_
    rintro e u ⟨rfl, hb⟩
    have HS := Lib.hid (HS.out.below hb)
    clear hb t0 t1 t2
    go_wp2_with fail
    go_ret2
    exact ⟨rfl, HS.out.2.2⟩
theorem max_any (t y : Int) (w : World) : Calls Try.prog 27 #[.int .i64 0, .int .i64 (t / 2 + 1 - y)] w fun e w' => e = .returned (.int .i64 (needV t y)) ∧ w = w' := by
  unfold needV
  generalize t / 2 + 1 - y = v
  by_cases h : v < 0
  · rw [if_pos h]
    go_enter Try.func27, Try.ntmps27
    go_wp2
    go_ret
    exact ⟨rfl, rfl⟩
  · rw [if_neg h]
    go_enter Try.func27, Try.ntmps27
    go_wp2
    go_ret
    exact ⟨rfl, rfl⟩
set_option maxHeartbeats 1000000 in
theorem specNed_any (p s c l : Int) (st sk re fe ag : Bool) (p1 p2 : Option Addr) (pn1 pc1 pn2 pc2 : Nat) (pp : Int) (xs ys : List Int) (player : Int) (w : World) (h : PosR w p1 p2 pn1 pn2 xs ys) (k : Bool) (hk : okP (okR p s c l st ag) p pn1 pn2 pp xs ys = k) :
    Calls Try.prog 11 #[.agg #[.int .i64 p, .int .i64 s, .bool st, .bool sk, .bool re, .bool fe, .bool ag, .int .i64 c, .int .i64 l], .agg #[.slice p1 pn1 pc1, .slice p2 pn2 pc2, .int .i64 pp], .int .i64 player] w (Ret2 (nedA k xs ys player) (cdP k (isPl player)) w) := by
  have H := Lib.hid h
  have HS := Lib.hid (rp_new p s c l st sk re fe ag p1 p2 pn1 pc1 pn2 pc2 pp w 25 28)
  have Hk := Lib.hid hk
  clear h hk
  cases k
  · go_enter Try.func11, Try.ntmps11
    go_wp2_with fail
    refine (l04Ok_at p s c l st sk re fe ag p1 p2 pn1 pc1 pn2 pc2 pp xs ys _ _ _ HS.out.1 HS.out.2.1 (H.out.below HS.out.2.2) _ Hk.out).mono ?_
    rintro e u ⟨rfl, m, rfl⟩
    have HB := Lib.hid (HS.out.drewN m).2.2
    go_wp2_with fail
    go_ret2
    exact ⟨rfl, HB.out⟩
  · obtain ⟨y0, y1, rfl, rfl, hs, r0, r1, r2, r3⟩ := ok9 Hk.out H.out.l2
    have Hs := Lib.hid hs
    clear hs
    rcases hj : isPl player with _ | _
    · have Hj : Hid ((decide (0 ≤ player) && decide (player ≤ 1)) = false) := Lib.hid hj
      have e : nedA true xs [y0, y1] player = 0 := by unfold nedA; rw [hj]; rfl
      rw [e]
      clear hj e r0 r1 r2 r3
      go_enter Try.func11, Try.ntmps11
      go_wp2_with fail
      refine (l04Ok_at p s c l st sk re fe ag p1 p2 pn1 pc1 2 pc2 pp xs [y0, y1] _ _ _ HS.out.1 HS.out.2.1 (H.out.below HS.out.2.2) _ Hk.out).mono ?_
      rintro e u ⟨rfl, m, hm⟩
      have HS := Lib.hid (rp_eq hm (HS.out.drewN m))
      clear hm
      go_wp2_with fail
      refine (in_b player 0 1 _ Hj.out _).mono ?_
      rintro e u2 ⟨rfl, rfl⟩
      go_wp2_with fail
      go_ret2
      exact ⟨rfl, HS.out.2.2⟩
    · have Hj : Hid ((decide (0 ≤ player) && decide (player ≤ 1)) = true) := Lib.hid hj
      have e : nedA true xs [y0, y1] player = needV (tot xs + (y0 + y1)) ([y0, y1].getD player.toNat 0) := by unfold nedA; rw [hj, tot2]; rfl
      have HA : Hid (∀ u, RpAt w p s c l st sk re fe ag p1 p2 pn1 pc1 2 pc2 pp u → ∀ q, Calls Try.prog 28 #[.pointer (some ⟨w.heap.size + 1, 0, none⟩)] (u.drewN q) (Still (.int .i64 (tot xs + (y0 + y1))) (u.drewN q))) := Lib.hid (fun u hu q => by have := l09All_any p1 p2 pn1 pc1 2 pc2 pp xs [y0, y1] (w.heap.size + 1) (u.drewN q) (hu.drewN q).2.1 (H.out.below (hu.drewN q).2.2) Hs.out; rwa [tot2] at this)
      rw [e]
      clear e
      have b0 : y0 ≤ 96 := by omega
      have b1 : y1 ≤ 96 := by omega
      have b2 : 0 ≤ tot xs + (y0 + y1) := by omega
      generalize tot xs + (y0 + y1) = t at *
      have hpl : player = 0 ∨ player = 1 := by
        unfold isPl at hj
        simp only [Bool.and_eq_true, decide_eq_true_eq] at hj
        omega
      clear hj Hs
      rcases hpl with rfl | rfl
      · obtain ⟨v, hv⟩ : ∃ v, needV t y0 = v := ⟨_, rfl⟩
        have e : needV t ([y0, y1].getD (0 : Int).toNat 0) = v := hv
        rw [e]
        have HV := Lib.hid hv
        clear e hv
        have HM : Hid (∀ u, Calls Try.prog 27 #[.int .i64 0, .int .i64 (t / 2 + 1 - y0)] u fun e w' => e = .returned (.int .i64 v) ∧ u = w') := Lib.hid (fun u => by rw [← HV.out]; exact max_any t y0 u)
        go_enter Try.func11, Try.ntmps11
        go_wp2_with fail
        refine (l04Ok_at p s c l st sk re fe ag p1 p2 pn1 pc1 2 pc2 pp xs [y0, y1] _ _ _ HS.out.1 HS.out.2.1 (H.out.below HS.out.2.2) _ Hk.out).mono ?_
        rintro e u ⟨rfl, m, hm⟩
        have HS := Lib.hid (rp_eq hm (HS.out.drewN m))
        clear hm
        go_wp2_with fail
        refine (in_b 0 0 1 _ Hj.out _).mono ?_
        rintro e u2 ⟨rfl, rfl⟩
        obtain ⟨g, o, ha, hg, z0, z1⟩ := row_two (H.out.below HS.out.2.2).r2
        subst ha
        obtain ⟨_, t0, t1, t2⟩ := HS.out.2.1
        have HAu := Lib.hid (HA.out u HS.out)
        go_wp2_with fail
        go_quiet ((first | (go_at_call 28; with_reducible exact quiet_s (HAu.out _) ⟨_, rfl⟩) | (go_at_call 27; with_reducible exact quiet_w (HM.out _) ⟨_, rfl⟩)))
        go_wp2_with fail
        go_ret2
        exact ⟨rfl, by first | exact HS.out.2.2 | exact below_dn HS.out.2.2 _ | exact HS.out.2.2.drew⟩
      · obtain ⟨v, hv⟩ : ∃ v, needV t y1 = v := ⟨_, rfl⟩
        have e : needV t ([y0, y1].getD (1 : Int).toNat 0) = v := hv
        rw [e]
        have HV := Lib.hid hv
        clear e hv
        have HM : Hid (∀ u, Calls Try.prog 27 #[.int .i64 0, .int .i64 (t / 2 + 1 - y1)] u fun e w' => e = .returned (.int .i64 v) ∧ u = w') := Lib.hid (fun u => by rw [← HV.out]; exact max_any t y1 u)
        go_enter Try.func11, Try.ntmps11
        go_wp2_with fail
        refine (l04Ok_at p s c l st sk re fe ag p1 p2 pn1 pc1 2 pc2 pp xs [y0, y1] _ _ _ HS.out.1 HS.out.2.1 (H.out.below HS.out.2.2) _ Hk.out).mono ?_
        rintro e u ⟨rfl, m, hm⟩
        have HS := Lib.hid (rp_eq hm (HS.out.drewN m))
        clear hm
        go_wp2_with fail
        refine (in_b 1 0 1 _ Hj.out _).mono ?_
        rintro e u2 ⟨rfl, rfl⟩
        obtain ⟨g, o, ha, hg, z0, z1⟩ := row_two (H.out.below HS.out.2.2).r2
        subst ha
        obtain ⟨_, t0, t1, t2⟩ := HS.out.2.1
        have HAu := Lib.hid (HA.out u HS.out)
        go_wp2_with fail
        go_quiet ((first | (go_at_call 28; with_reducible exact quiet_s (HAu.out _) ⟨_, rfl⟩) | (go_at_call 27; with_reducible exact quiet_w (HM.out _) ⟨_, rfl⟩)))
        go_wp2_with fail
        go_ret2
        exact ⟨rfl, by first | exact HS.out.2.2 | exact below_dn HS.out.2.2 _ | exact HS.out.2.2.drew⟩
set_option maxHeartbeats 1000000 in
theorem implNed_any (p s c l : Int) (st sk re fe ag : Bool) (p1 p2 : Option Addr) (pn1 pc1 pn2 pc2 : Nat) (pp : Int) (xs ys : List Int) (player : Int) (w : World) (h : PosR w p1 p2 pn1 pn2 xs ys) (k : Bool) (hk : okP (okR p s c l st ag) p pn1 pn2 pp xs ys = k) :
    Calls Try.prog 10 #[.agg #[.int .i64 p, .int .i64 s, .bool st, .bool sk, .bool re, .bool fe, .bool ag, .int .i64 c, .int .i64 l], .agg #[.slice p1 pn1 pc1, .slice p2 pn2 pc2, .int .i64 pp], .int .i64 player] w (Ret2 (nedA k xs ys player) (cdP k (isPl player)) w) := by
  have H := Lib.hid h
  have HS := Lib.hid (rp_new p s c l st sk re fe ag p1 p2 pn1 pc1 pn2 pc2 pp w 25 28)
  have Hk := Lib.hid hk
  clear h hk
  cases k
  · go_enter Try.func10, Try.ntmps10
    go_wp2_with fail
    refine (implValid_b p s c l st sk re fe ag p1 p2 pn1 pc1 pn2 pc2 pp xs ys _ (H.out.below HS.out.2.2) _ Hk.out).mono ?_
    rintro e u ⟨rfl, hb⟩
    have HB := Lib.hid (HS.out.below hb).2.2
    clear hb
    go_wp2_with fail
    go_ret2
    exact ⟨rfl, HB.out⟩
  · obtain ⟨y0, y1, rfl, rfl, hs, r0, r1, r2, r3⟩ := ok9 Hk.out H.out.l2
    have Hs := Lib.hid hs
    clear hs
    rcases hj : isPl player with _ | _
    · have Hj : Hid ((decide (0 ≤ player) && decide (player ≤ 1)) = false) := Lib.hid hj
      have e : nedA true xs [y0, y1] player = 0 := by unfold nedA; rw [hj]; rfl
      rw [e]
      clear hj e
      go_enter Try.func10, Try.ntmps10
      go_wp2_with fail
      refine (implValid_b p s c l st sk re fe ag p1 p2 pn1 pc1 2 pc2 pp xs [y0, y1] _ (H.out.below HS.out.2.2) _ Hk.out).mono ?_
      rintro e u ⟨rfl, hb⟩
      have HS := Lib.hid (HS.out.below hb)
      clear hb
      go_wp2_with fail
      refine (isPlayer_b player _ Hj.out _).mono ?_
      rintro e u2 ⟨rfl, rfl⟩
      go_wp2_with fail
      go_ret2
      exact ⟨rfl, HS.out.2.2⟩
    · have Hj : Hid ((decide (0 ≤ player) && decide (player ≤ 1)) = true) := Lib.hid hj
      have hpl : player = 0 ∨ player = 1 := by
        unfold isPl at hj
        simp only [Bool.and_eq_true, decide_eq_true_eq] at hj
        omega
      have e : nedA true xs [y0, y1] player = needV (tot xs + (y0 + y1)) (if player = 0 then y0 else y1) := by
        unfold nedA; rw [hj, tot2]
        rcases hpl with rfl | rfl <;> rfl
      rw [e]
      have HPl := Lib.hid hpl
      generalize hv : needV (tot xs + (y0 + y1)) (if player = 0 then y0 else y1) = v
      have Hv := Lib.hid hv
      clear hj e hpl hv
      go_enter Try.func10, Try.ntmps10
      go_wp2_with fail
      refine (implValid_b p s c l st sk re fe ag p1 p2 pn1 pc1 2 pc2 pp xs [y0, y1] _ (H.out.below HS.out.2.2) _ Hk.out).mono ?_
      rintro e u ⟨rfl, hb⟩
      have HS := Lib.hid (HS.out.below hb)
      clear hb
      obtain ⟨_, t0, t1, t2⟩ := HS.out.2.1
      go_wp2_with fail
      refine (isPlayer_b player _ Hj.out _).mono ?_
      rintro e u2 ⟨rfl, rfl⟩
      go_wp2_with fail
      refine (needed_any p1 p2 pn1 pc1 2 pc2 pp xs y0 y1 player _ (H.out.below HS.out.2.2) Hs.out HPl.out).mono ?_
      rintro e u ⟨rfl, hb⟩
      rw [Hv.out]
      have HS := Lib.hid (HS.out.below hb)
      clear hb t0 t1 t2
      go_wp2_with fail
      go_ret2
      exact ⟨rfl, HS.out.2.2⟩
theorem specLed_any (p s c l : Int) (st sk re fe ag : Bool) (p1 p2 : Option Addr) (pn1 pc1 pn2 pc2 : Nat) (pp : Int) (xs ys : List Int) (w : World) (h : PosR w p1 p2 pn1 pn2 xs ys) (k : Bool) (hk : okP (okR p s c l st ag) p pn1 pn2 pp xs ys = k) :
    Calls Try.prog 15 #[.agg #[.int .i64 p, .int .i64 s, .bool st, .bool sk, .bool re, .bool fe, .bool ag, .int .i64 c, .int .i64 l], .agg #[.slice p1 pn1 pc1, .slice p2 pn2 pc2, .int .i64 pp]] w (Ret2 (ledA k ys) (onC k) w) := by
  have H := Lib.hid h
  have HS := Lib.hid (rp_new p s c l st sk re fe ag p1 p2 pn1 pc1 pn2 pc2 pp w 25 28)
  have Hk := Lib.hid hk
  clear h hk
  cases k
  · go_enter Try.func15, Try.ntmps15
    go_wp2_with fail
    refine (l04Ok_at p s c l st sk re fe ag p1 p2 pn1 pc1 pn2 pc2 pp xs ys _ _ _ HS.out.1 HS.out.2.1 (H.out.below HS.out.2.2) _ Hk.out).mono ?_
    rintro e u ⟨rfl, m, hm⟩
    have HS := Lib.hid (rp_eq hm (HS.out.drewN m));clear hm
    go_wp2_with fail
    go_ret2
    exact ⟨rfl, HS.out.2.2⟩
  · obtain ⟨y0, y1, rfl, rfl, hs, r0, r1, r2, r3⟩ := ok9 Hk.out H.out.l2
    have e : ledA true [y0, y1] = y0 - y1 := rfl
    rw [e]
    clear hs e
    have hw1 : IntKind.i64.wrap (y0 - y1) = y0 - y1 := IntWalk.i64_in _ ⟨by omega, by omega⟩
    go_enter Try.func15, Try.ntmps15
    go_wp2_with fail
    refine (l04Ok_at p s c l st sk re fe ag p1 p2 pn1 pc1 2 pc2 pp xs [y0, y1] _ _ _ HS.out.1 HS.out.2.1 (H.out.below HS.out.2.2) _ Hk.out).mono ?_
    rintro e u ⟨rfl, m, hm⟩
    have HS := Lib.hid (rp_eq hm (HS.out.drewN m));clear hm
    obtain ⟨g, o, ha, hg, z0, z1⟩ := row_two (H.out.below HS.out.2.2).r2
    subst ha
    obtain ⟨_, t0, t1, t2⟩ := HS.out.2.1
    go_wp2_with fail
    go_quiet (fail)
    go_wp2_with fail
    go_ret2
    exact ⟨rfl, by first | exact HS.out.2.2 | exact below_dn HS.out.2.2 _ | exact HS.out.2.2.drew⟩
theorem implLed_any (p s c l : Int) (st sk re fe ag : Bool) (p1 p2 : Option Addr) (pn1 pc1 pn2 pc2 : Nat) (pp : Int) (xs ys : List Int) (w : World) (h : PosR w p1 p2 pn1 pn2 xs ys) (k : Bool) (hk : okP (okR p s c l st ag) p pn1 pn2 pp xs ys = k) :
    Calls Try.prog 14 #[.agg #[.int .i64 p, .int .i64 s, .bool st, .bool sk, .bool re, .bool fe, .bool ag, .int .i64 c, .int .i64 l], .agg #[.slice p1 pn1 pc1, .slice p2 pn2 pc2, .int .i64 pp]] w (Ret2 (ledA k ys) (onC k) w) := by
  have H := Lib.hid h
  have HS := Lib.hid (rp_new p s c l st sk re fe ag p1 p2 pn1 pc1 pn2 pc2 pp w 25 28)
  have Hk := Lib.hid hk
  clear h hk
  cases k
  · go_enter Try.func14, Try.ntmps14
    go_wp2_with fail
    refine (implValid_b p s c l st sk re fe ag p1 p2 pn1 pc1 pn2 pc2 pp xs ys _ (H.out.below HS.out.2.2) _ Hk.out).mono ?_
    rintro e u ⟨rfl, hb⟩
    have HS := Lib.hid (HS.out.below hb);clear hb
    go_wp2_with fail
    go_ret2
    exact ⟨rfl, HS.out.2.2⟩
  · obtain ⟨y0, y1, rfl, rfl, hs, r0, r1, r2, r3⟩ := ok9 Hk.out H.out.l2
    have e : ledA true [y0, y1] = y0 - y1 := rfl
    rw [e]
    clear hs e
    have hw1 : IntKind.i64.wrap (y0 - y1) = y0 - y1 := IntWalk.i64_in _ ⟨by omega, by omega⟩
    go_enter Try.func14, Try.ntmps14
    go_wp2_with fail
    refine (implValid_b p s c l st sk re fe ag p1 p2 pn1 pc1 2 pc2 pp xs [y0, y1] _ (H.out.below HS.out.2.2) _ Hk.out).mono ?_
    rintro e u ⟨rfl, hb⟩
    have HS := Lib.hid (HS.out.below hb);clear hb
    obtain ⟨g, o, ha, hg, z0, z1⟩ := row_two (H.out.below HS.out.2.2).r2
    subst ha
    obtain ⟨_, t0, t1, t2⟩ := HS.out.2.1
    go_wp2_with fail
    go_quiet (fail)
    go_wp2_with fail
    go_ret2
    exact ⟨rfl, by first | exact HS.out.2.2 | exact below_dn HS.out.2.2 _ | exact HS.out.2.2.drew⟩
end Go.Proofs.Ytgogjjkecbgbiaa
