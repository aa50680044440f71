/- FnRanks: a distribution is restored from its rank, and the next one has the next rank: for every input. No conditions. -/
import Derived.Test.YtcgckpnkmmjljaaA2S
import Derived.Test.YtcgckpnkmmjljaaNx2
import Derived.Deep.RegionHeld3
namespace Go.Proofs.Ytcgckpnkmmjljaa
open Go.Joins Go.ChangeShapes Go.WideShapes Go.ChangeAt Go.RowKit Go.Deep
set_option linter.unusedVariables false

/-- A call that leaves the world alone, behind draws. -/
theorem quiet_add {P : Program} {f : FuncId} {args : Array Value} {w : World} {v : Value} (h : ∀ q, Calls P f args (w.drewN q) fun e w' => e = .returned v ∧ w.drewN q = w') (m x : Nat) :
    Calls P f args (w.drewN (m + x)) fun e w'' => e = .returned v ∧ ∃ n, w'' = w.drewN (m + n) := (h (m + x)).mono fun _ _ ⟨he, hm⟩ => ⟨he, x, hm.symm⟩
/-- What is known of the drawn list in memory. -/
structure Xs (w : World) (bx cx P : Nat) (ys : List Nat) (u : World) : Prop where
  row : OutN u (w.heap.size + 1) (some ⟨bx, 0, none⟩) bx (vals ys)
  be : Below w.heap.size w u
theorem Xs.below {w u v : World} {bx cx P : Nat} {ys : List Nat} (h : Xs w bx cx P ys u) (k : Below u.heap.size u v) : Xs w bx cx P ys v := ⟨h.row.below k, h.be.trans (k.mono h.be.size)⟩
theorem a2draw (a : Option Addr) (len cap : Nat) (w : World) (hB : Bytes w a len) :
    Calls Try.prog 14 #[.slice a len cap] w fun e w' => ∃ ys P bx cx, DisOk ys P ∧ P ≤ 6 ∧ e = .returned (.slice (some ⟨bx, 0, none⟩) (P + 1) cx) ∧ P + 1 ≤ cx ∧ Xs w bx cx P ys w' := by
  refine (a2seeds_any a len cap w hB).mono ?_
  rintro e w1 ⟨ys, v, hd, h0, rfl, hown, hb⟩
  have hD := hd.ok h0
  obtain ⟨P, hP⟩ : ∃ P, ys.length = P + 1 := ⟨ys.length - 1, by omega⟩
  have h7 := hd.n7
  rw [show ys.length - 1 = P by omega] at hD
  obtain ⟨c, b, rfl, ho, hl, hc⟩ := outN_own hown (by rw [vals_len]) (by omega) (by intro e; have := vals_len ys; rw [e] at this; simp at this; omega)
  rw [hP] at hc ⊢
  exact ⟨ys, P, b, c, hD, by omega, rfl, hc, ho, hb⟩
theorem ranks_last {ys : List Nat} {P : Nat} (hD : DisOk ys P) (h : ∃ a, ys = a :: List.replicate (ys.length - 1) 0) : (rk ys : Int) = (cnt (sm ys) (P + 1) : Int) - 1 ∧ byC (vals ys) 1 = 3 := by
  obtain ⟨a, e⟩ := h
  rw [hD.len, Nat.add_sub_cancel] at e
  subst e
  have h1 := rk_last a P
  have hs : sm (a :: List.replicate P 0) = a := by show a + sm _ = a; rw [sm_zeros]; rfl
  rw [hs]
  exact ⟨by omega, (next_last hD).2⟩
set_option maxHeartbeats 8000000 in
set_option maxRecDepth 100000 in
theorem walk_FnRanks {w : World} (a1 : Option Addr) (l1 c1 : Nat) (hB : Bytes w a1 l1) (a2 : Option Addr) (l2 c2 : Nat) (hB2 : Bytes w a2 l2) : Calls Try.prog 3 #[.slice a1 l1 c1, .slice a2 l2 c2] w fun e w' => e = .returned (.bool true) ∧ Below w.heap.size w w' := by
  have hl1 := hB.1
  have hl2 := hB2.1
  rcases hlong : (decide (3000 < l1) || decide (3000 < l2)) with _ | _
  · have HL := Lib.hid (fun u : World => long_any a1 a2 l1 c1 l2 c2 false hlong hl1 hl2 u)
    have HBy := Lib.hid hB
    clear hlong hB hB2
    go_enter Try.func3, Try.ntmps3
    go_wp2_with fail
    refine (HL.out _).mono ?_
    rintro e w0 ⟨rfl, rfl⟩
    go_wp2_with fail
    refine (a2draw a1 l1 c1 w HBy.out).mono ?_
    rintro e w1 ⟨ys, P, bx, cx, hD, hP6, rfl, hcx, hxs⟩
    have HX := Lib.hid hxs
    have HD := Lib.hid hD
    have hs96 := hD.s96
    have hn : (vals ys).length = P + 1 := by rw [vals_len, hD.len]
    have HN := Lib.hid hn
    have hrl := rk_lt ys
    rw [hD.len] at hrl
    have hfit := hD.fit
    have HRk : Hid (∀ u, Xs w bx cx P ys u → Calls Try.prog 15 #[.slice (some ⟨bx, 0, none⟩) (P + 1) cx] u fun e w' => e = .returned (.tuple #[.int .i64 (rk ys : Int), .int .i64 0]) ∧ Below u.heap.size u w') := Lib.hid (fun u hu => by
      have := implRk_any (some ⟨bx, 0, none⟩) cx (P + 1) (vals ys) u hn hu.row.row
      unfold RkP at this
      rwa [(rk_yes hD).1, (rk_yes hD).2] at this)
    have HSm : Hid (∀ u, Xs w bx cx P ys u → Calls Try.prog 17 #[.slice (some ⟨bx, 0, none⟩) (P + 1) cx] u fun e w' => e = .returned (.int .i64 (sm ys : Int)) ∧ u = w') := Lib.hid (fun u hu => a2Sum_any _ cx (P + 1) ys u hD.len hu.row.row (by omega))
    have HCn : Hid (∀ (u : World) (p : Int), p = (P : Int) + 1 → Calls Try.prog 16 #[.int .i64 (sm ys : Int), .int .i64 p] u fun e w' => e = .returned (.tuple #[.int .i64 (cnt (sm ys) (P + 1) : Int), .int .i64 0]) ∧ Below u.heap.size u w') := Lib.hid (by
      rintro u p rfl
      have := implCnt_any (sm ys : Int) ((P : Int) + 1) u
      unfold CnP at this
      obtain ⟨e1, e2⟩ := cn_fit hD.s96 hD.p15 hD.fit
      rwa [e1, e2] at this)
    have HUn : Hid (∀ (u : World) (p : Int), p = (P : Int) + 1 → Calls Try.prog 18 #[.int .i64 (sm ys : Int), .int .i64 p, .int .i64 (rk ys : Int)] u (RwP (vals ys) (P + 1) 0 u)) := Lib.hid (by
      rintro u p rfl
      have := implUn_yes (sm ys) P (rk ys) u hD.s96 hD.p15 hD.fit (by rw [← hD.len]; exact rk_lt ys)
      rwa [unr_rk P ys hD.len] at this)
    have HNx : Hid (∀ u, Xs w bx cx P ys u → Calls Try.prog 20 #[.slice (some ⟨bx, 0, none⟩) (P + 1) cx] u (RwP (byL (vals ys) 1) (byL (vals ys) 1).length (byC (vals ys) 1) u)) := Lib.hid (fun u hu => implNx_any _ cx (P + 1) _ u hn hu.row.row hcx)
    clear hxs hD hn
    generalize hM : cnt (sm ys) (P + 1) = M at *
    generalize hR : rk ys = R at *
    have HM := Lib.hid hM
    have HR := Lib.hid hR
    clear hM hR
    go_wp2_with fail
    refine (HRk.out _ HX.out).mono ?_
    rintro e w2 ⟨rfl, b2⟩
    have HX := Lib.hid (HX.out.below b2)
    clear b2
    go_wp2_with fail
    refine (HSm.out _ HX.out).mono ?_
    rintro e w3 ⟨rfl, rfl⟩
    go_wp2_with fail
    refine (HCn.out _ _ (by omega)).mono ?_
    rintro e w4 ⟨rfl, b4⟩
    have HX := Lib.hid (HX.out.below b4)
    clear b4
    have q0 : ¬ ((R : Int) < 0) := by omega
    have q1 : ¬ ((M : Int) ≤ (R : Int)) := by omega
    go_wp2_with fail
    refine (HSm.out _ HX.out).mono ?_
    rintro e w5 ⟨rfl, rfl⟩
    go_wp2_with fail
    refine (HUn.out _ _ (by omega)).mono ?_
    rintro e w6 ⟨ab, cb, bb, rfl, ob, lb, b6⟩
    have HX := Lib.hid (HX.out.below b6)
    have OB := Lib.hid ob.row
    clear ob lb b6
    go_wp2_with fail
    refine (a2Num_any ab (some ⟨bx, 0, none⟩) cb cx (P + 1) (vals ys) _ HN.out OB.out HX.out.row.row).mono ?_
    rintro e w7 ⟨rfl, b7⟩
    have HX := Lib.hid (HX.out.below b7)
    clear b7
    rcases next_cases ys (by intro e; have := HD.out.len; rw [e] at this; cases this) with hlast | ⟨A, y, b, m, rfl⟩
    · obtain ⟨e1, e2⟩ := ranks_last HD.out hlast
      rw [HR.out, HM.out] at e1
      rw [e2] at HNx
      have q2 : ((R : Int) == (M : Int) - 1) = true := by simpa using e1
      have HQ := Lib.hid e1
      clear e1 e2 hlast
      generalize byL (vals ys) 1 = L at *
      go_wp2_with fail
      refine (HNx.out _ HX.out).mono ?_
      rintro e w8 ⟨an, cn, bn, rfl, on, ln, b8⟩
      have HX := Lib.hid (HX.out.below b8)
      clear on ln b8
      go_wp2_with fail
      go_ret
      exact ⟨rfl, HX.out.be⟩
    · obtain ⟨zs, hzs⟩ : ∃ zs, zs = A ++ (y + 1) :: (List.replicate m 0 ++ [b]) := ⟨_, rfl⟩
      obtain ⟨ys, hys⟩ : ∃ ys, ys = A ++ y :: (b + 1) :: List.replicate m 0 := ⟨_, rfl⟩
      have HNy : Hid (∀ u, Xs w bx cx P ys u → Calls Try.prog 20 #[.slice (some ⟨bx, 0, none⟩) (P + 1) cx] u (NxP (vals zs) (P + 1) 0 u)) := Lib.hid (fun u hu => by
        rw [hzs]
        exact implNx_yes2 bx 0 cx y b m P A u HD.out (by rw [← hys]; exact hu.row.row) hcx)
      have hDz : DisOk zs P := by
        have hd := HD.out
        refine ⟨by rw [hzs, len_next, hd.len], hd.p15, by rw [hzs, sm_next]; exact hd.s96, by rw [hzs, sm_next]; exact hd.fit⟩
      have hsz : sm zs = sm ys := by rw [hzs, hys, sm_next]
      have hrz : rk zs = R + 1 := by rw [hzs, rk_next, HR.out]
      have hrM : R + 1 < M := by
        have := rk_lt zs
        rw [hDz.len, hsz, hys, HM.out, hrz] at this
        exact this
      have hby : byL (vals zs) (-1) = vals ys ∧ byC (vals zs) (-1) = 0 := by
        have h := hDz
        rw [hzs] at h ⊢
        rw [hys]
        exact last_is h
      have hal : A.length < P + 1 := by have := HD.out.len; simp at this; omega
      have hpre : ∀ k, k < A.length → ∃ z : Int, (vals ys)[k]? = some z ∧ (vals zs)[k]? = some z := by
        intro k hk
        rw [hys, hzs]
        refine ⟨((A[k]'hk : Nat) : Int), vals_at _ ?_, vals_at _ ?_⟩ <;> rw [List.getElem?_append_left hk, List.getElem?_eq_getElem hk]
      have hy1 : (vals ys)[A.length]? = some (y : Int) := by
        rw [hys]
        exact vals_at _ (by rw [List.getElem?_append_right (Nat.le_refl _)]; simp)
      have hy2 : (vals zs)[A.length]? = some ((y : Int) + 1) := by
        rw [hzs]
        exact vals_at (y := y + 1) _ (by rw [List.getElem?_append_right (Nat.le_refl _)]; simp)
      have hy96 : y ≤ 96 := by
        have h1 := HD.out.s96
        rw [sm_app] at h1
        have e : sm (y :: (b + 1) :: List.replicate m 0) = y + (b + 1 + sm (List.replicate m 0)) := rfl
        omega
      rw [← hys] at HX HD HN HSm
      have HSz : Hid (∀ (g c : Nat) (u : World), RowN u (some ⟨g, 0, none⟩) (vals zs) → Calls Try.prog 17 #[.slice (some ⟨g, 0, none⟩) (P + 1) c] u fun e w' => e = .returned (.int .i64 (sm ys : Int)) ∧ u = w') := Lib.hid (fun g c u hu => by
        have := a2Sum_any (some ⟨g, 0, none⟩) c (P + 1) zs u hDz.len hu (by rw [hsz]; have := HD.out.s96; omega)
        rwa [hsz] at this)
      have HRz : Hid (∀ (g c : Nat) (u : World), RowN u (some ⟨g, 0, none⟩) (vals zs) → Calls Try.prog 15 #[.slice (some ⟨g, 0, none⟩) (P + 1) c] u fun e w' => e = .returned (.tuple #[.int .i64 ((R : Int) + 1), .int .i64 0]) ∧ Below u.heap.size u w') := Lib.hid (fun g c u hu => by
        have := implRk_any (some ⟨g, 0, none⟩) c (P + 1) (vals zs) u (by rw [vals_len, hDz.len]) hu
        unfold RkP at this
        rw [(rk_yes hDz).1, (rk_yes hDz).2, hrz] at this
        exact this)
      have HLz : Hid (∀ (g c : Nat) (u : World), P + 1 ≤ c → RowN u (some ⟨g, 0, none⟩) (vals zs) → Calls Try.prog 21 #[.slice (some ⟨g, 0, none⟩) (P + 1) c] u (RwP (vals ys) (P + 1) 0 u)) := Lib.hid (fun g c u hc hu => by
        have := implLs_any (some ⟨g, 0, none⟩) c (P + 1) (vals zs) u (by rw [vals_len, hDz.len]) hu hc
        rw [hby.1, hby.2, vals_len, HD.out.len] at this
        exact this)
      rw [← hys]
      have q2 : ((R : Int) == (M : Int) - 1) = false := by rw [beq_eq_false_iff_ne]; omega
      have HPre := Lib.hid hpre
      have HY1 := Lib.hid hy1
      have HY2 := Lib.hid hy2
      clear HRk HNx HCn HUn hDz hsz hrz hrM hby hpre hy1 hy2 hzs hys HM HR HL
      generalize A.length = al at *
      go_wp2_with fail
      refine (HNy.out _ HX.out).mono ?_
      rintro e w8 ⟨G, C, rfl, on, hG, hC, b8⟩
      have HX := Lib.hid (HX.out.below b8)
      have ON := Lib.hid on.row
      clear on b8
      go_wp2_with fail
      refine (HRz.out _ _ _ ON.out).mono ?_
      rintro e w9 ⟨rfl, b9⟩
      have HX := Lib.hid (HX.out.below b9)
      have ON := Lib.hid (ON.out.below b9)
      clear b9
      go_wp2_with fail
      refine (HLz.out _ _ _ hC ON.out).mono ?_
      rintro e w10 ⟨aa, ca, ba, rfl, oa, la, b10⟩
      have HX := Lib.hid (HX.out.below b10)
      have ON := Lib.hid (ON.out.below b10)
      have OA := Lib.hid oa.row
      clear oa la b10
      go_wp2_with fail
      refine (a2Num_any aa (some ⟨bx, 0, none⟩) ca cx (P + 1) (vals ys) _ HN.out OA.out HX.out.row.row).mono ?_
      rintro e w11 ⟨rfl, b11⟩
      have HX := Lib.hid (HX.out.below b11)
      have ON := Lib.hid (ON.out.below b11)
      clear b11
      go_wp2_with fail
      have HXw := HX.out.row.row
      obtain ⟨gx, ox, ex, hgx, hcxs⟩ := HXw.2.resolve_left (by intro e; have := HN.out; rw [e] at this; cases this)
      cases ex
      obtain ⟨gn, on, en, hgn, hcns⟩ := ON.out.2.resolve_left (by intro e; have := HY2.out; rw [e] at this; cases this)
      cases en
      have HC1 := Lib.hid hcxs
      have HC2 := Lib.hid hcns
      clear hcxs hcns HXw
      go_loopw [18] (fun i wr => ∃ k m : Nat, k ≤ al ∧ i = .int .i64 k ∧ wr = w11.drewN m) (fun i _ => al - (intOf i).toNat)
      case atStart => exact ⟨0, 0, Nat.zero_le _, rfl, rfl⟩
      case round =>
        obtain ⟨k, mm, hk, rfl, rfl⟩ := hrel
        have q3 : (0 : Int) ≤ (k : Int) := by omega
        have q4 : (k : Int) < (P : Int) + 1 := by omega
        by_cases hlt : k < al
        · obtain ⟨z, hz1, hz2⟩ := HPre.out k hlt
          have y1 := HC1.out k z hz1
          have y2 := HC2.out k z hz2
          rw [Nat.zero_add] at y1 y2
          have hzz : (z == z) = true := by simp
          clear hz1 hz2
          go_wp2_with fail
          go_quiet (fail)
          go_wp2_with fail
          go_roundw
          case rel => exact ⟨k + 1, _, by omega, by go_num, rfl⟩
          case measure => simp [intOf]; omega
        · obtain rfl : k = al := by omega
          have y1 := HC1.out k _ HY1.out
          have y2 := HC2.out k _ HY2.out
          rw [Nat.zero_add] at y1 y2
          have hzz : ((y : Int) == (y : Int) + 1) = false := by rw [beq_eq_false_iff_ne]; omega
          have hgt : (y : Int) < (y : Int) + 1 := by omega
          have HS1 := Lib.hid (fun q => HSm.out (w11.drewN q) (HX.out.below (below_dn (Below.refl _ _) q)))
          have HS2 := Lib.hid (fun q => HSz.out G C (w11.drewN q) (ON.out.drewN q))
          go_wp2_with fail
          go_quiet (fail)
          go_wp2_with fail
          have hss : (((sm ys : Nat) : Int) == ((sm ys : Nat) : Int)) = true := by simp
          go_quiet ((first | (go_at_call 17; with_reducible exact quiet_add HS1.out _ _) | (go_at_call 17; with_reducible exact quiet_add HS2.out _ _)))
          go_wp2_with fail
          go_ret
          exact ⟨rfl, below_dn (below_dn (below_dn HX.out.be _) _) _⟩
  · have HL := Lib.hid (fun u : World => long_any a1 a2 l1 c1 l2 c2 true hlong hl1 hl2 u)
    clear hlong hB hB2
    go_enter Try.func3, Try.ntmps3
    go_wp2_with fail
    refine (HL.out _).mono ?_
    rintro e w0 ⟨rfl, rfl⟩
    go_wp2_with fail
    go_ret
    exact ⟨rfl, Below.refl _ _⟩
namespace fnRanks
set_option maxHeartbeats 2000000 in
set_option maxRecDepth 100000 in
theorem lifted (os : Os) (started : os.Started) (H : Type) (enc : TypeId × Value → H) :
    ReturnsInHanded {} Try.checked os 3 .any (Rows.fnRanksSpec.pre6 enc Try.prog Try.f3 Rows.fnRanksRow.domain false) (Rows.fnRanksSpec.post enc Try.prog Try.f3 false true false false) := by
  refine returnsInHanded_of_change (C := Try.checked) own started (by kernel_rfl) Try.func3
    (ChangeSpec.witness6 (enc := enc) (C := Try.checked) false ⟨#[], #[.slice none 0 0, .slice none 0 0], []⟩ 8 (by kernel_rfl) (by kernel_rfl) (by kernel_rfl) (by kernel_rfl)) ?_
  intro W base args ds gs before hval0 hW hcnd _
  have hval : ∀ (j : Nat) t v, Try.f3.params[j]? = some t → args[j]? = some v → Value.okWide Try.prog W .any base t v := hval0
  have hW' := hW
  obtain ⟨p, q, hA0, hV, rfl, hfz, hnd⟩ := hW
  have hA : DataW.TrodAll enc Try.prog W 0 (fun _ => true) true Try.f3.params.toList args.toList ds p := hA0
  rw [Try.params3] at hA hval
  obtain ⟨v0, vs0, d0, ds0, p0, q0, hargs, rfl, rfl, h0, r0⟩ := trodAll_cons hA
  obtain ⟨v1, vs1, d1, ds1, p1, q1, rfl, rfl, rfl, h1, r1⟩ := trodAll_cons r0
  obtain ⟨rfl, rfl, rfl⟩ := trodAll_nil r1
  obtain rfl : args = #[v0, v1] := by cases args; simp_all
  obtain ⟨rfl, rfl⟩ := trodVars_none hV
  have k0 := h0
  have lt0 : ∀ x ∈ p0, x.block < W.heap.size := by obtain ⟨m, hm⟩ := k0; exact DataW.trod_lt m _ _ _ hm
  obtain ⟨a0, len0, cap0, rfl, w0⟩ := open_bytes Try.underlying22 Try.underlying5 (by kernel_rfl) (hval 0 22 v0 rfl rfl) h0
  have k1 := h1
  have lt1 : ∀ x ∈ p1, x.block < W.heap.size := by obtain ⟨m, hm⟩ := k1; exact DataW.trod_lt m _ _ _ hm
  obtain ⟨a1, len1, cap1, rfl, w1⟩ := open_bytes Try.underlying22 Try.underlying5 (by kernel_rfl) (hval 1 22 v1 rfl rfl) h1
  clear hA0 hval0
  refine (walk_FnRanks a0 len0 cap0 w0 a1 len1 cap1 w1 (w := W)).mono fun e W' ⟨he, bel⟩ => ?_
  subst he
  exact ⟨_, rfl, _, _, _, [], _, [], hW', trodAll_mk1 (shut_bool Try.underlying4 _), (trodAll_cons_mk (Below.trod laidOut (by kernel_rfl) (of_decide_eq_true (by kernel_rfl)) k0 bel lt0) (trodAll_cons_mk (Below.trod laidOut (by kernel_rfl) (of_decide_eq_true (by kernel_rfl)) k1 bel lt1) trodAll_mk0)), rfl, bel.frame _, fun h => by cases h⟩

theorem proved : Rows.FnRanksSaid :=
  OpenClaim.holds_of_wide 3 Try.f3 rfl rfl rfl rfl rfl rfl rfl ⟨rfl, rfl, rfl, rfl, rfl⟩ rfl rfl rfl rfl rfl (by kernel_rfl) Try.func3 (by kernel_rfl)
    (of_decide_eq_true (by kernel_rfl)) (by unfold Func.isWrapper; first | (rw [if_pos (by decide +kernel)]; kernel_rfl) | (rw [if_neg (by decide +kernel)]; exact ⟨rfl, rfl⟩))
    (fun os started H enc _ => lifted os started H enc)
end fnRanks

end Go.Proofs.Ytcgckpnkmmjljaa
