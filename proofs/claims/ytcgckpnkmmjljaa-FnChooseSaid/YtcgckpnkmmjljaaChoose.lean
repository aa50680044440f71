/- FnChoose: the numbers of choices are those of the triangle, and all distributions are as many as told: for every input. No conditions. -/
import Derived.Test.YtcgckpnkmmjljaaAll
import Derived.Test.YtcgckpnkmmjljaaA2S
namespace Go.Proofs.Ytcgckpnkmmjljaa
open Go.Joins Go.ChangeShapes Go.WideShapes Go.ChangeAt Go.RowKit Go.Deep
set_option linter.unusedVariables false

theorem ch_pow : ∀ n k : Nat, ch n k ≤ 2 ^ n
  | n, 0 => by rw [ch_zero]; exact Nat.one_le_two_pow
  | 0, k + 1 => by show 0 ≤ _; omega
  | n + 1, k + 1 => by
    have h1 := ch_pow n k
    have h2 := ch_pow n (k + 1)
    rw [ch_succ, Nat.pow_succ]
    omega
theorem ch_40 {n k : Nat} (h : n ≤ 40) : ch n k ≤ 1000000000000000 := by
  have h1 := ch_pow n k
  have h2 : 2 ^ n ≤ 2 ^ 40 := Nat.pow_le_pow_right (by omega) h
  have h3 : (2 : Nat) ^ 40 = 1099511627776 := rfl
  omega
theorem cnt_55 {S P : Nat} (hS : S ≤ 5) (hP : P ≤ 4) : cnt S (P + 1) ≤ 3000 := by
  have h1 : cnt S (P + 1) ≤ cnt 5 5 := cnt_both hS (by omega)
  have h2 : cnt 5 5 = ch 9 4 := rfl
  have h3 := ch_pow 9 4
  have h4 : (2 : Nat) ^ 9 = 512 := rfl
  omega
def AtPC (n : Int) (w : World) (e : Ending) (w' : World) : Prop := ∃ v : Nat, (v : Int) < n ∧ e = .returned (.int .i64 (v : Int)) ∧ w = w'
theorem atC_0 (a : Option Addr) (len cap : Nat) (n : Int) (w : World) (hB : Bytes w a len) (hn : 1 ≤ n) (hn2 : n ≤ 1000000) :
    Calls Try.prog 22 #[.slice a len cap, .int .i64 0, .int .i64 n] w (AtPC n w) := by
  obtain ⟨hl, h⟩ := hB
  by_cases h0 : len ≤ 0
  · have g0 : (len : Int) ≤ 0 := by omega
    clear h
    go_enter Try.func22, Try.ntmps22
    go_wp2
    go_ret
    exact ⟨0, by omega, rfl, rfl⟩
  · rcases h with h | ⟨c, off, rfl, hc, hx⟩
    · omega
    · obtain ⟨x, hx, x0, x1⟩ := hx 0 (by omega)
      try simp only [Nat.add_zero] at hx
      have g0 : (0 : Int) < (len : Int) := by omega
      go_enter Try.func22, Try.ntmps22
      go_wp2
      go_ret
      have e0 : 0 ≤ x % n := Int.emod_nonneg _ (by omega)
      have e1 : x % n < n := Int.emod_lt_of_pos _ (by omega)
      exact ⟨(x % n).toNat, by omega, by rw [Int.toNat_of_nonneg e0]; rfl, rfl⟩
theorem atC_1 (a : Option Addr) (len cap : Nat) (n : Int) (w : World) (hB : Bytes w a len) (hn : 1 ≤ n) (hn2 : n ≤ 1000000) :
    Calls Try.prog 22 #[.slice a len cap, .int .i64 1, .int .i64 n] w (AtPC n w) := by
  obtain ⟨hl, h⟩ := hB
  by_cases h0 : len ≤ 1
  · have g0 : (len : Int) ≤ 1 := by omega
    clear h
    go_enter Try.func22, Try.ntmps22
    go_wp2
    go_ret
    exact ⟨0, by omega, rfl, rfl⟩
  · rcases h with h | ⟨c, off, rfl, hc, hx⟩
    · omega
    · obtain ⟨x, hx, x0, x1⟩ := hx 1 (by omega)
      try simp only [Nat.add_zero] at hx
      have g0 : (1 : Int) < (len : Int) := by omega
      go_enter Try.func22, Try.ntmps22
      go_wp2
      go_ret
      have e0 : 0 ≤ x % n := Int.emod_nonneg _ (by omega)
      have e1 : x % n < n := Int.emod_lt_of_pos _ (by omega)
      exact ⟨(x % n).toNat, by omega, by rw [Int.toNat_of_nonneg e0]; rfl, rfl⟩
set_option maxHeartbeats 8000000 in
set_option maxRecDepth 100000 in
theorem walk_FnChoose {w : World} (a1 : Option Addr) (l1 c1 : Nat) (hB : Bytes w a1 l1) (a2 : Option Addr) (l2 c2 : Nat) (hB2 : Bytes w a2 l2) : Calls Try.prog 4 #[.slice a1 l1 c1, .slice a2 l2 c2] w fun e w' => e = .returned (.bool true) ∧ Below w.heap.size w w' := by
  have hl1 := hB.1
  have hl2 := hB2.1
  rcases hlong : (decide (3000 < l1) || decide (3000 < l2)) with _ | _
  · have HL := Lib.hid (fun u : World => long_any a1 a2 l1 c1 l2 c2 false hlong hl1 hl2 u)
    have HBy := Lib.hid hB
    have HBz := Lib.hid hB2
    clear hlong hB hB2
    go_enter Try.func4, Try.ntmps4
    go_wp2_with fail
    refine (HL.out _).mono ?_
    rintro e w0 ⟨rfl, rfl⟩
    go_wp2_with fail
    refine (atC_0 a1 l1 c1 40 _ HBy.out (by omega) (by omega)).mono ?_
    rintro e w0 ⟨x, hx, rfl, rfl⟩
    go_wp2_with fail
    refine (atC_1 a1 l1 c1 40 _ HBy.out (by omega) (by omega)).mono ?_
    rintro e w0 ⟨y, hy, rfl, rfl⟩
    have HC : Hid (∀ (n k : Nat) (ni ki : Int) (u : World), n ≤ 40 → ni = (n : Int) → ki = (k : Int) → Calls Try.prog 23 #[.int .i64 ni, .int .i64 ki] u fun e w' => e = .returned (.tuple #[.int .i64 (ch n k : Int), .int .i64 0]) ∧ Below u.heap.size u w') := Lib.hid (by
      rintro n k ni ki u hn rfl rfl
      have := implCho_any (n : Int) (k : Int) u
      unfold ChP at this
      rwa [(cho_yes (by omega) (ch_40 hn)).1, (cho_yes (by omega) (ch_40 hn)).2] at this)
    have HSp : Hid (∀ (n k : Nat) (ni ki : Int) (u : World), n ≤ 40 → ni = (n : Int) → ki = (k : Int) → Calls Try.prog 24 #[.int .i64 ni, .int .i64 ki] u fun e w' => e = .returned (.tuple #[.int .i64 (ch n k : Int), .int .i64 0]) ∧ Below u.heap.size u w') := Lib.hid (by
      rintro n k ni ki u hn rfl rfl
      have := specCho_any (n : Int) (k : Int) u
      unfold ChP at this
      rwa [(cho_yes (by omega) (ch_40 hn)).1, (cho_yes (by omega) (ch_40 hn)).2] at this)
    have hx2 : x ≤ 39 := by omega
    have hy2 : y ≤ 39 := by omega
    have hsum := ch_succ x y
    have hb1 := ch_40 (n := x + 1) (k := y + 1) (by omega)
    have HA := Lib.hid (fun (ni ki : Int) (u : World) h1 h2 => HC.out (x + 1) (y + 1) ni ki u (by omega) h1 h2)
    have HBc := Lib.hid (fun (ni ki : Int) (u : World) h1 h2 => HC.out x (y + 1) ni ki u (by omega) h1 h2)
    have HCc := Lib.hid (fun (ni ki : Int) (u : World) h1 h2 => HC.out x y ni ki u (by omega) h1 h2)
    have HD := Lib.hid (fun (ni ki : Int) (u : World) h1 h2 => HSp.out (x + 1) (y + 1) ni ki u (by omega) h1 h2)
    generalize ch (x + 1) (y + 1) = A at *
    generalize ch x (y + 1) = Bv at *
    generalize ch x y = Cv at *
    have hA : (A : Int) = (Bv : Int) + (Cv : Int) := by omega
    have hbb : Bv ≤ 1000000000000000 := by omega
    have hcb : Cv ≤ 1000000000000000 := by omega
    have HQ := Lib.hid hA
    have qA : ((A : Int) == (Bv : Int) + (Cv : Int)) = true := by rw [beq_iff_eq]; exact hA
    clear hsum hA
    go_wp2_with fail
    refine (HA.out _ _ _ (by omega) (by omega)).mono ?_
    rintro e w1 ⟨rfl, b1⟩
    have B1 := Lib.hid b1
    clear b1
    go_wp2_with fail
    refine (HBc.out _ _ _ (by omega) (by omega)).mono ?_
    rintro e w2 ⟨rfl, b2⟩
    have B2 := Lib.hid (B1.out.trans (b2.mono B1.out.size))
    clear b2
    go_wp2_with fail
    refine (HCc.out _ _ _ (by omega) (by omega)).mono ?_
    rintro e w3 ⟨rfl, b3⟩
    have B3 := Lib.hid (B2.out.trans (b3.mono B2.out.size))
    clear b3
    go_wp2_with fail
    refine (HD.out _ _ _ (by omega) (by omega)).mono ?_
    rintro e w4 ⟨rfl, b4⟩
    have B4 := Lib.hid (B3.out.trans (b4.mono B3.out.size))
    clear b4
    clear HA HBc HCc HD
    go_wp2_with fail
    clear HQ qA
    refine (atC_0 a2 l2 c2 6 _ (HBz.out.below B4.out) (by omega) (by omega)).mono ?_
    rintro e w5 ⟨S, hS, rfl, rfl⟩
    go_wp2_with fail
    refine (atC_1 a2 l2 c2 5 _ (HBz.out.below B4.out) (by omega) (by omega)).mono ?_
    rintro e w5 ⟨P, hP, rfl, rfl⟩
    have hS5 : S ≤ 5 := by omega
    have hP4 : P ≤ 4 := by omega
    have h3k := cnt_55 hS5 hP4
    have hpos := cnt_pos S P
    have HAl : Hid (∀ (u : World) (p : Int), p = (P : Int) + 1 → Calls Try.prog 25 #[.int .i64 (S : Int), .int .i64 p] u (AlP 0 (P + 1) (cnt S (P + 1)) (fun i => vals (unr P S i)) u)) := Lib.hid (by
      rintro u p rfl
      exact implAll_yes S P u (by omega) (by omega) h3k)
    have HCn : Hid (∀ (u : World) (p : Int), p = (P : Int) + 1 → Calls Try.prog 16 #[.int .i64 (S : Int), .int .i64 p] u fun e w' => e = .returned (.tuple #[.int .i64 (cnt S (P + 1) : Int), .int .i64 0]) ∧ Below u.heap.size u w') := Lib.hid (by
      rintro u p rfl
      have := implCnt_any (S : Int) ((P : Int) + 1) u
      unfold CnP at this
      obtain ⟨e1, e2⟩ := cn_fit (S := S) (P := P) (by omega) (by omega) (by omega)
      rwa [e1, e2] at this)
    have HRk : Hid (∀ (i g c : Nat) (u : World), i < cnt S (P + 1) → RowN u (some ⟨g, 0, none⟩) (vals (unr P S i)) → Calls Try.prog 26 #[.slice (some ⟨g, 0, none⟩) (P + 1) c] u fun e w' => e = .returned (.tuple #[.int .i64 (i : Int), .int .i64 0]) ∧ Below u.heap.size u w') := Lib.hid (by
      intro i g c u hi hr
      obtain ⟨e1, e2, e3⟩ := unr_is P S i hi
      have hD := unr_ok (S := S) (P := P) (by omega) (by omega) (by omega) hi
      have := specRk_any (some ⟨g, 0, none⟩) c (P + 1) (vals (unr P S i)) u (by rw [vals_len, e1]) hr
      unfold RkP at this
      rwa [(rk_yes hD).1, (rk_yes hD).2, e3] at this)
    have HSm : Hid (∀ (i g c : Nat) (u : World), i < cnt S (P + 1) → RowN u (some ⟨g, 0, none⟩) (vals (unr P S i)) → Calls Try.prog 17 #[.slice (some ⟨g, 0, none⟩) (P + 1) c] u fun e w' => e = .returned (.int .i64 (S : Int)) ∧ u = w') := Lib.hid (by
      intro i g c u hi hr
      obtain ⟨e1, e2, e3⟩ := unr_is P S i hi
      have := a2Sum_any (some ⟨g, 0, none⟩) c (P + 1) (unr P S i) u e1 hr (by rw [e2]; omega)
      rwa [e2] at this)
    generalize cnt S (P + 1) = N at *
    go_wp2_with fail
    refine (HAl.out _ _ (by omega)).mono ?_
    rintro e w6 ⟨v, G, C, rfl, hg, b6⟩
    have B6 := Lib.hid (B4.out.trans (b6.mono B4.out.size))
    have HG := Lib.hid hg
    obtain ⟨gv, cv, ev, -, hgl, -, hcs⟩ := hg.cells hpos
    subst ev
    have HCs := Lib.hid hcs
    clear b6 hg hcs
    go_wp2_with fail
    refine (HCn.out _ _ (by omega)).mono ?_
    rintro e w7 ⟨rfl, b7⟩
    have B7 := Lib.hid (B6.out.trans (b7.mono B6.out.size))
    have K7 := Lib.hid b7
    clear b7
    go_wp2_with fail
    go_loopw [21] (fun iv wr => ∃ i : Nat, i ≤ N ∧ iv = .int .i64 (i : Int) ∧ Below w6.heap.size w6 wr ∧ Below w.heap.size w wr) (fun iv _ => N - (intOf iv).toNat)
    case atStart => exact ⟨0, Nat.zero_le _, rfl, K7.out, B7.out⟩
    case round =>
      obtain ⟨i, hi, rfl, hb6, hb⟩ := hrel
      have HB6 := Lib.hid hb6
      have HB := Lib.hid hb
      clear hb6 hb
      by_cases hlt : i < N
      · have y : wr.cell? ⟨gv, i, none⟩ = some (.slice (some ⟨G i, 0, none⟩) (P + 1) (C i)) := by rw [HB6.out.cell (p := ⟨gv, i, none⟩) hgl]; exact HCs.out i hlt
        have q0 : (0 : Int) ≤ (i : Int) := by omega
        have q1 : (i : Int) < (N : Int) := by omega
        have hrow := (HG.out.it i hlt).1.row
        have HR := Lib.hid hrow
        clear hrow
        go_wp2_with fail
        refine (HRk.out i _ _ _ hlt (HR.out.below HB6.out)).mono ?_
        rintro e w8 ⟨rfl, b8⟩
        have HB6 := Lib.hid (HB6.out.trans (b8.mono HB6.out.size))
        have HB := Lib.hid (HB.out.trans (b8.mono HB.out.size))
        have y8 : w8.cell? ⟨gv, i, none⟩ = some (.slice (some ⟨G i, 0, none⟩) (P + 1) (C i)) := by rw [HB6.out.cell (p := ⟨gv, i, none⟩) hgl]; exact HCs.out i hlt
        clear b8 y
        go_wp2_with fail
        refine (HSm.out i _ _ _ hlt (HR.out.below HB6.out)).mono ?_
        rintro e w9 ⟨rfl, rfl⟩
        go_wp2_with fail
        go_roundw
        case rel => exact ⟨i + 1, by omega, by go_num, HB6.out, HB.out⟩
        case measure => simp [intOf]; omega
      · obtain rfl : i = N := by omega
        go_wp2_with fail
        go_ret
        exact ⟨rfl, HB.out⟩
  · have HL := Lib.hid (fun u : World => long_any a1 a2 l1 c1 l2 c2 true hlong hl1 hl2 u)
    clear hlong hB hB2
    go_enter Try.func4, Try.ntmps4
    go_wp2_with fail
    refine (HL.out _).mono ?_
    rintro e w0 ⟨rfl, rfl⟩
    go_wp2_with fail
    go_ret
    exact ⟨rfl, Below.refl _ _⟩
namespace fnChoose
set_option maxHeartbeats 2000000 in
set_option maxRecDepth 100000 in
theorem lifted (os : Os) (started : os.Started) (H : Type) (enc : TypeId × Value → H) :
    ReturnsInHanded {} Try.checked os 4 .any (Rows.fnChooseSpec.pre6 enc Try.prog Try.f4 Rows.fnChooseRow.domain false) (Rows.fnChooseSpec.post enc Try.prog Try.f4 false true false false) := by
  refine returnsInHanded_of_change (C := Try.checked) own started (by kernel_rfl) Try.func4
    (ChangeSpec.witness6 (enc := enc) (C := Try.checked) false ⟨#[], #[.slice none 0 0, .slice none 0 0], []⟩ 8 (by kernel_rfl) (by kernel_rfl) (by kernel_rfl) (by kernel_rfl)) ?_
  intro W base args ds gs before hval0 hW hcnd _
  have hval : ∀ (j : Nat) t v, Try.f4.params[j]? = some t → args[j]? = some v → Value.okWide Try.prog W .any base t v := hval0
  have hW' := hW
  obtain ⟨p, q, hA0, hV, rfl, hfz, hnd⟩ := hW
  have hA : DataW.TrodAll enc Try.prog W 0 (fun _ => true) true Try.f4.params.toList args.toList ds p := hA0
  rw [Try.params4] at hA hval
  obtain ⟨v0, vs0, d0, ds0, p0, q0, hargs, rfl, rfl, h0, r0⟩ := trodAll_cons hA
  obtain ⟨v1, vs1, d1, ds1, p1, q1, rfl, rfl, rfl, h1, r1⟩ := trodAll_cons r0
  obtain ⟨rfl, rfl, rfl⟩ := trodAll_nil r1
  obtain rfl : args = #[v0, v1] := by cases args; simp_all
  obtain ⟨rfl, rfl⟩ := trodVars_none hV
  have k0 := h0
  have lt0 : ∀ x ∈ p0, x.block < W.heap.size := by obtain ⟨m, hm⟩ := k0; exact DataW.trod_lt m _ _ _ hm
  obtain ⟨a0, len0, cap0, rfl, w0⟩ := open_bytes Try.underlying22 Try.underlying5 (by kernel_rfl) (hval 0 22 v0 rfl rfl) h0
  have k1 := h1
  have lt1 : ∀ x ∈ p1, x.block < W.heap.size := by obtain ⟨m, hm⟩ := k1; exact DataW.trod_lt m _ _ _ hm
  obtain ⟨a1, len1, cap1, rfl, w1⟩ := open_bytes Try.underlying22 Try.underlying5 (by kernel_rfl) (hval 1 22 v1 rfl rfl) h1
  clear hA0 hval0
  refine (walk_FnChoose a0 len0 cap0 w0 a1 len1 cap1 w1 (w := W)).mono fun e W' ⟨he, bel⟩ => ?_
  subst he
  exact ⟨_, rfl, _, _, _, [], _, [], hW', trodAll_mk1 (shut_bool Try.underlying4 _), (trodAll_cons_mk (Below.trod laidOut (by kernel_rfl) (of_decide_eq_true (by kernel_rfl)) k0 bel lt0) (trodAll_cons_mk (Below.trod laidOut (by kernel_rfl) (of_decide_eq_true (by kernel_rfl)) k1 bel lt1) trodAll_mk0)), rfl, bel.frame _, fun h => by cases h⟩

theorem proved : Rows.FnChooseSaid :=
  OpenClaim.holds_of_wide 4 Try.f4 rfl rfl rfl rfl rfl rfl rfl ⟨rfl, rfl, rfl, rfl, rfl⟩ rfl rfl rfl rfl rfl (by kernel_rfl) Try.func4 (by kernel_rfl)
    (of_decide_eq_true (by kernel_rfl)) (by unfold Func.isWrapper; first | (rw [if_pos (by decide +kernel)]; kernel_rfl) | (rw [if_neg (by decide +kernel)]; exact ⟨rfl, rfl⟩))
    (fun os started H enc _ => lifted os started H enc)
end fnChoose

end Go.Proofs.Ytcgckpnkmmjljaa
