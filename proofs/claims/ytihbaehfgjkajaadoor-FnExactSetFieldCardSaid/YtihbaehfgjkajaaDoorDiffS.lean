/- The reference's row of the names of the fields in which two rules differ. No conditions. -/
import Derived.Test.YtihbaehfgjkajaaDoorDiff
import Derived.Deep.QuietTactic
import Derived.BigQuiet
namespace Go.Proofs.YtihbaehfgjkajaaDoor
open Go.Joins Go.ChangeShapes Go.WideShapes Go.ChangeAt Go.RowKit Go.Deep
set_option linter.unusedVariables false

theorem vals_len (r : RV) : r.vals.length = 9 := rfl
theorem vals_at (r : RV) {n : Nat} (h : n < 9) : r.vals[n]? = some (r.nth n) := by
  unfold RV.nth
  rw [List.getD_eq_getElem?_getD, List.getElem?_eq_getElem (by rw [vals_len]; exact h)]
  rfl
theorem vals_rv (r : RV) (b : Nat) (w : World) (h : r.At w b) : Calls Tryd.prog 45 #[.pointer (some ⟨b, 0, none⟩)] w (NewI r.vals 9 w) := by
  obtain ⟨_, d0, d1, d2, d3, d4, d5, d6, d7, d8⟩ := h
  exact vals_any _ _ _ _ _ _ _ _ _ b w d0 d1 d2 d3 d4 d5 d6 d7 d8
theorem below_dn {B : Nat} {a w : World} (h : Below B a w) (q : Nat) : Below B a (w.drewN q) := ⟨h.os, h.tape, h.output, h.size, h.block⟩
theorem own_empty (w : World) (B : Nat) (T : TypeId) (h : B ≤ w.heap.size) : (w.alloc (.cells #[] T)).ownsRow B T 1 (.slice (some ⟨w.heap.size, 0, none⟩) 0 0) 0 [] := World.ownsRow_made w #[] 0 h (by decide) rfl

set_option maxHeartbeats 8000000 in
theorem spec_l03diff (a b : RV) (ba bb : Nat) (w : World) (ha : a.At w ba) (hb : b.At w bb) : Calls Tryd.prog 48 #[.pointer (some ⟨ba, 0, none⟩), .pointer (some ⟨bb, 0, none⟩)] w (OwnS (diffK a b 9) (diffK a b 9).length w) := by
  obtain ⟨i0, hi, hz0, hz1, hz2⟩ := info_parts infoS
  have HA := Lib.hid ha
  have HB := Lib.hid hb
  clear ha hb
  go_enter Tryd.func48, Tryd.ntmps48
  go_wp2_with fail
  refine (vals_rv a ba _ HA.out).mono ?_
  rintro e w1 ⟨g1, rfl, b1, l1, r1⟩
  have HB1 := Lib.hid (RulesAt.below HB.out b1)
  have R1 := Lib.hid r1
  clear r1
  go_wp2_with fail
  refine (vals_rv b bb _ HB1.out).mono ?_
  rintro e w2 ⟨g2, rfl, b2, l2, r2⟩
  have B2 := b1.trans (b2.mono b1.size)
  have R1' := Lib.hid (R1.out.below b2)
  have R2 := Lib.hid r2
  clear r2
  go_wp2_with fail
  refine (flds_any _).mono ?_
  rintro e w3 ⟨rfl, b3, l3, r3⟩
  have B3 := B2.trans (b3.mono B2.size)
  have R1'' := Lib.hid (R1'.out.below b3)
  have R2'' := Lib.hid (R2.out.below b3)
  have R3 := Lib.hid r3
  have hz3 := B3.size
  clear r3
  go_wp2_with fail
  have HBE := Lib.hid ((Below.refl w3.heap.size w3).alloc (Nat.le_refl _) (.cells #[] 9))
  go_loopw [9, 8] (fun k v wr => ∃ n : Nat, n ≤ 9 ∧ k = .int .i64 n ∧ wr.ownsRow w3.heap.size 9 1 v (diffK a b n).length (svs (diffK a b n)) ∧ Below w3.heap.size w3 wr) (fun k _ _ => 9 - (intOf k).toNat)
  case atStart => exact ⟨0, by omega, rfl, own_empty _ _ _ (Nat.le_refl _), HBE.out⟩
  case round =>
    obtain ⟨n, hn, rfl, hown, hbl⟩ := hrel
    have HO := Lib.hid hown
    have HW := Lib.hid hbl
    have hsz := hbl.size
    have hlen := diffK_len a b n
    clear hown
    by_cases hl9 : n < 9
    · obtain ⟨x, hx⟩ : ∃ x, flds[n]? = some x := ⟨flds[n]'(by have : flds.length = 9 := rfl; omega), List.getElem?_eq_getElem _⟩
      have HX := Lib.hid hx
      have q1 : (n : Int) < 9 := by omega
      obtain ⟨va, eva⟩ : ∃ va, a.nth n = va := ⟨_, rfl⟩
      obtain ⟨vb, evb⟩ : ∃ vb, b.nth n = vb := ⟨_, rfl⟩
      have c1 : wr.cell? ⟨g1, n, none⟩ = some (.int .i64 va) := (R1''.out.below hbl).2.1 n _ (by rw [← eva]; exact vals_at a hl9)
      have c2 : wr.cell? ⟨g2, n, none⟩ = some (.int .i64 vb) := (R2''.out.below hbl).2.1 n _ (by rw [← evb]; exact vals_at b hl9)
      have c3 : wr.cell? ⟨w2.heap.size, n, none⟩ = some (.string x) := (R3.out.below hbl).2 n x hx
      have EA := Lib.hid eva
      have EB := Lib.hid evb
      clear hx eva evb hbl
      rcases hd : (va != vb) with _ | _
      · go_wp2_with fail
        go_quiet (fail)
        go_wp2_with fail
        go_roundw
        case rel =>
          have he : (a.nth n != b.nth n) = false := by rw [EA.out, EB.out]; exact hd
          exact ⟨n + 1, by omega, by go_num, by rw [diffK_eq he]; exact HO.out, below_dn HW.out _⟩
        case measure => simp [intOf]; omega
      · go_wp2_with fail
        go_quiet (fail)
        go_wp2_with (at_builtin; refine wpList_append_own _ rfl _ _ 32 rfl w3.heap.size 9 i0 (.string ⟨#[]⟩) 1 16 Tryd.underlying32 hi hz0 hz1 hz2 rfl (by decide) _ (diffK a b n).length _ rfl (World.ownsRow.alloc (w := wr.drewN _) HO.out _) ⟨wr.heap.size, 0, none⟩ 1 1 [.string x] rfl rfl (alloc_cells (by simp) rfl) (by simp [Value.oneCell']) (by unfold maxLen; omega) (by omega) (by simp; omega) ?_; intro v' w7 hown1 hgrow1 hnil1)
        go_roundw
        case rel =>
          have he : (a.nth n != b.nth n) = true := by rw [EA.out, EB.out]; exact hd
          exact ⟨n + 1, by omega, by go_num, by rw [diffK_ne he HX.out, List.length_append, svs_add]; exact hown1, ((below_dn HW.out _).alloc hsz _).grown hgrow1 (by simp; omega) (fun q hq => (HO.out.lt q hq).1)⟩
        case measure => simp [intOf]; omega
    · obtain rfl : n = 9 := by omega
      go_wp2_with fail
      go_ret
      exact ⟨_, rfl, own_base HO.out hz3, B3.trans (HW.out.mono hz3)⟩
theorem ok_rv (r : RV) (b : Nat) (w : World) (h : r.At w b) : Calls Tryd.prog 43 #[.pointer (some ⟨b, 0, none⟩)] w fun e w' => e = .returned (.bool r.ok) ∧ w = w' := by
  obtain ⟨_, d0, d1, d2, d3, d4, d5, d6, d7, d8⟩ := h
  exact l02Ok_any _ _ _ _ _ _ _ _ _ b w d0 d1 d2 d3 d4 d5 d6 d7 d8
theorem spec_diff (a b : RV) (w : World) : Calls Tryd.prog 16 #[a.val, b.val] w (DiffP (a.ok && b.ok) (diffK a b 9) w) := by
  unfold RV.val
  have RA := Lib.hid (RulesAt.below (rv_new a w 25) ((Below.refl _ _).alloc (Nat.le_refl _) (.cells #[.int .i64 b.p, .int .i64 b.s, .bool b.st, .bool b.sk, .bool b.re, .bool b.fe, .bool b.ag, .int .i64 b.c, .int .i64 b.l] 25)))
  have HB0 := Lib.hid (((Below.refl w.heap.size w).alloc (Nat.le_refl _) (.cells #[.int .i64 a.p, .int .i64 a.s, .bool a.st, .bool a.sk, .bool a.re, .bool a.fe, .bool a.ag, .int .i64 a.c, .int .i64 a.l] 25)).alloc (by simp) (.cells #[.int .i64 b.p, .int .i64 b.s, .bool b.st, .bool b.sk, .bool b.re, .bool b.fe, .bool b.ag, .int .i64 b.c, .int .i64 b.l] 25))
  have RB := rv_new b (w.alloc (.cells #[.int .i64 a.p, .int .i64 a.s, .bool a.st, .bool a.sk, .bool a.re, .bool a.fe, .bool a.ag, .int .i64 a.c, .int .i64 a.l] 25)) 25
  simp only [World.size_alloc] at RB
  have RB := Lib.hid RB
  rcases hoa : a.ok with _ | _
  · have Hoa := Lib.hid hoa
    clear hoa
    go_enter Tryd.func16, Tryd.ntmps16
    go_wp2_with (go_at_call 43; refine (ok_rv a _ _ RA.out).mono ?_; rintro e w1 ⟨rfl, rfl⟩; rw [Hoa.out])
    go_ret2
    exact ⟨_, rfl, World.ownsRow_nil _ _ _ _, HB0.out⟩
  · rcases hob : b.ok with _ | _
    · have Hoa := Lib.hid hoa
      have Hob := Lib.hid hob
      clear hoa hob
      go_enter Tryd.func16, Tryd.ntmps16
      go_wp2_with fail
      refine (ok_rv a _ _ RA.out).mono ?_
      rintro e w1 ⟨rfl, rfl⟩
      rw [Hoa.out]
      go_wp2_with fail
      refine (ok_rv b _ _ RB.out).mono ?_
      rintro e w1 ⟨rfl, rfl⟩
      rw [Hob.out]
      go_wp2_with fail
      go_ret2
      exact ⟨_, rfl, World.ownsRow_nil _ _ _ _, HB0.out⟩
    · have Hoa := Lib.hid hoa
      have Hob := Lib.hid hob
      clear hoa hob
      go_enter Tryd.func16, Tryd.ntmps16
      go_wp2_with fail
      refine (ok_rv a _ _ RA.out).mono ?_
      rintro e w1 ⟨rfl, rfl⟩
      rw [Hoa.out]
      go_wp2_with fail
      refine (ok_rv b _ _ RB.out).mono ?_
      rintro e w1 ⟨rfl, rfl⟩
      rw [Hob.out]
      go_wp2_with fail
      refine (spec_l03diff a b _ _ _ RA.out RB.out).mono ?_
      rintro e w2 ⟨v, rfl, ho, hb⟩
      go_wp2_with fail
      go_ret2
      exact ⟨_, rfl, own_base ho HB0.out.size, HB0.out.trans (hb.mono HB0.out.size)⟩
end Go.Proofs.YtihbaehfgjkajaaDoor
