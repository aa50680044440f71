/- Sown seeds in memory, and what the laws' own functions on them do. No conditions. -/
import Derived.Test.YtdhkfkfoibddnaaPos
namespace Go.Proofs.Ytdhkfkfoibddnaa
open Go.Joins Go.ChangeShapes Go.WideShapes Go.ChangeAt Go.RowKit Go.Deep
set_option linter.unusedVariables false

/-- A position of a call's own. -/
def SownP (n1 n2 : Nat) (pl pk : Int) (xs ys : List Int) (w : World) (e : Ending) (w' : World) : Prop :=
  ∃ g1 g2, e = .returned (.agg #[.slice (some ⟨g1, 0, none⟩) n1 n1, .slice (some ⟨g2, 0, none⟩) n2 n2, .int .i64 pl, .int .i64 pk]) ∧ PosO w' w.heap.size (some ⟨g1, 0, none⟩) (some ⟨g2, 0, none⟩) g1 g2 n1 n2 xs ys ∧ g1 < w'.heap.size ∧ g2 < w'.heap.size ∧ Below w.heap.size w w'

set_option maxHeartbeats 2000000 in
theorem toSown_any (p1 p2 : Option Addr) (pn1 pc1 pn2 pc2 : Nat) (pp pq : Int) (xs ys : List Int) (w : World) (h : PosR w p1 p2 pn1 pn2 xs ys) :
    Calls Try.prog 35 #[.agg #[.slice p1 pn1 pc1, .slice p2 pn2 pc2, .int .i64 pp, .int .i64 pq]] w (SownP pn1 pn2 pp pq xs ys w) := by
  have H := Lib.hid h
  clear h
  go_enter Try.func35, Try.ntmps35
  go_wp2_with fail
  refine (toRow_any p1 pc1 pn1 xs _ H.out.l1 (((H.out.r1.alloc _).alloc _).alloc _)).mono ?_
  rintro e u ⟨g1, rfl, o1, hl1, b1⟩
  have O1 := Lib.hid o1
  have hs1 := b1.size
  simp at hs1
  have hg1 := o1.new
  simp at hg1
  obtain ⟨k1, f1⟩ := bcell b1
  have x1 := fun o => k1 w.heap.size o (by simp; omega)
  have y1 := fun o => k1 (w.heap.size + 1) o (by simp)
  have z1 := fun o => k1 (w.heap.size + 1 + 1) o (by simp)
  have v1 := fun o => f1 (w.heap.size + 1) o (by simp)
  have r1 := fun o => f1 (w.heap.size + 1 + 1) o (by simp)
  have B1 : Below w.heap.size w u := ((((Below.refl _ _).alloc (Nat.le_refl _) _).alloc (by simp) _).alloc (by simp; omega) _).trans (b1.mono (by simp; omega))
  have HB1 := Lib.hid B1
  clear k1 f1 o1 b1 B1
  go_wp2_with fail
  refine (toRow_any p2 pc2 pn2 ys _ H.out.l2 (H.out.r2.setNew HB1.out (by simp; omega) _)).mono ?_
  rintro e u2 ⟨g2, rfl, o2, hl2, b2⟩
  have O2 := Lib.hid o2
  have hs2 := b2.size
  simp at hs2
  have hg2 := o2.new
  simp at hg2
  have hg1u := (O1.out.setCell (p := ⟨w.heap.size + 1 + 1, 0, none⟩) (by simp; omega) (.slice (some ⟨g1, 0, none⟩) pn1 pn1)).below b2
  have O1' := Lib.hid hg1u
  obtain ⟨k2, f2⟩ := bcell b2
  have x2 := fun o => k2 w.heap.size o (by simp; omega)
  have y2 := fun o => k2 (w.heap.size + 1) o (by simp; omega)
  have z2 := fun o => k2 (w.heap.size + 1 + 1) o (by simp; omega)
  have v2 := fun o => f2 (w.heap.size + 1) o (by simp; omega)
  have r2 := fun o => f2 (w.heap.size + 1 + 1) o (by simp; omega)
  have B2 : Below w.heap.size w u2 := (HB1.out.setCell (p := ⟨w.heap.size + 1 + 1, 0, none⟩) (by simp; omega) _).trans (b2.mono (by simp; omega))
  have HB2 := Lib.hid B2
  clear k2 f2 o2 b2 B2 hg1u
  go_wp2_with fail
  have hn1 : g1 ≠ w.heap.size + 1 := by omega
  have hn2 : g2 ≠ w.heap.size + 1 := by omega
  have hm1 : g1 ≠ w.heap.size + 1 + 1 := by omega
  have hm2 : g2 ≠ w.heap.size + 1 + 1 := by omega
  refine bodyPost_ret (v := .agg #[.slice (some ⟨g1, 0, none⟩) pn1 pn1, .slice (some ⟨g2, 0, none⟩) pn2 pn2, .int .i64 pp, .int .i64 pq]) (by simp [results, Try.results35, go_sem, y2, y1]) rfl ⟨g1, g2, rfl, ⟨?_, ?_, by omega, H.out.l1, H.out.l2⟩, ?_, ?_, ?_⟩
  · exact ((((((((O1'.out.setCell hm1 _).setCell hm1 _).setCell hm1 _).setCell hn1 _).setCell hn1 _).setCell hn1 _).setCell hn1 _).lower (by simp; omega))
  · exact ((((((((O2.out.setCell hm2 _).setCell hm2 _).setCell hm2 _).setCell hn2 _).setCell hn2 _).setCell hn2 _).setCell hn2 _).lower (by simp; omega))
  · simp; omega
  · simp; omega
  · exact (((((((HB2.out.setCell (p := ⟨w.heap.size + 1 + 1, 1, none⟩) (by simp; omega) _).setCell (p := ⟨w.heap.size + 1 + 1, 2, none⟩) (by simp; omega) _).setCell (p := ⟨w.heap.size + 1 + 1, 3, none⟩) (by simp; omega) _).setCell (p := ⟨w.heap.size + 1, 0, none⟩) (by simp) _).setCell (p := ⟨w.heap.size + 1, 1, none⟩) (by simp) _).setCell (p := ⟨w.heap.size + 1, 2, none⟩) (by simp) _).setCell (p := ⟨w.heap.size + 1, 3, none⟩) (by simp) _)
theorem szS_any (p1 p2 : Option Addr) (pn1 pc1 pn2 pc2 : Nat) (pp pq : Int) (left : Int) (hl : 0 ≤ left) (hl2 : left ≤ 1048576) (hn1 : pn1 ≤ 9223372036854775807) (hn2 : pn2 ≤ 9223372036854775807) (w : World) :
    Calls Try.prog 33 #[.agg #[.slice p1 pn1 pc1, .slice p2 pn2 pc2, .int .i64 pp, .int .i64 pq], .int .i64 left] w fun e w' => e = .returned (.int .i64 (szV left pn1 pn2)) ∧ Below w.heap.size w w' := by
  by_cases h1 : (pn1 : Int) ≤ left
  · have e1 : (if (pn1 : Int) ≤ left then left - pn1 else -1) = left - pn1 := if_pos h1
    by_cases h2 : (pn2 : Int) ≤ left - pn1
    · have e2 : (if (pn2 : Int) ≤ left - pn1 then left - pn1 - pn2 else -1) = left - pn1 - pn2 := if_pos h2
      rw [szV_yes (by omega)]
      have E1 := Lib.hid e1
      have E2 := Lib.hid e2
      clear e1 e2
      go_enter Try.func33, Try.ntmps33
      go_wp2_with fail
      refine (szN_any p1 pc1 pn1 left hl hl2 hn1 _).mono ?_
      rintro e w' ⟨rfl, rfl⟩
      rw [E1.out]
      go_wp2_with fail
      refine (szN_any p2 pc2 pn2 (left - pn1) (by omega) (by omega) hn2 _).mono ?_
      rintro e w' ⟨rfl, rfl⟩
      rw [E2.out]
      go_wp2_with fail
      go_ret
      exact ⟨rfl, (Below.refl _ _).alloc (Nat.le_refl _) _⟩
    · have e2 : (if (pn2 : Int) ≤ left - pn1 then left - pn1 - pn2 else -1) = -1 := if_neg h2
      rw [szV_no (by omega)]
      have E1 := Lib.hid e1
      have E2 := Lib.hid e2
      clear e1 e2
      go_enter Try.func33, Try.ntmps33
      go_wp2_with fail
      refine (szN_any p1 pc1 pn1 left hl hl2 hn1 _).mono ?_
      rintro e w' ⟨rfl, rfl⟩
      rw [E1.out]
      go_wp2_with fail
      refine (szN_any p2 pc2 pn2 (left - pn1) (by omega) (by omega) hn2 _).mono ?_
      rintro e w' ⟨rfl, rfl⟩
      rw [E2.out]
      go_wp2_with fail
      go_ret
      exact ⟨rfl, (Below.refl _ _).alloc (Nat.le_refl _) _⟩
  · have e1 : (if (pn1 : Int) ≤ left then left - pn1 else -1) = -1 := if_neg h1
    rw [szV_no (by omega)]
    have E1 := Lib.hid e1
    clear e1
    go_enter Try.func33, Try.ntmps33
    go_wp2_with fail
    refine (szN_any p1 pc1 pn1 left hl hl2 hn1 _).mono ?_
    rintro e w' ⟨rfl, rfl⟩
    rw [E1.out]
    go_wp2_with fail
    go_ret
    exact ⟨rfl, (Below.refl _ _).alloc (Nat.le_refl _) _⟩

set_option maxHeartbeats 1000000 in
theorem eqS_same (a1 a2 d1 d2 : Option Addr) (n1 n2 c1 c2 e1 e2 : Nat) (pl pk : Int) (xs ys : List Int) (w : World) (ha : PosR w a1 a2 n1 n2 xs ys) (hd : PosR w d1 d2 n1 n2 xs ys) :
    Calls Try.prog 37 #[.agg #[.slice a1 n1 c1, .slice a2 n2 c2, .int .i64 pl, .int .i64 pk], .agg #[.slice d1 n1 e1, .slice d2 n2 e2, .int .i64 pl, .int .i64 pk]] w fun e w' => e = .returned (.bool true) ∧ Below w.heap.size w w' := by
  have HA := Lib.hid ha
  have HD := Lib.hid hd
  clear ha hd
  go_enter Try.func37, Try.ntmps37
  go_wp2_with fail
  refine (eqN_same a1 d1 c1 e1 n1 xs _ HA.out.l1 ((HA.out.r1.alloc _).alloc _) ((HD.out.r1.alloc _).alloc _)).mono ?_
  rintro e u ⟨rfl, b1⟩
  have hs1 := b1.size
  simp at hs1
  obtain ⟨k1, f1⟩ := bcell b1
  have x1 := fun o => k1 w.heap.size o (by simp; omega)
  have y1 := fun o => k1 (w.heap.size + 1) o (by simp)
  have HA1 := Lib.hid (((HA.out.alloc _).alloc _).below b1)
  have HD1 := Lib.hid (((HD.out.alloc _).alloc _).below b1)
  have HB1 := Lib.hid b1
  clear k1 f1 b1
  go_wp2_with fail
  refine (eqN_same a2 d2 c2 e2 n2 ys _ HA1.out.l2 HA1.out.r2 HD1.out.r2).mono ?_
  rintro e u2 ⟨rfl, b2⟩
  have hs2 := b2.size
  obtain ⟨k2, f2⟩ := bcell b2
  have x2 := fun o => k2 w.heap.size o (by omega)
  have y2 := fun o => k2 (w.heap.size + 1) o (by omega)
  have HB2 := Lib.hid b2
  clear k2 f2 b2
  go_wp2_with fail
  go_ret
  exact ⟨rfl, (((Below.refl _ _).alloc (Nat.le_refl _) _).alloc (by simp) _).trans ((HB1.out.trans (HB2.out.mono (by simp; omega))).mono (by simp; omega))⟩

/-- What writing the marks into a position leaves. -/
def MarkSS (B b1 b2 : Nat) (a1 a2 : Option Addr) (n1 n2 k : Nat) (w : World) (e : Ending) (w' : World) : Prop :=
  e = .returned (.int .i64 ((k + n1 + n2 : Nat) : Int)) ∧ But2 b1 b2 w w' ∧ PosO w' B a1 a2 b1 b2 n1 n2 (marksN k n1) (marksN (k + n1) n2)
set_option maxHeartbeats 1000000 in
theorem markS_any (B b1 b2 : Nat) (a1 a2 : Option Addr) (n1 n2 c1 c2 k : Nat) (pl pk : Int) (xs ys : List Int) (w : World) (h : PosO w B a1 a2 b1 b2 n1 n2 xs ys) (hB : B ≤ w.heap.size) (hlt : b1 < w.heap.size ∧ b2 < w.heap.size) (hk2 : k ≤ 1000) (hn : n1 ≤ 10000000) :
    Calls Try.prog 38 #[.agg #[.slice a1 n1 c1, .slice a2 n2 c2, .int .i64 pl, .int .i64 pk], .int .i64 k] w (MarkSS B b1 b2 a1 a2 n1 n2 k w) := by
  have H := Lib.hid h
  obtain ⟨hl1, hl2⟩ := hlt
  clear h
  go_enter Try.func38, Try.ntmps38
  go_wp2_with fail
  refine (marksN_any B b1 a1 c1 n1 k xs _ H.out.l1 (H.out.o1.alloc _) (by omega)).mono ?_
  rintro e u ⟨rfl, b1', o1⟩
  have hs1 := b1'.size
  simp at hs1
  have x1 := fun o => b1'.cell (c := w.heap.size) (o := o) (by simp) (by omega)
  have O2 := Lib.hid ((H.out.o2.alloc _).but b1' (by have := H.out.ne; omega))
  have O1 := Lib.hid o1
  have B1 := Lib.hid b1'
  clear o1 b1'
  go_wp2_with fail
  refine (marksN_any B b2 a2 c2 n2 (k + n1) ys _ H.out.l2 O2.out (by omega)).mono ?_
  rintro e u2 ⟨rfl, b2', o2⟩
  have O1' := Lib.hid (O1.out.but b2' H.out.ne)
  have O2' := Lib.hid o2
  have B2 := Lib.hid b2'
  clear b2' o2
  go_wp2_with fail
  go_ret
  exact ⟨rfl, ((But2.of_below ((Below.refl _ _).alloc (Nat.le_refl _) _)).trans (.of_l B1.out)).trans (.of_r B2.out), O1'.out, O2'.out, H.out.ne, marksN_len _ _, marksN_len _ _⟩
theorem heldS_any (a1 a2 : Option Addr) (n1 n2 c1 c2 k : Nat) (pl pk : Int) (w : World) (h : PosR w a1 a2 n1 n2 (marksN k n1) (marksN (k + n1) n2)) (hk2 : k ≤ 1000) (hn : n1 ≤ 10000000) :
    Calls Try.prog 39 #[.agg #[.slice a1 n1 c1, .slice a2 n2 c2, .int .i64 pl, .int .i64 pk], .int .i64 k] w fun e w' => e = .returned (.int .i64 ((k + n1 + n2 : Nat) : Int)) ∧ Below w.heap.size w w' := by
  have H := Lib.hid h
  have hl2 : n2 ≤ 1000000000000 := by have := h.r2.1; rwa [marksN_len] at this
  clear h
  go_enter Try.func39, Try.ntmps39
  go_wp2_with fail
  refine (heldN_any a1 c1 n1 k _ (H.out.r1.alloc _) (by omega)).mono ?_
  rintro e u ⟨rfl, b1⟩
  have hs1 := b1.size
  simp at hs1
  have x1 := fun o => (bcell b1).1 w.heap.size o (by simp)
  have R2 := Lib.hid ((H.out.r2.alloc _).below b1)
  have B1 := Lib.hid b1
  have q0 : (0 : Int) ≤ ((k + n1 : Nat) : Int) := by omega
  clear b1
  go_wp2_with fail
  refine (heldN_any a2 c2 n2 (k + n1) _ R2.out (by omega)).mono ?_
  rintro e u2 ⟨rfl, b2⟩
  have B2 := Lib.hid b2
  have q1 : (0 : Int) ≤ ((k + n1 + n2 : Nat) : Int) := by omega
  clear b2
  go_wp2_with fail
  go_ret
  exact ⟨rfl, ((Below.refl _ _).alloc (Nat.le_refl _) _).trans ((B1.out.mono (by simp)).trans (B2.out.mono (by omega)))⟩
end Go.Proofs.Ytdhkfkfoibddnaa
