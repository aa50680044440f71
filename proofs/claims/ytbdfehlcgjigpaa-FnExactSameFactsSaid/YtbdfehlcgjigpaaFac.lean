/- Rows of facts: what the laws' own functions on them do, and SameFacts of both sides. No conditions. -/
import Derived.Test.YtbdfehlcgjigpaaRowN
import Derived.Test.YtbdfehlcgjigpaaCmp4
import Derived.Deep.Slices
import Derived.ChangeSlices
import Derived.Laws.MakeOwn
namespace Go.Proofs.Ytbdfehlcgjigpaa
open Go.Joins Go.ChangeShapes Go.WideShapes Go.ChangeAt Go.RowKit Go.Deep
set_option linter.unusedVariables false

/-- A fact: its kind, its place, its count. -/
abbrev F3 := Int × Int × Int
/-- A cell of a row of facts. -/
def fcell (fs : List F3) (o : Nat) : Value :=
  .int .i64 (if o % 3 = 0 then (fs.getD (o / 3) (0, 0, 0)).1 else if o % 3 = 1 then (fs.getD (o / 3) (0, 0, 0)).2.1 else (fs.getD (o / 3) (0, 0, 0)).2.2)
theorem fcell0 {fs : List F3} {i : Nat} {x : F3} (h : fs[i]? = some x) : fcell fs (i * 3) = .int .i64 x.1 := by
  have e1 : i * 3 / 3 = i := by omega
  have e2 : i * 3 % 3 = 0 := by omega
  simp [fcell, e1, e2, List.getD, h]
theorem fcell1 {fs : List F3} {i : Nat} {x : F3} (h : fs[i]? = some x) : fcell fs (i * 3 + 1) = .int .i64 x.2.1 := by
  have e1 : (i * 3 + 1) / 3 = i := by omega
  have e2 : (i * 3 + 1) % 3 = 1 := by omega
  simp [fcell, e1, e2, List.getD, h]
theorem fcell2 {fs : List F3} {i : Nat} {x : F3} (h : fs[i]? = some x) : fcell fs (i * 3 + 2) = .int .i64 x.2.2 := by
  have e1 : (i * 3 + 2) / 3 = i := by omega
  have e2 : (i * 3 + 2) % 3 = 2 := by omega
  simp [fcell, e1, e2, List.getD, h]
theorem takeF_snoc {fs : List F3} {k : Nat} {x : F3} (h : fs[k]? = some x) : fs.take (k + 1) = fs.take k ++ [x] := by
  rw [List.take_add_one, h]
  rfl
/-- The cells behind a are these facts. -/
def RowF (w : World) (a : Option Addr) (fs : List F3) : Prop :=
  fs.length ≤ 1048576 ∧ (fs = [] ∨ ∃ g o, a = some ⟨g, o, none⟩ ∧ g < w.heap.size ∧ ∀ i, i < fs.length * 3 → w.cell? ⟨g, o + i, none⟩ = some (fcell fs i))
theorem RowF.below {w w' : World} {a : Option Addr} {fs : List F3} (h : RowF w a fs) (k : Below w.heap.size w w') : RowF w' a fs := by
  obtain ⟨hl, h | ⟨g, o, ha, hg, hx⟩⟩ := h
  · exact ⟨hl, .inl h⟩
  · refine ⟨hl, .inr ⟨g, o, ha, Nat.lt_of_lt_of_le hg k.size, fun i hi => ?_⟩⟩
    rw [k.cell hg]
    exact hx i hi
theorem RowF.at {w : World} {a : Option Addr} {fs : List F3} (h : RowF w a fs) {k : Nat} {x : F3} (hx : fs[k]? = some x) : ∃ g o, a = some ⟨g, o, none⟩ ∧ g < w.heap.size ∧ w.cell? ⟨g, o + k * 3, none⟩ = some (.int .i64 x.1) ∧ w.cell? ⟨g, o + k * 3 + 1, none⟩ = some (.int .i64 x.2.1) ∧ w.cell? ⟨g, o + k * 3 + 2, none⟩ = some (.int .i64 x.2.2) := by
  obtain ⟨hl, rfl | ⟨g, o, ha, hg, hc⟩⟩ := h
  · cases hx
  · have hk : k < fs.length := (List.getElem?_eq_some_iff.1 hx).1
    exact ⟨g, o, ha, hg, by rw [hc _ (by omega), fcell0 hx], by rw [Nat.add_assoc, hc _ (by omega), fcell1 hx], by rw [Nat.add_assoc, hc _ (by omega), fcell2 hx]⟩
/-- A row of facts that is being made. -/
structure MkF3 (u : World) (g n k : Nat) (fs : List F3) : Prop where
  lt : g < u.heap.size
  s : ∀ i, i < n * 3 → ∃ s, u.cell? ⟨g, 0 + i, none⟩ = some s
  m : ∀ i, i < k * 3 → u.cell? ⟨g, 0 + i, none⟩ = some (fcell fs i)
  f : ∀ o, u.frozen? ⟨g, o, none⟩ = false
theorem MkF3.below {u v : World} {g n k : Nat} {fs : List F3} (h : MkF3 u g n k fs) (b : Below u.heap.size u v) : MkF3 v g n k fs :=
  ⟨Nat.lt_of_lt_of_le h.lt b.size, fun i hi => by rw [b.cell h.lt]; exact h.s i hi, fun i hi => by rw [b.cell h.lt]; exact h.m i hi, fun o => by rw [b.frozen (p := ⟨g, o, none⟩) h.lt]; exact h.f o⟩
theorem MkF3.store {u : World} {g n k : Nat} {fs : List F3} {x : F3} (h : MkF3 u g n k fs) (hk : k < n) (hx : fs[k]? = some x) :
    MkF3 (((u.setCell ⟨g, k * 3, none⟩ (.int .i64 x.1)).setCell ⟨g, k * 3 + 1, none⟩ (.int .i64 x.2.1)).setCell ⟨g, k * 3 + 2, none⟩ (.int .i64 x.2.2)) g n (k + 1) fs := by
  have fz : ∀ (v : World) (p : Addr) (y : Value), (∀ o, v.frozen? ⟨g, o, none⟩ = false) → ∀ o, (v.setCell p y).frozen? ⟨g, o, none⟩ = false := fun v p y hv o => by
    have := hv o
    go_simp
  obtain ⟨a1, a2, -⟩ := store_next (w1 := u) (g := g) (o := 0) (n := n * 3) (j := k * 3) (v := .int .i64 x.1) (f := fcell fs) (by omega) (fcell0 hx).symm h.s h.m (fun i _ => h.f _)
  have a3 := fz u ⟨g, 0 + k * 3, none⟩ (.int .i64 x.1) h.f
  obtain ⟨b1, b2, -⟩ := store_next (v := .int .i64 x.2.1) (f := fcell fs) (show k * 3 + 1 < n * 3 by omega) (fcell1 hx).symm a1 a2 (fun i _ => a3 _)
  have b3 := fz _ ⟨g, 0 + (k * 3 + 1), none⟩ (.int .i64 x.2.1) a3
  obtain ⟨d1, d2, -⟩ := store_next (v := .int .i64 x.2.2) (f := fcell fs) (show k * 3 + 1 + 1 < n * 3 by omega) (fcell2 hx).symm b1 b2 (fun i _ => b3 _)
  have d3 := fz _ ⟨g, 0 + (k * 3 + 1 + 1), none⟩ (.int .i64 x.2.2) b3
  rw [show (⟨g, k * 3, none⟩ : Addr) = ⟨g, 0 + k * 3, none⟩ by rw [Nat.zero_add], show (⟨g, k * 3 + 1, none⟩ : Addr) = ⟨g, 0 + (k * 3 + 1), none⟩ by rw [Nat.zero_add], show (⟨g, k * 3 + 2, none⟩ : Addr) = ⟨g, 0 + (k * 3 + 1 + 1), none⟩ by rw [Nat.zero_add]]
  exact ⟨by simpa using h.lt, d1, fun i hi => d2 i (by omega), d3⟩
theorem infoF3 : (Try.prog.info? 66).map (fun i => (i.zero, i.size, i.bytes)) = some (some (.agg #[.int .i64 0, .int .i64 0, .int .i64 0]), 3, 24) := by kernel_rfl
theorem run_make3 (n : Nat) (hn : n ≤ 1048576) (w : World) : (Instr.makeSlice 44 (.int .i64 (n : Int)) (.int .i64 (n : Int))).run Try.prog w = .ok (.slice (some ⟨w.heap.size, 0, none⟩) n n) (w.alloc (.cells (madeCells #[.int .i64 0, .int .i64 0, .int .i64 0] (n * 3)) 66)) := by
  obtain ⟨i, hi, hzz⟩ := Option.map_eq_some_iff.1 infoF3
  simp only [Prod.mk.injEq] at hzz
  obtain ⟨hz, hs, hb⟩ := hzz
  have h := run_make (P := Try.prog) 44 66 i _ Try.underlying44 hi hz .i64 .i64 n n (by omega) (Int.le_refl _) (by rw [hb]; omega) (by omega) (w := w)
  rw [hs, Int.toNat_natCast] at h
  exact h
/-- A new row of facts. -/
def RowFP (fs : List F3) (n : Nat) (w : World) (e : Ending) (w' : World) : Prop :=
  ∃ g, e = .returned (.slice (some ⟨g, 0, none⟩) n n) ∧ RowF w' (some ⟨g, 0, none⟩) fs ∧ Below w.heap.size w w'
theorem toFact_any (a b c : Int) (w : World) :
    Calls Try.prog 31 #[.agg #[.int .i64 a, .int .i64 b, .int .i64 c]] w fun e w' => e = .returned (.agg #[.int .i64 a, .int .i64 b, .int .i64 c]) ∧ Below w.heap.size w w' := by
  go_enter Try.func31, Try.ntmps31
  go_wp2
  exact bodyPost_ret (v := .agg #[.int .i64 a, .int .i64 b, .int .i64 c]) (by simp [results, Try.results31, go_sem]) rfl ⟨rfl, (by repeat (first | exact Below.refl _ _ | assumption | (refine Below.drew ?_) | (refine Below.setCell ?_ (by first | omega | (simp; done) | (simp; omega)) _) | (refine Below.alloc ?_ (by first | omega | (simp; done) | (simp; omega)) _) | (refine Below.trans ?_ (Below.mono (by assumption) (by first | omega | (simp; done) | (simp; omega))))))⟩
set_option maxHeartbeats 1000000 in
theorem toFacts_any (a : Option Addr) (c n : Nat) (fs : List F3) (w : World) (hn : fs.length = n) (h : RowF w a fs) :
    Calls Try.prog 20 #[.slice a n c] w (RowFP fs n w) := by
  have hl : n ≤ 1048576 := by rw [← hn]; exact h.1
  have Hn := Lib.hid hn
  have H := Lib.hid h
  clear hn h
  have hmk := run_make3 n hl
  go_enter Try.func20, Try.ntmps20
  go_wp2
  clear hmk
  go_loopw [4] (fun i wr => ∃ k : Nat, k ≤ n ∧ i = .int .i64 k ∧ Below w.heap.size w wr ∧ MkF3 wr w.heap.size n k fs) (fun i _ => n - (intOf i).toNat)
  case atStart =>
    exact ⟨0, Nat.zero_le _, rfl, (Below.refl _ _).alloc (Nat.le_refl _) _, by simp, fun i hi => ⟨_, by rw [Nat.zero_add, World.cell?_alloc_new]; exact Array.getElem?_eq_getElem (by rw [size_madeCells]; exact hi)⟩, fun i hi => absurd hi (by omega), fun o => by go_simp⟩
  case round =>
    obtain ⟨k, hk, rfl, hb, hM⟩ := hrel
    have HB := Lib.hid hb
    have HM := Lib.hid hM
    clear hb hM
    by_cases hlt : k < n
    · obtain ⟨x, hx⟩ : ∃ x, fs[k]? = some x := ⟨fs[k]'(by rw [Hn.out]; exact hlt), List.getElem?_eq_getElem _⟩
      obtain ⟨g, o, rfl, hg, y0, y1, y2⟩ := H.out.at hx
      have z0 := (HB.out.cell hg).trans y0
      have z1 := (HB.out.cell hg).trans y1
      have z2 := (HB.out.cell hg).trans y2
      have Hx := Lib.hid hx
      have q0 : (0 : Int) ≤ (k : Int) := by omega
      have q1 : (k : Int) < (n : Int) := by omega
      clear y0 y1 y2 hx
      go_wp2_with fail
      refine (toFact_any _ _ _ _).mono ?_
      rintro e w5 ⟨rfl, hb5⟩
      have HM5 := Lib.hid (HM.out.below hb5)
      have HB5 := Lib.hid (HB.out.trans (Below.mono hb5 HB.out.size))
      clear z0 z1 z2 hb5
      obtain ⟨s0, c0⟩ := HM5.out.s (k * 3) (by omega)
      obtain ⟨s1, c1⟩ := HM5.out.s (k * 3 + 1) (by omega)
      obtain ⟨s2, c2⟩ := HM5.out.s (k * 3 + 2) (by omega)
      rw [Nat.zero_add] at c0 c1 c2
      have f0 := HM5.out.f (k * 3)
      have f1 := HM5.out.f (k * 3 + 1)
      have f2 := HM5.out.f (k * 3 + 2)
      go_wp2_with fail
      go_roundw
      case rel => exact ⟨k + 1, by omega, by go_num, ((HB5.out.setCell (p := ⟨w.heap.size, k * 3, none⟩) (Nat.le_refl _) _).setCell (p := ⟨w.heap.size, k * 3 + 1, none⟩) (Nat.le_refl _) _).setCell (p := ⟨w.heap.size, k * 3 + 2, none⟩) (Nat.le_refl _) _, HM5.out.store hlt Hx.out⟩
      case measure => simp [intOf]; omega
    · obtain rfl : k = n := by omega
      go_wp2
      go_ret
      exact ⟨_, rfl, ⟨by rw [Hn.out]; exact hl, .inr ⟨w.heap.size, 0, rfl, HM.out.lt, fun i hi => HM.out.m i (by rw [← Hn.out]; exact hi)⟩⟩, HB.out⟩
set_option maxHeartbeats 1000000 in
theorem eqFact_same (a b c : Int) (w : World) :
    Calls Try.prog 33 #[.agg #[.int .i64 a, .int .i64 b, .int .i64 c], .agg #[.int .i64 a, .int .i64 b, .int .i64 c]] w fun e w' => e = .returned (.bool true) ∧ Below w.heap.size w w' := by
  go_enter Try.func33, Try.ntmps33
  go_wp2
  go_ret
  exact ⟨rfl, (by repeat (first | exact Below.refl _ _ | assumption | (refine Below.drew ?_) | (refine Below.setCell ?_ (by first | omega | (simp; done) | (simp; omega)) _) | (refine Below.alloc ?_ (by first | omega | (simp; done) | (simp; omega)) _) | (refine Below.trans ?_ (Below.mono (by assumption) (by first | omega | (simp; done) | (simp; omega))))))⟩
/-- One fact at two places. -/
def At2 (w : World) (g1 p1 g2 p2 : Nat) (x : F3) (u : World) : Prop := (g1 < u.heap.size ∧ u.cell? ⟨g1, p1, none⟩ = some (.int .i64 x.1) ∧ u.cell? ⟨g1, p1 + 1, none⟩ = some (.int .i64 x.2.1) ∧ u.cell? ⟨g1, p1 + 2, none⟩ = some (.int .i64 x.2.2)) ∧ (g2 < u.heap.size ∧ u.cell? ⟨g2, p2, none⟩ = some (.int .i64 x.1) ∧ u.cell? ⟨g2, p2 + 1, none⟩ = some (.int .i64 x.2.1) ∧ u.cell? ⟨g2, p2 + 2, none⟩ = some (.int .i64 x.2.2)) ∧ Below w.heap.size w u
theorem At2.below {w u v : World} {g1 p1 g2 p2 : Nat} {x : F3} (h : At2 w g1 p1 g2 p2 x u) (k : Below u.heap.size u v) : At2 w g1 p1 g2 p2 x v := by
  obtain ⟨⟨l1, x0, x1, x2⟩, ⟨l2, y0, y1, y2⟩, b⟩ := h
  exact ⟨⟨Nat.lt_of_lt_of_le l1 k.size, (k.cell l1).trans x0, (k.cell l1).trans x1, (k.cell l1).trans x2⟩, ⟨Nat.lt_of_lt_of_le l2 k.size, (k.cell l2).trans y0, (k.cell l2).trans y1, (k.cell l2).trans y2⟩, b.trans (Below.mono k b.size)⟩
theorem At2.drew {w u : World} {g1 p1 g2 p2 : Nat} {x : F3} (h : At2 w g1 p1 g2 p2 x u) : At2 w g1 p1 g2 p2 x u.drew := h.below (Below.refl _ _).drew
set_option maxHeartbeats 1000000 in
theorem eqFs_same (a1 a2 : Option Addr) (c1 c2 n : Nat) (fs : List F3) (w : World) (hn : fs.length = n) (h1 : RowF w a1 fs) (h2 : RowF w a2 fs) :
    Calls Try.prog 22 #[.slice a1 n c1, .slice a2 n c2] w fun e w' => e = .returned (.bool true) ∧ Below w.heap.size w w' := by
  have hl : n ≤ 1048576 := by rw [← hn]; exact h1.1
  have Hn := Lib.hid hn
  have H1 := Lib.hid h1
  have H2 := Lib.hid h2
  clear hn h1 h2
  go_enter Try.func22, Try.ntmps22
  go_wp2
  go_loopw [5] (fun i wr => ∃ k : Nat, k ≤ n ∧ i = .int .i64 k ∧ Below w.heap.size w wr) (fun i _ => n - (intOf i).toNat)
  case atStart => exact ⟨0, Nat.zero_le _, rfl, Below.refl _ _⟩
  case round =>
    obtain ⟨k, hk, rfl, hb⟩ := hrel
    have HB := Lib.hid hb
    clear hb
    by_cases hlt : k < n
    · obtain ⟨x, hx⟩ : ∃ x, fs[k]? = some x := ⟨fs[k]'(by rw [Hn.out]; exact hlt), List.getElem?_eq_getElem _⟩
      obtain ⟨g1, o1, rfl, l1, x0, x1, x2⟩ := (H1.out.below (Below.mono HB.out (Nat.le_refl _))).at hx
      obtain ⟨g2, o2, rfl, l2, y0, y1, y2⟩ := (H2.out.below (Below.mono HB.out (Nat.le_refl _))).at hx
      have q0 : (0 : Int) ≤ (k : Int) := by omega
      have q1 : (k : Int) < (n : Int) := by omega
      have HX : Hid (At2 w g1 (o1 + k * 3) g2 (o2 + k * 3) x wr) := Lib.hid (show ((g1 < wr.heap.size ∧ wr.cell? ⟨g1, o1 + k * 3, none⟩ = some (.int .i64 x.1) ∧ wr.cell? ⟨g1, o1 + k * 3 + 1, none⟩ = some (.int .i64 x.2.1) ∧ wr.cell? ⟨g1, o1 + k * 3 + 2, none⟩ = some (.int .i64 x.2.2)) ∧ (g2 < wr.heap.size ∧ wr.cell? ⟨g2, o2 + k * 3, none⟩ = some (.int .i64 x.1) ∧ wr.cell? ⟨g2, o2 + k * 3 + 1, none⟩ = some (.int .i64 x.2.1) ∧ wr.cell? ⟨g2, o2 + k * 3 + 2, none⟩ = some (.int .i64 x.2.2)) ∧ Below w.heap.size w wr) from ⟨⟨l1, x0, x1, x2⟩, ⟨l2, y0, y1, y2⟩, HB.out⟩)
      clear hx x0 x1 x2 y0 y1 y2 l1 l2
      go_wp2_with fail
      go_region_held3 (fun u => (g1 < u.heap.size ∧ u.cell? ⟨g1, o1 + k * 3, none⟩ = some (.int .i64 x.1) ∧ u.cell? ⟨g1, o1 + k * 3 + 1, none⟩ = some (.int .i64 x.2.1) ∧ u.cell? ⟨g1, o1 + k * 3 + 2, none⟩ = some (.int .i64 x.2.2)) ∧ (g2 < u.heap.size ∧ u.cell? ⟨g2, o2 + k * 3, none⟩ = some (.int .i64 x.1) ∧ u.cell? ⟨g2, o2 + k * 3 + 1, none⟩ = some (.int .i64 x.2.1) ∧ u.cell? ⟨g2, o2 + k * 3 + 2, none⟩ = some (.int .i64 x.2.2)) ∧ Below w.heap.size w u) (first | exact HX.out | exact HX.out.drew)
        ((go_at_call 33; refine (eqFact_same _ _ _ _).mono ?_; rintro e w5 ⟨rfl, hb5⟩; have HX := Lib.hid (by first | exact HX.out.below hb5 | exact HX.out.drew.below hb5 : At2 w g1 (o1 + k * 3) g2 (o2 + k * 3) x w5)))
      go_wp2_with fail
      go_roundw
      case rel => exact ⟨k + 1, by omega, by go_num, HX.out.2.2⟩
      case measure => simp [intOf]; omega
    · go_wp2
      go_ret
      exact ⟨rfl, HB.out⟩
/-- What is left of a size. -/
def szF (left : Int) (n : Nat) : Int := if (n : Int) ≤ left then left - n else -1
theorem szFs_any (a : Option Addr) (c n : Nat) (left : Int) (hl : 0 ≤ left) (hl2 : left ≤ 1048576) (hn : n ≤ 9223372036854775807) (w : World) :
    Calls Try.prog 18 #[.slice a n c, .int .i64 left] w fun e w' => e = .returned (.int .i64 (szF left n)) ∧ w = w' := by
  by_cases h : (n : Int) ≤ left
  · have e : szF left n = left - n := if_pos h
    rw [e]
    clear e
    have d : ¬ (left - (n : Int) < 0) := by omega
    have m1 : IntKind.i64.wrap (left - (n : Int)) = left - n := by rw [IntKind.wrap_i64]; omega
    go_enter Try.func18, Try.ntmps18
    go_wp2
    go_ret
    exact ⟨rfl, rfl⟩
  · have e : szF left n = -1 := if_neg h
    rw [e]
    clear e
    have d : (left - (n : Int) < 0) := by omega
    have m1 : IntKind.i64.wrap (left - (n : Int)) = left - n := by rw [IntKind.wrap_i64]; omega
    go_enter Try.func18, Try.ntmps18
    go_wp2
    go_ret
    exact ⟨rfl, rfl⟩
set_option maxHeartbeats 1000000 in
theorem specSF_any (a d : Option Addr) (c1 c2 n m : Nat) (xs ys : List F3) (w : World) (hn : xs.length = n) (hm : ys.length = m) (h1 : RowF w a xs) (h2 : RowF w d ys) :
    Calls Try.prog 19 #[.slice a n c1, .slice d m c2] w (Still (.bool (decide (xs = ys))) w) := by
  have hl : n ≤ 1048576 := by rw [← hn]; exact h1.1
  have Hn := Lib.hid hn
  have Hm := Lib.hid hm
  have H1 := Lib.hid h1
  have H2 := Lib.hid h2
  clear hn hm h1 h2
  by_cases hne : n = m
  · subst hne
    go_enter Try.func19, Try.ntmps19
    go_wp2
    go_loopw [5] (fun i wr => ∃ k q : Nat, k ≤ n ∧ i = .int .i64 k ∧ wr = w.drewN q ∧ xs.take k = ys.take k) (fun i _ => n - (intOf i).toNat)
    case atStart => exact ⟨0, 0, Nat.zero_le _, rfl, rfl, rfl⟩
    case round =>
      obtain ⟨k, q, hk, rfl, rfl, hc⟩ := hrel
      have Hc := Lib.hid hc
      clear hc
      have q0 : (0 : Int) ≤ (k : Int) := by omega
      by_cases hlt : k < n
      · obtain ⟨x, hx⟩ : ∃ x, xs[k]? = some x := ⟨xs[k]'(by rw [Hn.out]; exact hlt), List.getElem?_eq_getElem _⟩
        obtain ⟨y, hy⟩ : ∃ y, ys[k]? = some y := ⟨ys[k]'(by rw [Hm.out]; exact hlt), List.getElem?_eq_getElem _⟩
        obtain ⟨g1, o1, rfl, -, x0, x1, x2⟩ := H1.out.at hx
        obtain ⟨g2, o2, rfl, -, y0, y1, y2⟩ := H2.out.at hy
        have Hx := Lib.hid hx
        have Hy := Lib.hid hy
        have q1 : (k : Int) < (n : Int) := by omega
        clear hx hy
        by_cases e : x = y
        · subst e
          go_wp2_with fail
          go_quiet (fail)
          go_wp2_with fail
          go_roundw
          case rel => exact ⟨k + 1, _, by omega, by go_num, rfl, by rw [takeF_snoc Hx.out, takeF_snoc Hy.out, Hc.out]⟩
          case measure => simp [intOf]; omega
        · have E : Hid (decide (xs = ys) = false) := Lib.hid (decide_eq_false (fun h => e (by have := Hx.out; rw [h, Hy.out] at this; exact (Option.some.inj this).symm)))
          obtain ⟨a1, b1, d1⟩ := x
          obtain ⟨a2, b2, d2⟩ := y
          have e3 : ¬ (a1 = a2 ∧ b1 = b2 ∧ d1 = d2) := fun h => e (by obtain ⟨rfl, rfl, rfl⟩ := h; rfl)
          clear e
          by_cases h1 : a1 = a2
          · subst h1
            by_cases h2 : b1 = b2
            · subst h2
              have h3 : ¬ d1 = d2 := fun h => e3 ⟨rfl, rfl, h⟩
              clear e3
              go_wp2_with fail
              go_quiet (fail)
              go_wp2_with fail
              go_ret
              exact ⟨by rw [E.out]; rfl, by first | exact dn2 _ _ _ | exact dn1 _ _⟩
            · clear e3
              go_wp2_with fail
              go_quiet (fail)
              go_wp2_with fail
              go_ret
              exact ⟨by rw [E.out]; rfl, by first | exact dn2 _ _ _ | exact dn1 _ _⟩
          · clear e3
            go_wp2_with fail
            go_quiet (fail)
            go_wp2_with fail
            go_ret
            exact ⟨by rw [E.out]; rfl, by first | exact dn2 _ _ _ | exact dn1 _ _⟩
      · obtain rfl : k = n := by omega
        have E : Hid (decide (xs = ys) = true) := Lib.hid (decide_eq_true (by
          have := Hc.out
          rwa [List.take_of_length_le (by rw [Hn.out]; exact Nat.le_refl _), List.take_of_length_le (by rw [Hm.out]; exact Nat.le_refl _)] at this))
        go_wp2
        go_ret
        exact ⟨by rw [E.out]; rfl, dn1 _ _⟩
  · have E : Hid (decide (xs = ys) = false) := Lib.hid (decide_eq_false (fun e => hne (by rw [← Hn.out, ← Hm.out, e])))
    have d1 : ((n : Int) != (m : Int)) = true := by simp; omega
    clear hne
    go_enter Try.func19, Try.ntmps19
    go_wp2
    go_ret
    exact ⟨by rw [E.out]; rfl, 0, rfl⟩
set_option maxHeartbeats 1000000 in
theorem equalF_any (a d : Option Addr) (c1 c2 n m : Nat) (xs ys : List F3) (w : World) (hn : xs.length = n) (hm : ys.length = m) (h1 : RowF w a xs) (h2 : RowF w d ys) :
    Calls Try.prog 32 #[.slice a n c1, .slice d m c2] w (Still (.bool (decide (xs = ys))) w) := by
  have hl : n ≤ 1048576 := by rw [← hn]; exact h1.1
  have Hn := Lib.hid hn
  have Hm := Lib.hid hm
  have H1 := Lib.hid h1
  have H2 := Lib.hid h2
  clear hn hm h1 h2
  by_cases hne : n = m
  · subst hne
    go_enter Try.func32, Try.ntmps32
    go_wp2
    go_loopw [13] (fun i wr => ∃ k q : Nat, k ≤ n ∧ i = .int .i64 k ∧ wr = w.drewN q ∧ xs.take k = ys.take k) (fun i _ => n - (intOf i).toNat)
    case atStart => exact ⟨0, 0, Nat.zero_le _, rfl, rfl, rfl⟩
    case round =>
      obtain ⟨k, q, hk, rfl, rfl, hc⟩ := hrel
      have Hc := Lib.hid hc
      clear hc
      have q0 : (0 : Int) ≤ (k : Int) := by omega
      by_cases hlt : k < n
      · obtain ⟨x, hx⟩ : ∃ x, xs[k]? = some x := ⟨xs[k]'(by rw [Hn.out]; exact hlt), List.getElem?_eq_getElem _⟩
        obtain ⟨y, hy⟩ : ∃ y, ys[k]? = some y := ⟨ys[k]'(by rw [Hm.out]; exact hlt), List.getElem?_eq_getElem _⟩
        obtain ⟨g1, o1, rfl, -, x0, x1, x2⟩ := H1.out.at hx
        obtain ⟨g2, o2, rfl, -, y0, y1, y2⟩ := H2.out.at hy
        have Hx := Lib.hid hx
        have Hy := Lib.hid hy
        have q1 : (k : Int) < (n : Int) := by omega
        clear hx hy
        by_cases e : x = y
        · subst e
          go_wp2_with fail
          go_quiet (fail)
          go_wp2_with fail
          go_roundw
          case rel => exact ⟨k + 1, _, by omega, by go_num, rfl, by rw [takeF_snoc Hx.out, takeF_snoc Hy.out, Hc.out]⟩
          case measure => simp [intOf]; omega
        · have E : Hid (decide (xs = ys) = false) := Lib.hid (decide_eq_false (fun h => e (by have := Hx.out; rw [h, Hy.out] at this; exact (Option.some.inj this).symm)))
          obtain ⟨a1, b1, d1⟩ := x
          obtain ⟨a2, b2, d2⟩ := y
          have e3 : ¬ (a1 = a2 ∧ b1 = b2 ∧ d1 = d2) := fun h => e (by obtain ⟨rfl, rfl, rfl⟩ := h; rfl)
          clear e
          by_cases h1 : a1 = a2
          · subst h1
            by_cases h2 : b1 = b2
            · subst h2
              have h3 : ¬ d1 = d2 := fun h => e3 ⟨rfl, rfl, h⟩
              clear e3
              go_wp2_with fail
              go_quiet (fail)
              go_wp2_with fail
              go_ret
              exact ⟨by rw [E.out]; rfl, by first | exact dn2 _ _ _ | exact dn1 _ _⟩
            · clear e3
              go_wp2_with fail
              go_quiet (fail)
              go_wp2_with fail
              go_ret
              exact ⟨by rw [E.out]; rfl, by first | exact dn2 _ _ _ | exact dn1 _ _⟩
          · clear e3
            go_wp2_with fail
            go_quiet (fail)
            go_wp2_with fail
            go_ret
            exact ⟨by rw [E.out]; rfl, by first | exact dn2 _ _ _ | exact dn1 _ _⟩
      · obtain rfl : k = n := by omega
        have E : Hid (decide (xs = ys) = true) := Lib.hid (decide_eq_true (by
          have := Hc.out
          rwa [List.take_of_length_le (by rw [Hn.out]; exact Nat.le_refl _), List.take_of_length_le (by rw [Hm.out]; exact Nat.le_refl _)] at this))
        go_wp2
        go_ret
        exact ⟨by rw [E.out]; rfl, dn1 _ _⟩
  · have E : Hid (decide (xs = ys) = false) := Lib.hid (decide_eq_false (fun e => hne (by rw [← Hn.out, ← Hm.out, e])))
    have d1 : ((n : Int) != (m : Int)) = true := by simp; omega
    clear hne
    go_enter Try.func32, Try.ntmps32
    go_wp2
    go_ret
    exact ⟨by rw [E.out]; rfl, 0, rfl⟩
end Go.Proofs.Ytbdfehlcgjigpaa
