/- ProblemText of the program and of the reference, kind by kind. No conditions. -/
import Derived.Test.YtihbaehfgjkajaaDoorProb
namespace Go.Proofs.YtihbaehfgjkajaaDoor
open Go.Joins Go.ChangeShapes Go.WideShapes Go.ChangeAt Go.RowKit Go.Deep
set_option linter.unusedVariables false

/-- What a text of a problem is made of: the cells of the problem, and the cell with what is wrong. -/
def PK (w0 : World) (b g i : Nat) (k n : Int) (word : ByteArray) (v : Value) (w : World) : Prop :=
  w.cell? ⟨b, 0, none⟩ = some (.int .i64 k) ∧ w.cell? ⟨b, 1, none⟩ = some (.int .i64 n) ∧ w.cell? ⟨b, 2, none⟩ = some (.string word) ∧ w.cell? ⟨g, i, none⟩ = some v ∧ Below w0.heap.size w0 w
theorem PK.step {w0 w w' : World} {b g i : Nat} {k n : Int} {word : ByteArray} {v : Value} (h : PK w0 b g i k n word v w) (x : Below w.heap.size w w') : PK w0 b g i k n word v w' := by
  obtain ⟨h0, h1, h2, h3, h4⟩ := h
  exact ⟨by rw [x.cell (World.block_lt_of_cell? w _ h0)]; exact h0, by rw [x.cell (World.block_lt_of_cell? w _ h1)]; exact h1, by rw [x.cell (World.block_lt_of_cell? w _ h2)]; exact h2, by rw [x.cell (World.block_lt_of_cell? w _ h3)]; exact h3, h4.trans (x.mono h4.size)⟩
theorem PK.drew {w0 w : World} {b g i : Nat} {k n : Int} {word : ByteArray} {v : Value} (h : PK w0 b g i k n word v w) : PK w0 b g i k n word v w.drew := ⟨h.1, h.2.1, h.2.2.1, h.2.2.2.1, h.2.2.2.2.drew⟩

set_option maxHeartbeats 2000000 in
set_option maxRecDepth 100000 in
theorem impl_prob_1 (n : Int) (hn : I64 n) (word : ByteArray) (hw : word.size ≤ 2000000) (w : World) (hp : PowTab w) (hS : Sents w) :
    Calls Tryd.prog 35 #[.agg #[.int .i64 1, .int .i64 n, .string word]] w fun e w' => e = .returned (.string (pText n word ⟨#[117, 110, 107, 110, 111, 119, 110, 32, 119, 111, 114, 100]⟩)) ∧ Below w.heap.size w w' := by
  have B0 := (Below.refl w.heap.size w).alloc (Nat.le_refl _) (.cells #[.int .i64 1, .int .i64 n, .string word] 55)
  have HS := Lib.hid (hS.below B0)
  have HP := Lib.hid (hp.below B0)
  have HB := Lib.hid B0
  have HN := Lib.hid hn
  have e0 : (w.alloc (.cells #[.int .i64 1, .int .i64 n, .string word] 55)).cell? ⟨w.heap.size, 0, none⟩ = some (.int .i64 1) := by go_simp
  have e1 : (w.alloc (.cells #[.int .i64 1, .int .i64 n, .string word] 55)).cell? ⟨w.heap.size, 1, none⟩ = some (.int .i64 n) := by go_simp
  have e2 : (w.alloc (.cells #[.int .i64 1, .int .i64 n, .string word] 55)).cell? ⟨w.heap.size, 2, none⟩ = some (.string word) := by go_simp
  have E := Lib.hid (show _ ∧ _ ∧ _ from ⟨e0, e1, e2⟩)
  clear B0 hS hp hn e0 e1 e2
  go_enter Tryd.func35, Tryd.ntmps35
  go_wp2_with fail
  refine (causes_any _ HS.out).mono ?_
  rintro e w1 ⟨rfl, hb1, hs1, hc1⟩
  obtain ⟨a, ca, da⟩ := hc1 0 ⟨#[117, 110, 107, 110, 111, 119, 110, 32, 119, 111, 114, 100]⟩ rfl
  have hPT := Lib.hid (HP.out.below hb1)
  simp only [World.size_alloc] at ca
  obtain ⟨e0, e1, e2⟩ := E.out
  have d0 : w1.cell? ⟨w.heap.size, 0, none⟩ = some (.int .i64 1) := by rw [hb1.cell (p := ⟨w.heap.size, 0, none⟩) (by simp)]; exact e0
  have d1 : w1.cell? ⟨w.heap.size, 1, none⟩ = some (.int .i64 n) := by rw [hb1.cell (p := ⟨w.heap.size, 1, none⟩) (by simp)]; exact e1
  have d2 : w1.cell? ⟨w.heap.size, 2, none⟩ = some (.string word) := by rw [hb1.cell (p := ⟨w.heap.size, 2, none⟩) (by simp)]; exact e2
  have SA : Hid (PK w1 w.heap.size (w.heap.size + 1) 0 1 n word (.iface 156 (.pointer (some a))) w1) := Lib.hid ⟨d0, d1, d2, ca, Below.refl _ _⟩
  have DA := Lib.hid da
  have hwr : IntKind.i64.wrap 0 = 0 := by decide
  have HB1 := Lib.hid (HB.out.trans (hb1.mono (by simp)))
  clear e0 e1 e2 hc1 hb1 da d1 d2 ca
  go_wp2_with fail
  clear d0
  go_region_held3 (fun w' => w'.cell? ⟨w.heap.size, 0, none⟩ = some (.int .i64 1) ∧ w'.cell? ⟨w.heap.size, 1, none⟩ = some (.int .i64 n) ∧ w'.cell? ⟨w.heap.size, 2, none⟩ = some (.string word) ∧ w'.cell? ⟨w.heap.size + 1, 0, none⟩ = some (.iface 156 (.pointer (some a))) ∧ Below w1.heap.size w1 w') (first | exact SA.out | exact SA.out.drew)
    (first
    | (go_at_call 63; refine (word_error n HN.out word ⟨#[117, 110, 107, 110, 111, 119, 110, 32, 119, 111, 114, 100]⟩ a _ (by first | exact hPT.out.below SA.out.2.2.2.2 | exact hPT.out.below SA.out.drew.2.2.2.2) (by first | (rw [SA.out.2.2.2.2.cell (World.block_lt_of_cell? w1 _ DA.out)]; exact DA.out) | (rw [SA.out.drew.2.2.2.2.cell (World.block_lt_of_cell? w1 _ DA.out)]; exact DA.out)) hw (by decide)).mono ?_; rintro e w2 ⟨rfl, hb2⟩; have SA := Lib.hid (by first | exact SA.out.step hb2 | exact SA.out.drew.step hb2 : PK w1 w.heap.size (w.heap.size + 1) 0 1 n word (.iface 156 (.pointer (some a))) w2)))
  all_goals
    go_wp2_with fail
    go_ret
    exact ⟨rfl, HB1.out.trans (SA.out.2.2.2.2.mono HB1.out.size)⟩
set_option maxHeartbeats 2000000 in
set_option maxRecDepth 100000 in
theorem impl_prob_2 (n : Int) (hn : I64 n) (word : ByteArray) (hw : word.size ≤ 2000000) (w : World) (hp : PowTab w) (hS : Sents w) :
    Calls Tryd.prog 35 #[.agg #[.int .i64 2, .int .i64 n, .string word]] w fun e w' => e = .returned (.string (pText n word ⟨#[103, 105, 118, 101, 110, 32, 116, 119, 105, 99, 101]⟩)) ∧ Below w.heap.size w w' := by
  have B0 := (Below.refl w.heap.size w).alloc (Nat.le_refl _) (.cells #[.int .i64 2, .int .i64 n, .string word] 55)
  have HS := Lib.hid (hS.below B0)
  have HP := Lib.hid (hp.below B0)
  have HB := Lib.hid B0
  have HN := Lib.hid hn
  have e0 : (w.alloc (.cells #[.int .i64 2, .int .i64 n, .string word] 55)).cell? ⟨w.heap.size, 0, none⟩ = some (.int .i64 2) := by go_simp
  have e1 : (w.alloc (.cells #[.int .i64 2, .int .i64 n, .string word] 55)).cell? ⟨w.heap.size, 1, none⟩ = some (.int .i64 n) := by go_simp
  have e2 : (w.alloc (.cells #[.int .i64 2, .int .i64 n, .string word] 55)).cell? ⟨w.heap.size, 2, none⟩ = some (.string word) := by go_simp
  have E := Lib.hid (show _ ∧ _ ∧ _ from ⟨e0, e1, e2⟩)
  clear B0 hS hp hn e0 e1 e2
  go_enter Tryd.func35, Tryd.ntmps35
  go_wp2_with fail
  refine (causes_any _ HS.out).mono ?_
  rintro e w1 ⟨rfl, hb1, hs1, hc1⟩
  obtain ⟨a, ca, da⟩ := hc1 1 ⟨#[103, 105, 118, 101, 110, 32, 116, 119, 105, 99, 101]⟩ rfl
  have hPT := Lib.hid (HP.out.below hb1)
  simp only [World.size_alloc] at ca
  obtain ⟨e0, e1, e2⟩ := E.out
  have d0 : w1.cell? ⟨w.heap.size, 0, none⟩ = some (.int .i64 2) := by rw [hb1.cell (p := ⟨w.heap.size, 0, none⟩) (by simp)]; exact e0
  have d1 : w1.cell? ⟨w.heap.size, 1, none⟩ = some (.int .i64 n) := by rw [hb1.cell (p := ⟨w.heap.size, 1, none⟩) (by simp)]; exact e1
  have d2 : w1.cell? ⟨w.heap.size, 2, none⟩ = some (.string word) := by rw [hb1.cell (p := ⟨w.heap.size, 2, none⟩) (by simp)]; exact e2
  have SA : Hid (PK w1 w.heap.size (w.heap.size + 1) 1 2 n word (.iface 156 (.pointer (some a))) w1) := Lib.hid ⟨d0, d1, d2, ca, Below.refl _ _⟩
  have DA := Lib.hid da
  have hwr : IntKind.i64.wrap 1 = 1 := by decide
  have HB1 := Lib.hid (HB.out.trans (hb1.mono (by simp)))
  clear e0 e1 e2 hc1 hb1 da d1 d2 ca
  go_wp2_with fail
  clear d0
  go_region_held3 (fun w' => w'.cell? ⟨w.heap.size, 0, none⟩ = some (.int .i64 2) ∧ w'.cell? ⟨w.heap.size, 1, none⟩ = some (.int .i64 n) ∧ w'.cell? ⟨w.heap.size, 2, none⟩ = some (.string word) ∧ w'.cell? ⟨w.heap.size + 1, 1, none⟩ = some (.iface 156 (.pointer (some a))) ∧ Below w1.heap.size w1 w') (first | exact SA.out | exact SA.out.drew)
    (first
    | (go_at_call 63; refine (word_error n HN.out word ⟨#[103, 105, 118, 101, 110, 32, 116, 119, 105, 99, 101]⟩ a _ (by first | exact hPT.out.below SA.out.2.2.2.2 | exact hPT.out.below SA.out.drew.2.2.2.2) (by first | (rw [SA.out.2.2.2.2.cell (World.block_lt_of_cell? w1 _ DA.out)]; exact DA.out) | (rw [SA.out.drew.2.2.2.2.cell (World.block_lt_of_cell? w1 _ DA.out)]; exact DA.out)) hw (by decide)).mono ?_; rintro e w2 ⟨rfl, hb2⟩; have SA := Lib.hid (by first | exact SA.out.step hb2 | exact SA.out.drew.step hb2 : PK w1 w.heap.size (w.heap.size + 1) 1 2 n word (.iface 156 (.pointer (some a))) w2)))
  all_goals
    go_wp2_with fail
    go_ret
    exact ⟨rfl, HB1.out.trans (SA.out.2.2.2.2.mono HB1.out.size)⟩
set_option maxHeartbeats 2000000 in
set_option maxRecDepth 100000 in
theorem impl_prob_3 (n : Int) (hn : I64 n) (word : ByteArray) (hw : word.size ≤ 2000000) (w : World) (hp : PowTab w) (hS : Sents w) :
    Calls Tryd.prog 35 #[.agg #[.int .i64 3, .int .i64 n, .string word]] w fun e w' => e = .returned (.string (pText n word ⟨#[110, 111, 116, 32, 97, 32, 110, 117, 109, 98, 101, 114]⟩)) ∧ Below w.heap.size w w' := by
  have B0 := (Below.refl w.heap.size w).alloc (Nat.le_refl _) (.cells #[.int .i64 3, .int .i64 n, .string word] 55)
  have HS := Lib.hid (hS.below B0)
  have HP := Lib.hid (hp.below B0)
  have HB := Lib.hid B0
  have HN := Lib.hid hn
  have e0 : (w.alloc (.cells #[.int .i64 3, .int .i64 n, .string word] 55)).cell? ⟨w.heap.size, 0, none⟩ = some (.int .i64 3) := by go_simp
  have e1 : (w.alloc (.cells #[.int .i64 3, .int .i64 n, .string word] 55)).cell? ⟨w.heap.size, 1, none⟩ = some (.int .i64 n) := by go_simp
  have e2 : (w.alloc (.cells #[.int .i64 3, .int .i64 n, .string word] 55)).cell? ⟨w.heap.size, 2, none⟩ = some (.string word) := by go_simp
  have E := Lib.hid (show _ ∧ _ ∧ _ from ⟨e0, e1, e2⟩)
  clear B0 hS hp hn e0 e1 e2
  go_enter Tryd.func35, Tryd.ntmps35
  go_wp2_with fail
  refine (causes_any _ HS.out).mono ?_
  rintro e w1 ⟨rfl, hb1, hs1, hc1⟩
  obtain ⟨a, ca, da⟩ := hc1 2 ⟨#[110, 111, 116, 32, 97, 32, 110, 117, 109, 98, 101, 114]⟩ rfl
  have hPT := Lib.hid (HP.out.below hb1)
  simp only [World.size_alloc] at ca
  obtain ⟨e0, e1, e2⟩ := E.out
  have d0 : w1.cell? ⟨w.heap.size, 0, none⟩ = some (.int .i64 3) := by rw [hb1.cell (p := ⟨w.heap.size, 0, none⟩) (by simp)]; exact e0
  have d1 : w1.cell? ⟨w.heap.size, 1, none⟩ = some (.int .i64 n) := by rw [hb1.cell (p := ⟨w.heap.size, 1, none⟩) (by simp)]; exact e1
  have d2 : w1.cell? ⟨w.heap.size, 2, none⟩ = some (.string word) := by rw [hb1.cell (p := ⟨w.heap.size, 2, none⟩) (by simp)]; exact e2
  have SA : Hid (PK w1 w.heap.size (w.heap.size + 1) 2 3 n word (.iface 156 (.pointer (some a))) w1) := Lib.hid ⟨d0, d1, d2, ca, Below.refl _ _⟩
  have DA := Lib.hid da
  have hwr : IntKind.i64.wrap 2 = 2 := by decide
  have HB1 := Lib.hid (HB.out.trans (hb1.mono (by simp)))
  clear e0 e1 e2 hc1 hb1 da d1 d2 ca
  go_wp2_with fail
  clear d0
  go_region_held3 (fun w' => w'.cell? ⟨w.heap.size, 0, none⟩ = some (.int .i64 3) ∧ w'.cell? ⟨w.heap.size, 1, none⟩ = some (.int .i64 n) ∧ w'.cell? ⟨w.heap.size, 2, none⟩ = some (.string word) ∧ w'.cell? ⟨w.heap.size + 1, 2, none⟩ = some (.iface 156 (.pointer (some a))) ∧ Below w1.heap.size w1 w') (first | exact SA.out | exact SA.out.drew)
    (first
    | (go_at_call 63; refine (word_error n HN.out word ⟨#[110, 111, 116, 32, 97, 32, 110, 117, 109, 98, 101, 114]⟩ a _ (by first | exact hPT.out.below SA.out.2.2.2.2 | exact hPT.out.below SA.out.drew.2.2.2.2) (by first | (rw [SA.out.2.2.2.2.cell (World.block_lt_of_cell? w1 _ DA.out)]; exact DA.out) | (rw [SA.out.drew.2.2.2.2.cell (World.block_lt_of_cell? w1 _ DA.out)]; exact DA.out)) hw (by decide)).mono ?_; rintro e w2 ⟨rfl, hb2⟩; have SA := Lib.hid (by first | exact SA.out.step hb2 | exact SA.out.drew.step hb2 : PK w1 w.heap.size (w.heap.size + 1) 2 3 n word (.iface 156 (.pointer (some a))) w2)))
  all_goals
    go_wp2_with fail
    go_ret
    exact ⟨rfl, HB1.out.trans (SA.out.2.2.2.2.mono HB1.out.size)⟩
set_option maxHeartbeats 2000000 in
set_option maxRecDepth 100000 in
theorem impl_prob_4 (n : Int) (hn : I64 n) (word : ByteArray) (hw : word.size ≤ 2000000) (w : World) (hp : PowTab w) (hS : Sents w) :
    Calls Tryd.prog 35 #[.agg #[.int .i64 4, .int .i64 n, .string word]] w fun e w' => e = .returned (.string (pText n word ⟨#[110, 111, 116, 32, 97, 108, 108, 111, 119, 101, 100]⟩)) ∧ Below w.heap.size w w' := by
  have B0 := (Below.refl w.heap.size w).alloc (Nat.le_refl _) (.cells #[.int .i64 4, .int .i64 n, .string word] 55)
  have HS := Lib.hid (hS.below B0)
  have HP := Lib.hid (hp.below B0)
  have HB := Lib.hid B0
  have HN := Lib.hid hn
  have e0 : (w.alloc (.cells #[.int .i64 4, .int .i64 n, .string word] 55)).cell? ⟨w.heap.size, 0, none⟩ = some (.int .i64 4) := by go_simp
  have e1 : (w.alloc (.cells #[.int .i64 4, .int .i64 n, .string word] 55)).cell? ⟨w.heap.size, 1, none⟩ = some (.int .i64 n) := by go_simp
  have e2 : (w.alloc (.cells #[.int .i64 4, .int .i64 n, .string word] 55)).cell? ⟨w.heap.size, 2, none⟩ = some (.string word) := by go_simp
  have E := Lib.hid (show _ ∧ _ ∧ _ from ⟨e0, e1, e2⟩)
  clear B0 hS hp hn e0 e1 e2
  go_enter Tryd.func35, Tryd.ntmps35
  go_wp2_with fail
  refine (causes_any _ HS.out).mono ?_
  rintro e w1 ⟨rfl, hb1, hs1, hc1⟩
  obtain ⟨a, ca, da⟩ := hc1 3 ⟨#[110, 111, 116, 32, 97, 108, 108, 111, 119, 101, 100]⟩ rfl
  have hPT := Lib.hid (HP.out.below hb1)
  simp only [World.size_alloc] at ca
  obtain ⟨e0, e1, e2⟩ := E.out
  have d0 : w1.cell? ⟨w.heap.size, 0, none⟩ = some (.int .i64 4) := by rw [hb1.cell (p := ⟨w.heap.size, 0, none⟩) (by simp)]; exact e0
  have d1 : w1.cell? ⟨w.heap.size, 1, none⟩ = some (.int .i64 n) := by rw [hb1.cell (p := ⟨w.heap.size, 1, none⟩) (by simp)]; exact e1
  have d2 : w1.cell? ⟨w.heap.size, 2, none⟩ = some (.string word) := by rw [hb1.cell (p := ⟨w.heap.size, 2, none⟩) (by simp)]; exact e2
  have SA : Hid (PK w1 w.heap.size (w.heap.size + 1) 3 4 n word (.iface 156 (.pointer (some a))) w1) := Lib.hid ⟨d0, d1, d2, ca, Below.refl _ _⟩
  have DA := Lib.hid da
  have hwr : IntKind.i64.wrap 3 = 3 := by decide
  have HB1 := Lib.hid (HB.out.trans (hb1.mono (by simp)))
  clear e0 e1 e2 hc1 hb1 da d1 d2 ca
  go_wp2_with fail
  clear d0
  go_region_held3 (fun w' => w'.cell? ⟨w.heap.size, 0, none⟩ = some (.int .i64 4) ∧ w'.cell? ⟨w.heap.size, 1, none⟩ = some (.int .i64 n) ∧ w'.cell? ⟨w.heap.size, 2, none⟩ = some (.string word) ∧ w'.cell? ⟨w.heap.size + 1, 3, none⟩ = some (.iface 156 (.pointer (some a))) ∧ Below w1.heap.size w1 w') (first | exact SA.out | exact SA.out.drew)
    (first
    | (go_at_call 63; refine (word_error n HN.out word ⟨#[110, 111, 116, 32, 97, 108, 108, 111, 119, 101, 100]⟩ a _ (by first | exact hPT.out.below SA.out.2.2.2.2 | exact hPT.out.below SA.out.drew.2.2.2.2) (by first | (rw [SA.out.2.2.2.2.cell (World.block_lt_of_cell? w1 _ DA.out)]; exact DA.out) | (rw [SA.out.drew.2.2.2.2.cell (World.block_lt_of_cell? w1 _ DA.out)]; exact DA.out)) hw (by decide)).mono ?_; rintro e w2 ⟨rfl, hb2⟩; have SA := Lib.hid (by first | exact SA.out.step hb2 | exact SA.out.drew.step hb2 : PK w1 w.heap.size (w.heap.size + 1) 3 4 n word (.iface 156 (.pointer (some a))) w2)))
  all_goals
    go_wp2_with fail
    go_ret
    exact ⟨rfl, HB1.out.trans (SA.out.2.2.2.2.mono HB1.out.size)⟩
set_option maxHeartbeats 2000000 in
set_option maxRecDepth 100000 in
theorem impl_prob_5 (n : Int) (hn : I64 n) (word : ByteArray) (hw : word.size ≤ 2000000) (w : World) (hp : PowTab w) (hS : Sents w) :
    Calls Tryd.prog 35 #[.agg #[.int .i64 5, .int .i64 n, .string word]] w fun e w' => e = .returned (.string (pText n word ⟨#[109, 105, 115, 115, 105, 110, 103]⟩)) ∧ Below w.heap.size w w' := by
  have B0 := (Below.refl w.heap.size w).alloc (Nat.le_refl _) (.cells #[.int .i64 5, .int .i64 n, .string word] 55)
  have HS := Lib.hid (hS.below B0)
  have HP := Lib.hid (hp.below B0)
  have HB := Lib.hid B0
  have HN := Lib.hid hn
  have e0 : (w.alloc (.cells #[.int .i64 5, .int .i64 n, .string word] 55)).cell? ⟨w.heap.size, 0, none⟩ = some (.int .i64 5) := by go_simp
  have e1 : (w.alloc (.cells #[.int .i64 5, .int .i64 n, .string word] 55)).cell? ⟨w.heap.size, 1, none⟩ = some (.int .i64 n) := by go_simp
  have e2 : (w.alloc (.cells #[.int .i64 5, .int .i64 n, .string word] 55)).cell? ⟨w.heap.size, 2, none⟩ = some (.string word) := by go_simp
  have E := Lib.hid (show _ ∧ _ ∧ _ from ⟨e0, e1, e2⟩)
  clear B0 hS hp hn e0 e1 e2
  go_enter Tryd.func35, Tryd.ntmps35
  go_wp2_with fail
  refine (causes_any _ HS.out).mono ?_
  rintro e w1 ⟨rfl, hb1, hs1, hc1⟩
  obtain ⟨a, ca, da⟩ := hc1 4 ⟨#[109, 105, 115, 115, 105, 110, 103]⟩ rfl
  have hPT := Lib.hid (HP.out.below hb1)
  simp only [World.size_alloc] at ca
  obtain ⟨e0, e1, e2⟩ := E.out
  have d0 : w1.cell? ⟨w.heap.size, 0, none⟩ = some (.int .i64 5) := by rw [hb1.cell (p := ⟨w.heap.size, 0, none⟩) (by simp)]; exact e0
  have d1 : w1.cell? ⟨w.heap.size, 1, none⟩ = some (.int .i64 n) := by rw [hb1.cell (p := ⟨w.heap.size, 1, none⟩) (by simp)]; exact e1
  have d2 : w1.cell? ⟨w.heap.size, 2, none⟩ = some (.string word) := by rw [hb1.cell (p := ⟨w.heap.size, 2, none⟩) (by simp)]; exact e2
  have SA : Hid (PK w1 w.heap.size (w.heap.size + 1) 4 5 n word (.iface 156 (.pointer (some a))) w1) := Lib.hid ⟨d0, d1, d2, ca, Below.refl _ _⟩
  have DA := Lib.hid da
  have hwr : IntKind.i64.wrap 4 = 4 := by decide
  have HB1 := Lib.hid (HB.out.trans (hb1.mono (by simp)))
  clear e0 e1 e2 hc1 hb1 da d1 d2 ca
  go_wp2_with fail
  clear d0
  go_region_held3 (fun w' => w'.cell? ⟨w.heap.size, 0, none⟩ = some (.int .i64 5) ∧ w'.cell? ⟨w.heap.size, 1, none⟩ = some (.int .i64 n) ∧ w'.cell? ⟨w.heap.size, 2, none⟩ = some (.string word) ∧ w'.cell? ⟨w.heap.size + 1, 4, none⟩ = some (.iface 156 (.pointer (some a))) ∧ Below w1.heap.size w1 w') (first | exact SA.out | exact SA.out.drew)
    (first
    | (go_at_call 63; refine (word_error n HN.out word ⟨#[109, 105, 115, 115, 105, 110, 103]⟩ a _ (by first | exact hPT.out.below SA.out.2.2.2.2 | exact hPT.out.below SA.out.drew.2.2.2.2) (by first | (rw [SA.out.2.2.2.2.cell (World.block_lt_of_cell? w1 _ DA.out)]; exact DA.out) | (rw [SA.out.drew.2.2.2.2.cell (World.block_lt_of_cell? w1 _ DA.out)]; exact DA.out)) hw (by decide)).mono ?_; rintro e w2 ⟨rfl, hb2⟩; have SA := Lib.hid (by first | exact SA.out.step hb2 | exact SA.out.drew.step hb2 : PK w1 w.heap.size (w.heap.size + 1) 4 5 n word (.iface 156 (.pointer (some a))) w2)))
  all_goals
    go_wp2_with fail
    go_ret
    exact ⟨rfl, HB1.out.trans (SA.out.2.2.2.2.mono HB1.out.size)⟩
set_option maxHeartbeats 2000000 in
set_option maxRecDepth 100000 in
theorem impl_prob_6 (n : Int) (hn : I64 n) (word : ByteArray) (hw : word.size ≤ 2000000) (w : World) (hp : PowTab w) (hS : Sents w) :
    Calls Tryd.prog 35 #[.agg #[.int .i64 6, .int .i64 n, .string word]] w fun e w' => e = .returned (.string (pText n word ⟨#[110, 101, 101, 100, 115, 32, 115, 116, 111, 114, 101, 115]⟩)) ∧ Below w.heap.size w w' := by
  have B0 := (Below.refl w.heap.size w).alloc (Nat.le_refl _) (.cells #[.int .i64 6, .int .i64 n, .string word] 55)
  have HS := Lib.hid (hS.below B0)
  have HP := Lib.hid (hp.below B0)
  have HB := Lib.hid B0
  have HN := Lib.hid hn
  have e0 : (w.alloc (.cells #[.int .i64 6, .int .i64 n, .string word] 55)).cell? ⟨w.heap.size, 0, none⟩ = some (.int .i64 6) := by go_simp
  have e1 : (w.alloc (.cells #[.int .i64 6, .int .i64 n, .string word] 55)).cell? ⟨w.heap.size, 1, none⟩ = some (.int .i64 n) := by go_simp
  have e2 : (w.alloc (.cells #[.int .i64 6, .int .i64 n, .string word] 55)).cell? ⟨w.heap.size, 2, none⟩ = some (.string word) := by go_simp
  have E := Lib.hid (show _ ∧ _ ∧ _ from ⟨e0, e1, e2⟩)
  clear B0 hS hp hn e0 e1 e2
  go_enter Tryd.func35, Tryd.ntmps35
  go_wp2_with fail
  refine (causes_any _ HS.out).mono ?_
  rintro e w1 ⟨rfl, hb1, hs1, hc1⟩
  obtain ⟨a, ca, da⟩ := hc1 5 ⟨#[110, 101, 101, 100, 115, 32, 115, 116, 111, 114, 101, 115]⟩ rfl
  have hPT := Lib.hid (HP.out.below hb1)
  simp only [World.size_alloc] at ca
  obtain ⟨e0, e1, e2⟩ := E.out
  have d0 : w1.cell? ⟨w.heap.size, 0, none⟩ = some (.int .i64 6) := by rw [hb1.cell (p := ⟨w.heap.size, 0, none⟩) (by simp)]; exact e0
  have d1 : w1.cell? ⟨w.heap.size, 1, none⟩ = some (.int .i64 n) := by rw [hb1.cell (p := ⟨w.heap.size, 1, none⟩) (by simp)]; exact e1
  have d2 : w1.cell? ⟨w.heap.size, 2, none⟩ = some (.string word) := by rw [hb1.cell (p := ⟨w.heap.size, 2, none⟩) (by simp)]; exact e2
  have SA : Hid (PK w1 w.heap.size (w.heap.size + 1) 5 6 n word (.iface 156 (.pointer (some a))) w1) := Lib.hid ⟨d0, d1, d2, ca, Below.refl _ _⟩
  have DA := Lib.hid da
  have hwr : IntKind.i64.wrap 5 = 5 := by decide
  have HB1 := Lib.hid (HB.out.trans (hb1.mono (by simp)))
  clear e0 e1 e2 hc1 hb1 da d1 d2 ca
  go_wp2_with fail
  clear d0
  go_region_held3 (fun w' => w'.cell? ⟨w.heap.size, 0, none⟩ = some (.int .i64 6) ∧ w'.cell? ⟨w.heap.size, 1, none⟩ = some (.int .i64 n) ∧ w'.cell? ⟨w.heap.size, 2, none⟩ = some (.string word) ∧ w'.cell? ⟨w.heap.size + 1, 5, none⟩ = some (.iface 156 (.pointer (some a))) ∧ Below w1.heap.size w1 w') (first | exact SA.out | exact SA.out.drew)
    (first
    | (go_at_call 63; refine (word_error n HN.out word ⟨#[110, 101, 101, 100, 115, 32, 115, 116, 111, 114, 101, 115]⟩ a _ (by first | exact hPT.out.below SA.out.2.2.2.2 | exact hPT.out.below SA.out.drew.2.2.2.2) (by first | (rw [SA.out.2.2.2.2.cell (World.block_lt_of_cell? w1 _ DA.out)]; exact DA.out) | (rw [SA.out.drew.2.2.2.2.cell (World.block_lt_of_cell? w1 _ DA.out)]; exact DA.out)) hw (by decide)).mono ?_; rintro e w2 ⟨rfl, hb2⟩; have SA := Lib.hid (by first | exact SA.out.step hb2 | exact SA.out.drew.step hb2 : PK w1 w.heap.size (w.heap.size + 1) 5 6 n word (.iface 156 (.pointer (some a))) w2)))
  all_goals
    go_wp2_with fail
    go_ret
    exact ⟨rfl, HB1.out.trans (SA.out.2.2.2.2.mono HB1.out.size)⟩
end Go.Proofs.YtihbaehfgjkajaaDoor
