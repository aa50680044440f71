/- ProblemText of the reference, and at kinds that there are not. No conditions. -/
import Derived.Test.YtihbaehfgjkajaaDoorProbI
namespace Go.Proofs.YtihbaehfgjkajaaDoor
open Go.Joins Go.ChangeShapes Go.WideShapes Go.ChangeAt Go.RowKit Go.Deep
set_option linter.unusedVariables false

set_option maxHeartbeats 2000000 in
set_option maxRecDepth 100000 in
theorem spec_prob_1 (n : Int) (hn : I64 n) (word : ByteArray) (hw : word.size ≤ 2000000) (w : World) :
    Calls Tryd.prog 33 #[.agg #[.int .i64 1, .int .i64 n, .string word]] w fun e w' => e = .returned (.string (pText n word ⟨#[117, 110, 107, 110, 111, 119, 110, 32, 119, 111, 114, 100]⟩)) ∧ Below w.heap.size w w' := by
  have B0 := ((Below.refl w.heap.size w).alloc (Nat.le_refl _) (.cells #[.int .i64 1, .int .i64 n, .string word] 55)).alloc (by simp) (.cells #[.string ⟨#[117, 110, 107, 110, 111, 119, 110, 32, 119, 111, 114, 100]⟩, .string ⟨#[103, 105, 118, 101, 110, 32, 116, 119, 105, 99, 101]⟩, .string ⟨#[110, 111, 116, 32, 97, 32, 110, 117, 109, 98, 101, 114]⟩, .string ⟨#[110, 111, 116, 32, 97, 108, 108, 111, 119, 101, 100]⟩, .string ⟨#[109, 105, 115, 115, 105, 110, 103]⟩, .string ⟨#[110, 101, 101, 100, 115, 32, 115, 116, 111, 114, 101, 115]⟩] 9)
  have HB := Lib.hid B0
  have HN := Lib.hid hn
  obtain ⟨D, hD⟩ : ∃ D : ByteArray, (⟨(Lib.itoa n).toArray⟩ : ByteArray) = D := ⟨_, rfl⟩
  have hDs : D.size ≤ 21 := by rw [← hD]; exact dec_size n hn
  obtain ⟨t, ht⟩ : ∃ t : ByteArray, (⟨#[117, 110, 107, 110, 111, 119, 110, 32, 119, 111, 114, 100]⟩ : ByteArray) = t := ⟨_, rfl⟩
  have hts : t.size ≤ 100 := by rw [← ht]; decide
  have n1 : ¬ 9223372036854775807 < D.size + 2 := by omega
  have n2 : ¬ 9223372036854775807 < D.size + 2 + word.size := by omega
  have n3 : ¬ 9223372036854775807 < D.size + 2 + word.size + 2 := by omega
  have n4 : ¬ 9223372036854775807 < D.size + 2 + word.size + 2 + t.size := by omega
  have hwr : IntKind.i64.wrap 0 = 0 := by decide
  have e0 : ((w.alloc (.cells #[.int .i64 1, .int .i64 n, .string word] 55)).alloc (.cells #[.string ⟨#[117, 110, 107, 110, 111, 119, 110, 32, 119, 111, 114, 100]⟩, .string ⟨#[103, 105, 118, 101, 110, 32, 116, 119, 105, 99, 101]⟩, .string ⟨#[110, 111, 116, 32, 97, 32, 110, 117, 109, 98, 101, 114]⟩, .string ⟨#[110, 111, 116, 32, 97, 108, 108, 111, 119, 101, 100]⟩, .string ⟨#[109, 105, 115, 115, 105, 110, 103]⟩, .string ⟨#[110, 101, 101, 100, 115, 32, 115, 116, 111, 114, 101, 115]⟩] 9)).cell? ⟨w.heap.size, 0, none⟩ = some (.int .i64 1) := by go_simp
  have e1 : ((w.alloc (.cells #[.int .i64 1, .int .i64 n, .string word] 55)).alloc (.cells #[.string ⟨#[117, 110, 107, 110, 111, 119, 110, 32, 119, 111, 114, 100]⟩, .string ⟨#[103, 105, 118, 101, 110, 32, 116, 119, 105, 99, 101]⟩, .string ⟨#[110, 111, 116, 32, 97, 32, 110, 117, 109, 98, 101, 114]⟩, .string ⟨#[110, 111, 116, 32, 97, 108, 108, 111, 119, 101, 100]⟩, .string ⟨#[109, 105, 115, 115, 105, 110, 103]⟩, .string ⟨#[110, 101, 101, 100, 115, 32, 115, 116, 111, 114, 101, 115]⟩] 9)).cell? ⟨w.heap.size, 1, none⟩ = some (.int .i64 n) := by go_simp
  have e2 : ((w.alloc (.cells #[.int .i64 1, .int .i64 n, .string word] 55)).alloc (.cells #[.string ⟨#[117, 110, 107, 110, 111, 119, 110, 32, 119, 111, 114, 100]⟩, .string ⟨#[103, 105, 118, 101, 110, 32, 116, 119, 105, 99, 101]⟩, .string ⟨#[110, 111, 116, 32, 97, 32, 110, 117, 109, 98, 101, 114]⟩, .string ⟨#[110, 111, 116, 32, 97, 108, 108, 111, 119, 101, 100]⟩, .string ⟨#[109, 105, 115, 115, 105, 110, 103]⟩, .string ⟨#[110, 101, 101, 100, 115, 32, 115, 116, 111, 114, 101, 115]⟩] 9)).cell? ⟨w.heap.size, 2, none⟩ = some (.string word) := by go_simp
  have e3 : ((w.alloc (.cells #[.int .i64 1, .int .i64 n, .string word] 55)).alloc (.cells #[.string ⟨#[117, 110, 107, 110, 111, 119, 110, 32, 119, 111, 114, 100]⟩, .string ⟨#[103, 105, 118, 101, 110, 32, 116, 119, 105, 99, 101]⟩, .string ⟨#[110, 111, 116, 32, 97, 32, 110, 117, 109, 98, 101, 114]⟩, .string ⟨#[110, 111, 116, 32, 97, 108, 108, 111, 119, 101, 100]⟩, .string ⟨#[109, 105, 115, 115, 105, 110, 103]⟩, .string ⟨#[110, 101, 101, 100, 115, 32, 115, 116, 111, 114, 101, 115]⟩] 9)).cell? ⟨w.heap.size + 1, 0, none⟩ = some (.string t) := by rw [← ht]; go_simp
  have SA := Lib.hid (show PK _ w.heap.size (w.heap.size + 1) 0 1 n word (.string t) _ from ⟨e0, e1, e2, e3, Below.refl _ _⟩)
  have HD := Lib.hid hD
  have HT := Lib.hid ht
  clear B0 hn hD ht e0 e1 e2 e3
  go_enter Tryd.func33, Tryd.ntmps33
  go_wp2_with fail
  generalize (w.alloc _).alloc _ = w0 at *
  refine (inS_any 1 1 6 _).mono ?_
  rintro e w1 ⟨rfl, hb1⟩
  have hin : inR 1 1 6 = true := by decide
  rw [hin]
  have SA := Lib.hid (SA.out.step hb1)
  clear hin
  go_wp2_with fail
  go_region_held3 (fun w' => w'.cell? ⟨w.heap.size, 0, none⟩ = some (.int .i64 1) ∧ w'.cell? ⟨w.heap.size, 1, none⟩ = some (.int .i64 n) ∧ w'.cell? ⟨w.heap.size, 2, none⟩ = some (.string word) ∧ w'.cell? ⟨w.heap.size + 1, 0, none⟩ = some (.string t) ∧ Below w0.heap.size w0 w') (first | exact SA.out | exact SA.out.drew)
    (first
    | (go_at_call 61; refine (dec_any n HN.out _).mono ?_; rintro e w2 ⟨rfl, hb2⟩; rw [HD.out]; have SA := Lib.hid (by first | exact SA.out.step hb2 | exact SA.out.drew.step hb2 : PK w0 w.heap.size (w.heap.size + 1) 0 1 n word (.string t) w2)))
  all_goals
    go_wp2_with fail
    go_ret
    exact ⟨by unfold pText; rw [HD.out, HT.out]; rfl, HB.out.trans (SA.out.2.2.2.2.mono HB.out.size)⟩
set_option maxHeartbeats 2000000 in
set_option maxRecDepth 100000 in
theorem spec_prob_2 (n : Int) (hn : I64 n) (word : ByteArray) (hw : word.size ≤ 2000000) (w : World) :
    Calls Tryd.prog 33 #[.agg #[.int .i64 2, .int .i64 n, .string word]] w fun e w' => e = .returned (.string (pText n word ⟨#[103, 105, 118, 101, 110, 32, 116, 119, 105, 99, 101]⟩)) ∧ Below w.heap.size w w' := by
  have B0 := ((Below.refl w.heap.size w).alloc (Nat.le_refl _) (.cells #[.int .i64 2, .int .i64 n, .string word] 55)).alloc (by simp) (.cells #[.string ⟨#[117, 110, 107, 110, 111, 119, 110, 32, 119, 111, 114, 100]⟩, .string ⟨#[103, 105, 118, 101, 110, 32, 116, 119, 105, 99, 101]⟩, .string ⟨#[110, 111, 116, 32, 97, 32, 110, 117, 109, 98, 101, 114]⟩, .string ⟨#[110, 111, 116, 32, 97, 108, 108, 111, 119, 101, 100]⟩, .string ⟨#[109, 105, 115, 115, 105, 110, 103]⟩, .string ⟨#[110, 101, 101, 100, 115, 32, 115, 116, 111, 114, 101, 115]⟩] 9)
  have HB := Lib.hid B0
  have HN := Lib.hid hn
  obtain ⟨D, hD⟩ : ∃ D : ByteArray, (⟨(Lib.itoa n).toArray⟩ : ByteArray) = D := ⟨_, rfl⟩
  have hDs : D.size ≤ 21 := by rw [← hD]; exact dec_size n hn
  obtain ⟨t, ht⟩ : ∃ t : ByteArray, (⟨#[103, 105, 118, 101, 110, 32, 116, 119, 105, 99, 101]⟩ : ByteArray) = t := ⟨_, rfl⟩
  have hts : t.size ≤ 100 := by rw [← ht]; decide
  have n1 : ¬ 9223372036854775807 < D.size + 2 := by omega
  have n2 : ¬ 9223372036854775807 < D.size + 2 + word.size := by omega
  have n3 : ¬ 9223372036854775807 < D.size + 2 + word.size + 2 := by omega
  have n4 : ¬ 9223372036854775807 < D.size + 2 + word.size + 2 + t.size := by omega
  have hwr : IntKind.i64.wrap 1 = 1 := by decide
  have e0 : ((w.alloc (.cells #[.int .i64 2, .int .i64 n, .string word] 55)).alloc (.cells #[.string ⟨#[117, 110, 107, 110, 111, 119, 110, 32, 119, 111, 114, 100]⟩, .string ⟨#[103, 105, 118, 101, 110, 32, 116, 119, 105, 99, 101]⟩, .string ⟨#[110, 111, 116, 32, 97, 32, 110, 117, 109, 98, 101, 114]⟩, .string ⟨#[110, 111, 116, 32, 97, 108, 108, 111, 119, 101, 100]⟩, .string ⟨#[109, 105, 115, 115, 105, 110, 103]⟩, .string ⟨#[110, 101, 101, 100, 115, 32, 115, 116, 111, 114, 101, 115]⟩] 9)).cell? ⟨w.heap.size, 0, none⟩ = some (.int .i64 2) := by go_simp
  have e1 : ((w.alloc (.cells #[.int .i64 2, .int .i64 n, .string word] 55)).alloc (.cells #[.string ⟨#[117, 110, 107, 110, 111, 119, 110, 32, 119, 111, 114, 100]⟩, .string ⟨#[103, 105, 118, 101, 110, 32, 116, 119, 105, 99, 101]⟩, .string ⟨#[110, 111, 116, 32, 97, 32, 110, 117, 109, 98, 101, 114]⟩, .string ⟨#[110, 111, 116, 32, 97, 108, 108, 111, 119, 101, 100]⟩, .string ⟨#[109, 105, 115, 115, 105, 110, 103]⟩, .string ⟨#[110, 101, 101, 100, 115, 32, 115, 116, 111, 114, 101, 115]⟩] 9)).cell? ⟨w.heap.size, 1, none⟩ = some (.int .i64 n) := by go_simp
  have e2 : ((w.alloc (.cells #[.int .i64 2, .int .i64 n, .string word] 55)).alloc (.cells #[.string ⟨#[117, 110, 107, 110, 111, 119, 110, 32, 119, 111, 114, 100]⟩, .string ⟨#[103, 105, 118, 101, 110, 32, 116, 119, 105, 99, 101]⟩, .string ⟨#[110, 111, 116, 32, 97, 32, 110, 117, 109, 98, 101, 114]⟩, .string ⟨#[110, 111, 116, 32, 97, 108, 108, 111, 119, 101, 100]⟩, .string ⟨#[109, 105, 115, 115, 105, 110, 103]⟩, .string ⟨#[110, 101, 101, 100, 115, 32, 115, 116, 111, 114, 101, 115]⟩] 9)).cell? ⟨w.heap.size, 2, none⟩ = some (.string word) := by go_simp
  have e3 : ((w.alloc (.cells #[.int .i64 2, .int .i64 n, .string word] 55)).alloc (.cells #[.string ⟨#[117, 110, 107, 110, 111, 119, 110, 32, 119, 111, 114, 100]⟩, .string ⟨#[103, 105, 118, 101, 110, 32, 116, 119, 105, 99, 101]⟩, .string ⟨#[110, 111, 116, 32, 97, 32, 110, 117, 109, 98, 101, 114]⟩, .string ⟨#[110, 111, 116, 32, 97, 108, 108, 111, 119, 101, 100]⟩, .string ⟨#[109, 105, 115, 115, 105, 110, 103]⟩, .string ⟨#[110, 101, 101, 100, 115, 32, 115, 116, 111, 114, 101, 115]⟩] 9)).cell? ⟨w.heap.size + 1, 1, none⟩ = some (.string t) := by rw [← ht]; go_simp
  have SA := Lib.hid (show PK _ w.heap.size (w.heap.size + 1) 1 2 n word (.string t) _ from ⟨e0, e1, e2, e3, Below.refl _ _⟩)
  have HD := Lib.hid hD
  have HT := Lib.hid ht
  clear B0 hn hD ht e0 e1 e2 e3
  go_enter Tryd.func33, Tryd.ntmps33
  go_wp2_with fail
  generalize (w.alloc _).alloc _ = w0 at *
  refine (inS_any 2 1 6 _).mono ?_
  rintro e w1 ⟨rfl, hb1⟩
  have hin : inR 2 1 6 = true := by decide
  rw [hin]
  have SA := Lib.hid (SA.out.step hb1)
  clear hin
  go_wp2_with fail
  go_region_held3 (fun w' => w'.cell? ⟨w.heap.size, 0, none⟩ = some (.int .i64 2) ∧ w'.cell? ⟨w.heap.size, 1, none⟩ = some (.int .i64 n) ∧ w'.cell? ⟨w.heap.size, 2, none⟩ = some (.string word) ∧ w'.cell? ⟨w.heap.size + 1, 1, none⟩ = some (.string t) ∧ Below w0.heap.size w0 w') (first | exact SA.out | exact SA.out.drew)
    (first
    | (go_at_call 61; refine (dec_any n HN.out _).mono ?_; rintro e w2 ⟨rfl, hb2⟩; rw [HD.out]; have SA := Lib.hid (by first | exact SA.out.step hb2 | exact SA.out.drew.step hb2 : PK w0 w.heap.size (w.heap.size + 1) 1 2 n word (.string t) w2)))
  all_goals
    go_wp2_with fail
    go_ret
    exact ⟨by unfold pText; rw [HD.out, HT.out]; rfl, HB.out.trans (SA.out.2.2.2.2.mono HB.out.size)⟩
set_option maxHeartbeats 2000000 in
set_option maxRecDepth 100000 in
theorem spec_prob_3 (n : Int) (hn : I64 n) (word : ByteArray) (hw : word.size ≤ 2000000) (w : World) :
    Calls Tryd.prog 33 #[.agg #[.int .i64 3, .int .i64 n, .string word]] w fun e w' => e = .returned (.string (pText n word ⟨#[110, 111, 116, 32, 97, 32, 110, 117, 109, 98, 101, 114]⟩)) ∧ Below w.heap.size w w' := by
  have B0 := ((Below.refl w.heap.size w).alloc (Nat.le_refl _) (.cells #[.int .i64 3, .int .i64 n, .string word] 55)).alloc (by simp) (.cells #[.string ⟨#[117, 110, 107, 110, 111, 119, 110, 32, 119, 111, 114, 100]⟩, .string ⟨#[103, 105, 118, 101, 110, 32, 116, 119, 105, 99, 101]⟩, .string ⟨#[110, 111, 116, 32, 97, 32, 110, 117, 109, 98, 101, 114]⟩, .string ⟨#[110, 111, 116, 32, 97, 108, 108, 111, 119, 101, 100]⟩, .string ⟨#[109, 105, 115, 115, 105, 110, 103]⟩, .string ⟨#[110, 101, 101, 100, 115, 32, 115, 116, 111, 114, 101, 115]⟩] 9)
  have HB := Lib.hid B0
  have HN := Lib.hid hn
  obtain ⟨D, hD⟩ : ∃ D : ByteArray, (⟨(Lib.itoa n).toArray⟩ : ByteArray) = D := ⟨_, rfl⟩
  have hDs : D.size ≤ 21 := by rw [← hD]; exact dec_size n hn
  obtain ⟨t, ht⟩ : ∃ t : ByteArray, (⟨#[110, 111, 116, 32, 97, 32, 110, 117, 109, 98, 101, 114]⟩ : ByteArray) = t := ⟨_, rfl⟩
  have hts : t.size ≤ 100 := by rw [← ht]; decide
  have n1 : ¬ 9223372036854775807 < D.size + 2 := by omega
  have n2 : ¬ 9223372036854775807 < D.size + 2 + word.size := by omega
  have n3 : ¬ 9223372036854775807 < D.size + 2 + word.size + 2 := by omega
  have n4 : ¬ 9223372036854775807 < D.size + 2 + word.size + 2 + t.size := by omega
  have hwr : IntKind.i64.wrap 2 = 2 := by decide
  have e0 : ((w.alloc (.cells #[.int .i64 3, .int .i64 n, .string word] 55)).alloc (.cells #[.string ⟨#[117, 110, 107, 110, 111, 119, 110, 32, 119, 111, 114, 100]⟩, .string ⟨#[103, 105, 118, 101, 110, 32, 116, 119, 105, 99, 101]⟩, .string ⟨#[110, 111, 116, 32, 97, 32, 110, 117, 109, 98, 101, 114]⟩, .string ⟨#[110, 111, 116, 32, 97, 108, 108, 111, 119, 101, 100]⟩, .string ⟨#[109, 105, 115, 115, 105, 110, 103]⟩, .string ⟨#[110, 101, 101, 100, 115, 32, 115, 116, 111, 114, 101, 115]⟩] 9)).cell? ⟨w.heap.size, 0, none⟩ = some (.int .i64 3) := by go_simp
  have e1 : ((w.alloc (.cells #[.int .i64 3, .int .i64 n, .string word] 55)).alloc (.cells #[.string ⟨#[117, 110, 107, 110, 111, 119, 110, 32, 119, 111, 114, 100]⟩, .string ⟨#[103, 105, 118, 101, 110, 32, 116, 119, 105, 99, 101]⟩, .string ⟨#[110, 111, 116, 32, 97, 32, 110, 117, 109, 98, 101, 114]⟩, .string ⟨#[110, 111, 116, 32, 97, 108, 108, 111, 119, 101, 100]⟩, .string ⟨#[109, 105, 115, 115, 105, 110, 103]⟩, .string ⟨#[110, 101, 101, 100, 115, 32, 115, 116, 111, 114, 101, 115]⟩] 9)).cell? ⟨w.heap.size, 1, none⟩ = some (.int .i64 n) := by go_simp
  have e2 : ((w.alloc (.cells #[.int .i64 3, .int .i64 n, .string word] 55)).alloc (.cells #[.string ⟨#[117, 110, 107, 110, 111, 119, 110, 32, 119, 111, 114, 100]⟩, .string ⟨#[103, 105, 118, 101, 110, 32, 116, 119, 105, 99, 101]⟩, .string ⟨#[110, 111, 116, 32, 97, 32, 110, 117, 109, 98, 101, 114]⟩, .string ⟨#[110, 111, 116, 32, 97, 108, 108, 111, 119, 101, 100]⟩, .string ⟨#[109, 105, 115, 115, 105, 110, 103]⟩, .string ⟨#[110, 101, 101, 100, 115, 32, 115, 116, 111, 114, 101, 115]⟩] 9)).cell? ⟨w.heap.size, 2, none⟩ = some (.string word) := by go_simp
  have e3 : ((w.alloc (.cells #[.int .i64 3, .int .i64 n, .string word] 55)).alloc (.cells #[.string ⟨#[117, 110, 107, 110, 111, 119, 110, 32, 119, 111, 114, 100]⟩, .string ⟨#[103, 105, 118, 101, 110, 32, 116, 119, 105, 99, 101]⟩, .string ⟨#[110, 111, 116, 32, 97, 32, 110, 117, 109, 98, 101, 114]⟩, .string ⟨#[110, 111, 116, 32, 97, 108, 108, 111, 119, 101, 100]⟩, .string ⟨#[109, 105, 115, 115, 105, 110, 103]⟩, .string ⟨#[110, 101, 101, 100, 115, 32, 115, 116, 111, 114, 101, 115]⟩] 9)).cell? ⟨w.heap.size + 1, 2, none⟩ = some (.string t) := by rw [← ht]; go_simp
  have SA := Lib.hid (show PK _ w.heap.size (w.heap.size + 1) 2 3 n word (.string t) _ from ⟨e0, e1, e2, e3, Below.refl _ _⟩)
  have HD := Lib.hid hD
  have HT := Lib.hid ht
  clear B0 hn hD ht e0 e1 e2 e3
  go_enter Tryd.func33, Tryd.ntmps33
  go_wp2_with fail
  generalize (w.alloc _).alloc _ = w0 at *
  refine (inS_any 3 1 6 _).mono ?_
  rintro e w1 ⟨rfl, hb1⟩
  have hin : inR 3 1 6 = true := by decide
  rw [hin]
  have SA := Lib.hid (SA.out.step hb1)
  clear hin
  go_wp2_with fail
  go_region_held3 (fun w' => w'.cell? ⟨w.heap.size, 0, none⟩ = some (.int .i64 3) ∧ w'.cell? ⟨w.heap.size, 1, none⟩ = some (.int .i64 n) ∧ w'.cell? ⟨w.heap.size, 2, none⟩ = some (.string word) ∧ w'.cell? ⟨w.heap.size + 1, 2, none⟩ = some (.string t) ∧ Below w0.heap.size w0 w') (first | exact SA.out | exact SA.out.drew)
    (first
    | (go_at_call 61; refine (dec_any n HN.out _).mono ?_; rintro e w2 ⟨rfl, hb2⟩; rw [HD.out]; have SA := Lib.hid (by first | exact SA.out.step hb2 | exact SA.out.drew.step hb2 : PK w0 w.heap.size (w.heap.size + 1) 2 3 n word (.string t) w2)))
  all_goals
    go_wp2_with fail
    go_ret
    exact ⟨by unfold pText; rw [HD.out, HT.out]; rfl, HB.out.trans (SA.out.2.2.2.2.mono HB.out.size)⟩
set_option maxHeartbeats 2000000 in
set_option maxRecDepth 100000 in
theorem spec_prob_4 (n : Int) (hn : I64 n) (word : ByteArray) (hw : word.size ≤ 2000000) (w : World) :
    Calls Tryd.prog 33 #[.agg #[.int .i64 4, .int .i64 n, .string word]] w fun e w' => e = .returned (.string (pText n word ⟨#[110, 111, 116, 32, 97, 108, 108, 111, 119, 101, 100]⟩)) ∧ Below w.heap.size w w' := by
  have B0 := ((Below.refl w.heap.size w).alloc (Nat.le_refl _) (.cells #[.int .i64 4, .int .i64 n, .string word] 55)).alloc (by simp) (.cells #[.string ⟨#[117, 110, 107, 110, 111, 119, 110, 32, 119, 111, 114, 100]⟩, .string ⟨#[103, 105, 118, 101, 110, 32, 116, 119, 105, 99, 101]⟩, .string ⟨#[110, 111, 116, 32, 97, 32, 110, 117, 109, 98, 101, 114]⟩, .string ⟨#[110, 111, 116, 32, 97, 108, 108, 111, 119, 101, 100]⟩, .string ⟨#[109, 105, 115, 115, 105, 110, 103]⟩, .string ⟨#[110, 101, 101, 100, 115, 32, 115, 116, 111, 114, 101, 115]⟩] 9)
  have HB := Lib.hid B0
  have HN := Lib.hid hn
  obtain ⟨D, hD⟩ : ∃ D : ByteArray, (⟨(Lib.itoa n).toArray⟩ : ByteArray) = D := ⟨_, rfl⟩
  have hDs : D.size ≤ 21 := by rw [← hD]; exact dec_size n hn
  obtain ⟨t, ht⟩ : ∃ t : ByteArray, (⟨#[110, 111, 116, 32, 97, 108, 108, 111, 119, 101, 100]⟩ : ByteArray) = t := ⟨_, rfl⟩
  have hts : t.size ≤ 100 := by rw [← ht]; decide
  have n1 : ¬ 9223372036854775807 < D.size + 2 := by omega
  have n2 : ¬ 9223372036854775807 < D.size + 2 + word.size := by omega
  have n3 : ¬ 9223372036854775807 < D.size + 2 + word.size + 2 := by omega
  have n4 : ¬ 9223372036854775807 < D.size + 2 + word.size + 2 + t.size := by omega
  have hwr : IntKind.i64.wrap 3 = 3 := by decide
  have e0 : ((w.alloc (.cells #[.int .i64 4, .int .i64 n, .string word] 55)).alloc (.cells #[.string ⟨#[117, 110, 107, 110, 111, 119, 110, 32, 119, 111, 114, 100]⟩, .string ⟨#[103, 105, 118, 101, 110, 32, 116, 119, 105, 99, 101]⟩, .string ⟨#[110, 111, 116, 32, 97, 32, 110, 117, 109, 98, 101, 114]⟩, .string ⟨#[110, 111, 116, 32, 97, 108, 108, 111, 119, 101, 100]⟩, .string ⟨#[109, 105, 115, 115, 105, 110, 103]⟩, .string ⟨#[110, 101, 101, 100, 115, 32, 115, 116, 111, 114, 101, 115]⟩] 9)).cell? ⟨w.heap.size, 0, none⟩ = some (.int .i64 4) := by go_simp
  have e1 : ((w.alloc (.cells #[.int .i64 4, .int .i64 n, .string word] 55)).alloc (.cells #[.string ⟨#[117, 110, 107, 110, 111, 119, 110, 32, 119, 111, 114, 100]⟩, .string ⟨#[103, 105, 118, 101, 110, 32, 116, 119, 105, 99, 101]⟩, .string ⟨#[110, 111, 116, 32, 97, 32, 110, 117, 109, 98, 101, 114]⟩, .string ⟨#[110, 111, 116, 32, 97, 108, 108, 111, 119, 101, 100]⟩, .string ⟨#[109, 105, 115, 115, 105, 110, 103]⟩, .string ⟨#[110, 101, 101, 100, 115, 32, 115, 116, 111, 114, 101, 115]⟩] 9)).cell? ⟨w.heap.size, 1, none⟩ = some (.int .i64 n) := by go_simp
  have e2 : ((w.alloc (.cells #[.int .i64 4, .int .i64 n, .string word] 55)).alloc (.cells #[.string ⟨#[117, 110, 107, 110, 111, 119, 110, 32, 119, 111, 114, 100]⟩, .string ⟨#[103, 105, 118, 101, 110, 32, 116, 119, 105, 99, 101]⟩, .string ⟨#[110, 111, 116, 32, 97, 32, 110, 117, 109, 98, 101, 114]⟩, .string ⟨#[110, 111, 116, 32, 97, 108, 108, 111, 119, 101, 100]⟩, .string ⟨#[109, 105, 115, 115, 105, 110, 103]⟩, .string ⟨#[110, 101, 101, 100, 115, 32, 115, 116, 111, 114, 101, 115]⟩] 9)).cell? ⟨w.heap.size, 2, none⟩ = some (.string word) := by go_simp
  have e3 : ((w.alloc (.cells #[.int .i64 4, .int .i64 n, .string word] 55)).alloc (.cells #[.string ⟨#[117, 110, 107, 110, 111, 119, 110, 32, 119, 111, 114, 100]⟩, .string ⟨#[103, 105, 118, 101, 110, 32, 116, 119, 105, 99, 101]⟩, .string ⟨#[110, 111, 116, 32, 97, 32, 110, 117, 109, 98, 101, 114]⟩, .string ⟨#[110, 111, 116, 32, 97, 108, 108, 111, 119, 101, 100]⟩, .string ⟨#[109, 105, 115, 115, 105, 110, 103]⟩, .string ⟨#[110, 101, 101, 100, 115, 32, 115, 116, 111, 114, 101, 115]⟩] 9)).cell? ⟨w.heap.size + 1, 3, none⟩ = some (.string t) := by rw [← ht]; go_simp
  have SA := Lib.hid (show PK _ w.heap.size (w.heap.size + 1) 3 4 n word (.string t) _ from ⟨e0, e1, e2, e3, Below.refl _ _⟩)
  have HD := Lib.hid hD
  have HT := Lib.hid ht
  clear B0 hn hD ht e0 e1 e2 e3
  go_enter Tryd.func33, Tryd.ntmps33
  go_wp2_with fail
  generalize (w.alloc _).alloc _ = w0 at *
  refine (inS_any 4 1 6 _).mono ?_
  rintro e w1 ⟨rfl, hb1⟩
  have hin : inR 4 1 6 = true := by decide
  rw [hin]
  have SA := Lib.hid (SA.out.step hb1)
  clear hin
  go_wp2_with fail
  go_region_held3 (fun w' => w'.cell? ⟨w.heap.size, 0, none⟩ = some (.int .i64 4) ∧ w'.cell? ⟨w.heap.size, 1, none⟩ = some (.int .i64 n) ∧ w'.cell? ⟨w.heap.size, 2, none⟩ = some (.string word) ∧ w'.cell? ⟨w.heap.size + 1, 3, none⟩ = some (.string t) ∧ Below w0.heap.size w0 w') (first | exact SA.out | exact SA.out.drew)
    (first
    | (go_at_call 61; refine (dec_any n HN.out _).mono ?_; rintro e w2 ⟨rfl, hb2⟩; rw [HD.out]; have SA := Lib.hid (by first | exact SA.out.step hb2 | exact SA.out.drew.step hb2 : PK w0 w.heap.size (w.heap.size + 1) 3 4 n word (.string t) w2)))
  all_goals
    go_wp2_with fail
    go_ret
    exact ⟨by unfold pText; rw [HD.out, HT.out]; rfl, HB.out.trans (SA.out.2.2.2.2.mono HB.out.size)⟩
set_option maxHeartbeats 2000000 in
set_option maxRecDepth 100000 in
theorem spec_prob_5 (n : Int) (hn : I64 n) (word : ByteArray) (hw : word.size ≤ 2000000) (w : World) :
    Calls Tryd.prog 33 #[.agg #[.int .i64 5, .int .i64 n, .string word]] w fun e w' => e = .returned (.string (pText n word ⟨#[109, 105, 115, 115, 105, 110, 103]⟩)) ∧ Below w.heap.size w w' := by
  have B0 := ((Below.refl w.heap.size w).alloc (Nat.le_refl _) (.cells #[.int .i64 5, .int .i64 n, .string word] 55)).alloc (by simp) (.cells #[.string ⟨#[117, 110, 107, 110, 111, 119, 110, 32, 119, 111, 114, 100]⟩, .string ⟨#[103, 105, 118, 101, 110, 32, 116, 119, 105, 99, 101]⟩, .string ⟨#[110, 111, 116, 32, 97, 32, 110, 117, 109, 98, 101, 114]⟩, .string ⟨#[110, 111, 116, 32, 97, 108, 108, 111, 119, 101, 100]⟩, .string ⟨#[109, 105, 115, 115, 105, 110, 103]⟩, .string ⟨#[110, 101, 101, 100, 115, 32, 115, 116, 111, 114, 101, 115]⟩] 9)
  have HB := Lib.hid B0
  have HN := Lib.hid hn
  obtain ⟨D, hD⟩ : ∃ D : ByteArray, (⟨(Lib.itoa n).toArray⟩ : ByteArray) = D := ⟨_, rfl⟩
  have hDs : D.size ≤ 21 := by rw [← hD]; exact dec_size n hn
  obtain ⟨t, ht⟩ : ∃ t : ByteArray, (⟨#[109, 105, 115, 115, 105, 110, 103]⟩ : ByteArray) = t := ⟨_, rfl⟩
  have hts : t.size ≤ 100 := by rw [← ht]; decide
  have n1 : ¬ 9223372036854775807 < D.size + 2 := by omega
  have n2 : ¬ 9223372036854775807 < D.size + 2 + word.size := by omega
  have n3 : ¬ 9223372036854775807 < D.size + 2 + word.size + 2 := by omega
  have n4 : ¬ 9223372036854775807 < D.size + 2 + word.size + 2 + t.size := by omega
  have hwr : IntKind.i64.wrap 4 = 4 := by decide
  have e0 : ((w.alloc (.cells #[.int .i64 5, .int .i64 n, .string word] 55)).alloc (.cells #[.string ⟨#[117, 110, 107, 110, 111, 119, 110, 32, 119, 111, 114, 100]⟩, .string ⟨#[103, 105, 118, 101, 110, 32, 116, 119, 105, 99, 101]⟩, .string ⟨#[110, 111, 116, 32, 97, 32, 110, 117, 109, 98, 101, 114]⟩, .string ⟨#[110, 111, 116, 32, 97, 108, 108, 111, 119, 101, 100]⟩, .string ⟨#[109, 105, 115, 115, 105, 110, 103]⟩, .string ⟨#[110, 101, 101, 100, 115, 32, 115, 116, 111, 114, 101, 115]⟩] 9)).cell? ⟨w.heap.size, 0, none⟩ = some (.int .i64 5) := by go_simp
  have e1 : ((w.alloc (.cells #[.int .i64 5, .int .i64 n, .string word] 55)).alloc (.cells #[.string ⟨#[117, 110, 107, 110, 111, 119, 110, 32, 119, 111, 114, 100]⟩, .string ⟨#[103, 105, 118, 101, 110, 32, 116, 119, 105, 99, 101]⟩, .string ⟨#[110, 111, 116, 32, 97, 32, 110, 117, 109, 98, 101, 114]⟩, .string ⟨#[110, 111, 116, 32, 97, 108, 108, 111, 119, 101, 100]⟩, .string ⟨#[109, 105, 115, 115, 105, 110, 103]⟩, .string ⟨#[110, 101, 101, 100, 115, 32, 115, 116, 111, 114, 101, 115]⟩] 9)).cell? ⟨w.heap.size, 1, none⟩ = some (.int .i64 n) := by go_simp
  have e2 : ((w.alloc (.cells #[.int .i64 5, .int .i64 n, .string word] 55)).alloc (.cells #[.string ⟨#[117, 110, 107, 110, 111, 119, 110, 32, 119, 111, 114, 100]⟩, .string ⟨#[103, 105, 118, 101, 110, 32, 116, 119, 105, 99, 101]⟩, .string ⟨#[110, 111, 116, 32, 97, 32, 110, 117, 109, 98, 101, 114]⟩, .string ⟨#[110, 111, 116, 32, 97, 108, 108, 111, 119, 101, 100]⟩, .string ⟨#[109, 105, 115, 115, 105, 110, 103]⟩, .string ⟨#[110, 101, 101, 100, 115, 32, 115, 116, 111, 114, 101, 115]⟩] 9)).cell? ⟨w.heap.size, 2, none⟩ = some (.string word) := by go_simp
  have e3 : ((w.alloc (.cells #[.int .i64 5, .int .i64 n, .string word] 55)).alloc (.cells #[.string ⟨#[117, 110, 107, 110, 111, 119, 110, 32, 119, 111, 114, 100]⟩, .string ⟨#[103, 105, 118, 101, 110, 32, 116, 119, 105, 99, 101]⟩, .string ⟨#[110, 111, 116, 32, 97, 32, 110, 117, 109, 98, 101, 114]⟩, .string ⟨#[110, 111, 116, 32, 97, 108, 108, 111, 119, 101, 100]⟩, .string ⟨#[109, 105, 115, 115, 105, 110, 103]⟩, .string ⟨#[110, 101, 101, 100, 115, 32, 115, 116, 111, 114, 101, 115]⟩] 9)).cell? ⟨w.heap.size + 1, 4, none⟩ = some (.string t) := by rw [← ht]; go_simp
  have SA := Lib.hid (show PK _ w.heap.size (w.heap.size + 1) 4 5 n word (.string t) _ from ⟨e0, e1, e2, e3, Below.refl _ _⟩)
  have HD := Lib.hid hD
  have HT := Lib.hid ht
  clear B0 hn hD ht e0 e1 e2 e3
  go_enter Tryd.func33, Tryd.ntmps33
  go_wp2_with fail
  generalize (w.alloc _).alloc _ = w0 at *
  refine (inS_any 5 1 6 _).mono ?_
  rintro e w1 ⟨rfl, hb1⟩
  have hin : inR 5 1 6 = true := by decide
  rw [hin]
  have SA := Lib.hid (SA.out.step hb1)
  clear hin
  go_wp2_with fail
  go_region_held3 (fun w' => w'.cell? ⟨w.heap.size, 0, none⟩ = some (.int .i64 5) ∧ w'.cell? ⟨w.heap.size, 1, none⟩ = some (.int .i64 n) ∧ w'.cell? ⟨w.heap.size, 2, none⟩ = some (.string word) ∧ w'.cell? ⟨w.heap.size + 1, 4, none⟩ = some (.string t) ∧ Below w0.heap.size w0 w') (first | exact SA.out | exact SA.out.drew)
    (first
    | (go_at_call 61; refine (dec_any n HN.out _).mono ?_; rintro e w2 ⟨rfl, hb2⟩; rw [HD.out]; have SA := Lib.hid (by first | exact SA.out.step hb2 | exact SA.out.drew.step hb2 : PK w0 w.heap.size (w.heap.size + 1) 4 5 n word (.string t) w2)))
  all_goals
    go_wp2_with fail
    go_ret
    exact ⟨by unfold pText; rw [HD.out, HT.out]; rfl, HB.out.trans (SA.out.2.2.2.2.mono HB.out.size)⟩
set_option maxHeartbeats 2000000 in
set_option maxRecDepth 100000 in
theorem spec_prob_6 (n : Int) (hn : I64 n) (word : ByteArray) (hw : word.size ≤ 2000000) (w : World) :
    Calls Tryd.prog 33 #[.agg #[.int .i64 6, .int .i64 n, .string word]] w fun e w' => e = .returned (.string (pText n word ⟨#[110, 101, 101, 100, 115, 32, 115, 116, 111, 114, 101, 115]⟩)) ∧ Below w.heap.size w w' := by
  have B0 := ((Below.refl w.heap.size w).alloc (Nat.le_refl _) (.cells #[.int .i64 6, .int .i64 n, .string word] 55)).alloc (by simp) (.cells #[.string ⟨#[117, 110, 107, 110, 111, 119, 110, 32, 119, 111, 114, 100]⟩, .string ⟨#[103, 105, 118, 101, 110, 32, 116, 119, 105, 99, 101]⟩, .string ⟨#[110, 111, 116, 32, 97, 32, 110, 117, 109, 98, 101, 114]⟩, .string ⟨#[110, 111, 116, 32, 97, 108, 108, 111, 119, 101, 100]⟩, .string ⟨#[109, 105, 115, 115, 105, 110, 103]⟩, .string ⟨#[110, 101, 101, 100, 115, 32, 115, 116, 111, 114, 101, 115]⟩] 9)
  have HB := Lib.hid B0
  have HN := Lib.hid hn
  obtain ⟨D, hD⟩ : ∃ D : ByteArray, (⟨(Lib.itoa n).toArray⟩ : ByteArray) = D := ⟨_, rfl⟩
  have hDs : D.size ≤ 21 := by rw [← hD]; exact dec_size n hn
  obtain ⟨t, ht⟩ : ∃ t : ByteArray, (⟨#[110, 101, 101, 100, 115, 32, 115, 116, 111, 114, 101, 115]⟩ : ByteArray) = t := ⟨_, rfl⟩
  have hts : t.size ≤ 100 := by rw [← ht]; decide
  have n1 : ¬ 9223372036854775807 < D.size + 2 := by omega
  have n2 : ¬ 9223372036854775807 < D.size + 2 + word.size := by omega
  have n3 : ¬ 9223372036854775807 < D.size + 2 + word.size + 2 := by omega
  have n4 : ¬ 9223372036854775807 < D.size + 2 + word.size + 2 + t.size := by omega
  have hwr : IntKind.i64.wrap 5 = 5 := by decide
  have e0 : ((w.alloc (.cells #[.int .i64 6, .int .i64 n, .string word] 55)).alloc (.cells #[.string ⟨#[117, 110, 107, 110, 111, 119, 110, 32, 119, 111, 114, 100]⟩, .string ⟨#[103, 105, 118, 101, 110, 32, 116, 119, 105, 99, 101]⟩, .string ⟨#[110, 111, 116, 32, 97, 32, 110, 117, 109, 98, 101, 114]⟩, .string ⟨#[110, 111, 116, 32, 97, 108, 108, 111, 119, 101, 100]⟩, .string ⟨#[109, 105, 115, 115, 105, 110, 103]⟩, .string ⟨#[110, 101, 101, 100, 115, 32, 115, 116, 111, 114, 101, 115]⟩] 9)).cell? ⟨w.heap.size, 0, none⟩ = some (.int .i64 6) := by go_simp
  have e1 : ((w.alloc (.cells #[.int .i64 6, .int .i64 n, .string word] 55)).alloc (.cells #[.string ⟨#[117, 110, 107, 110, 111, 119, 110, 32, 119, 111, 114, 100]⟩, .string ⟨#[103, 105, 118, 101, 110, 32, 116, 119, 105, 99, 101]⟩, .string ⟨#[110, 111, 116, 32, 97, 32, 110, 117, 109, 98, 101, 114]⟩, .string ⟨#[110, 111, 116, 32, 97, 108, 108, 111, 119, 101, 100]⟩, .string ⟨#[109, 105, 115, 115, 105, 110, 103]⟩, .string ⟨#[110, 101, 101, 100, 115, 32, 115, 116, 111, 114, 101, 115]⟩] 9)).cell? ⟨w.heap.size, 1, none⟩ = some (.int .i64 n) := by go_simp
  have e2 : ((w.alloc (.cells #[.int .i64 6, .int .i64 n, .string word] 55)).alloc (.cells #[.string ⟨#[117, 110, 107, 110, 111, 119, 110, 32, 119, 111, 114, 100]⟩, .string ⟨#[103, 105, 118, 101, 110, 32, 116, 119, 105, 99, 101]⟩, .string ⟨#[110, 111, 116, 32, 97, 32, 110, 117, 109, 98, 101, 114]⟩, .string ⟨#[110, 111, 116, 32, 97, 108, 108, 111, 119, 101, 100]⟩, .string ⟨#[109, 105, 115, 115, 105, 110, 103]⟩, .string ⟨#[110, 101, 101, 100, 115, 32, 115, 116, 111, 114, 101, 115]⟩] 9)).cell? ⟨w.heap.size, 2, none⟩ = some (.string word) := by go_simp
  have e3 : ((w.alloc (.cells #[.int .i64 6, .int .i64 n, .string word] 55)).alloc (.cells #[.string ⟨#[117, 110, 107, 110, 111, 119, 110, 32, 119, 111, 114, 100]⟩, .string ⟨#[103, 105, 118, 101, 110, 32, 116, 119, 105, 99, 101]⟩, .string ⟨#[110, 111, 116, 32, 97, 32, 110, 117, 109, 98, 101, 114]⟩, .string ⟨#[110, 111, 116, 32, 97, 108, 108, 111, 119, 101, 100]⟩, .string ⟨#[109, 105, 115, 115, 105, 110, 103]⟩, .string ⟨#[110, 101, 101, 100, 115, 32, 115, 116, 111, 114, 101, 115]⟩] 9)).cell? ⟨w.heap.size + 1, 5, none⟩ = some (.string t) := by rw [← ht]; go_simp
  have SA := Lib.hid (show PK _ w.heap.size (w.heap.size + 1) 5 6 n word (.string t) _ from ⟨e0, e1, e2, e3, Below.refl _ _⟩)
  have HD := Lib.hid hD
  have HT := Lib.hid ht
  clear B0 hn hD ht e0 e1 e2 e3
  go_enter Tryd.func33, Tryd.ntmps33
  go_wp2_with fail
  generalize (w.alloc _).alloc _ = w0 at *
  refine (inS_any 6 1 6 _).mono ?_
  rintro e w1 ⟨rfl, hb1⟩
  have hin : inR 6 1 6 = true := by decide
  rw [hin]
  have SA := Lib.hid (SA.out.step hb1)
  clear hin
  go_wp2_with fail
  go_region_held3 (fun w' => w'.cell? ⟨w.heap.size, 0, none⟩ = some (.int .i64 6) ∧ w'.cell? ⟨w.heap.size, 1, none⟩ = some (.int .i64 n) ∧ w'.cell? ⟨w.heap.size, 2, none⟩ = some (.string word) ∧ w'.cell? ⟨w.heap.size + 1, 5, none⟩ = some (.string t) ∧ Below w0.heap.size w0 w') (first | exact SA.out | exact SA.out.drew)
    (first
    | (go_at_call 61; refine (dec_any n HN.out _).mono ?_; rintro e w2 ⟨rfl, hb2⟩; rw [HD.out]; have SA := Lib.hid (by first | exact SA.out.step hb2 | exact SA.out.drew.step hb2 : PK w0 w.heap.size (w.heap.size + 1) 5 6 n word (.string t) w2)))
  all_goals
    go_wp2_with fail
    go_ret
    exact ⟨by unfold pText; rw [HD.out, HT.out]; rfl, HB.out.trans (SA.out.2.2.2.2.mono HB.out.size)⟩

theorem impl_prob_bad (k n : Int) (word : ByteArray) (hk : ¬ (1 ≤ k ∧ k ≤ 6)) (w : World) (hS : Sents w) :
    Calls Tryd.prog 35 #[.agg #[.int .i64 k, .int .i64 n, .string word]] w fun e w' => e = .returned (.string ⟨#[]⟩) ∧ Below w.heap.size w w' := by
  have B0 := (Below.refl w.heap.size w).alloc (Nat.le_refl _) (.cells #[.int .i64 k, .int .i64 n, .string word] 55)
  have HS := Lib.hid (hS.below B0)
  have HB := Lib.hid B0
  have e0 : (w.alloc (.cells #[.int .i64 k, .int .i64 n, .string word] 55)).cell? ⟨w.heap.size, 0, none⟩ = some (.int .i64 k) := by go_simp
  have E := Lib.hid e0
  clear B0 hS e0
  by_cases h1 : k < 1
  all_goals
    go_enter Tryd.func35, Tryd.ntmps35
    go_wp2_with fail
    refine (causes_any _ HS.out).mono ?_
    rintro e w1 ⟨rfl, hb1, hs1, hc1⟩
    have d0 : w1.cell? ⟨w.heap.size, 0, none⟩ = some (.int .i64 k) := by rw [hb1.cell (p := ⟨w.heap.size, 0, none⟩) (by simp)]; exact E.out
    have HB1 := Lib.hid (HB.out.trans (hb1.mono (by simp)))
    have h6 : k < 1 ∨ 6 < k := by omega
    clear hc1 hb1 hk
    rcases h6 with h8 | h8
    all_goals first
      | (exfalso; omega)
      | (go_wp2; go_ret; exact ⟨rfl, HB1.out⟩)
theorem spec_prob_bad (k n : Int) (word : ByteArray) (hk : ¬ (1 ≤ k ∧ k ≤ 6)) (w : World) :
    Calls Tryd.prog 33 #[.agg #[.int .i64 k, .int .i64 n, .string word]] w fun e w' => e = .returned (.string ⟨#[]⟩) ∧ Below w.heap.size w w' := by
  have B0 := ((Below.refl w.heap.size w).alloc (Nat.le_refl _) (.cells #[.int .i64 k, .int .i64 n, .string word] 55)).alloc (by simp) (.cells #[.string ⟨#[117, 110, 107, 110, 111, 119, 110, 32, 119, 111, 114, 100]⟩, .string ⟨#[103, 105, 118, 101, 110, 32, 116, 119, 105, 99, 101]⟩, .string ⟨#[110, 111, 116, 32, 97, 32, 110, 117, 109, 98, 101, 114]⟩, .string ⟨#[110, 111, 116, 32, 97, 108, 108, 111, 119, 101, 100]⟩, .string ⟨#[109, 105, 115, 115, 105, 110, 103]⟩, .string ⟨#[110, 101, 101, 100, 115, 32, 115, 116, 111, 114, 101, 115]⟩] 9)
  have HB := Lib.hid B0
  have hin : inR k 1 6 = false := by
    rw [← Bool.not_eq_true]
    simp only [inR, Bool.and_eq_true, decide_eq_true_eq]
    exact hk
  clear B0 hk
  go_enter Tryd.func33, Tryd.ntmps33
  go_wp2_with fail
  refine (inS_any k 1 6 _).mono ?_
  rintro e w1 ⟨rfl, hb1⟩
  rw [hin]
  have HB1 := HB.out.trans (hb1.mono HB.out.size)
  clear hin
  go_wp2_with fail
  go_ret
  exact ⟨rfl, HB1⟩
end Go.Proofs.YtihbaehfgjkajaaDoor
