/- The nine fields of rules as numbers: what the reference's list of them holds, and rules out of such a list. No conditions. -/
import Derived.Test.YtihbaehfgjkajaaDoorCh2
import Derived.Test.YtihbaehfgjkajaaDoorSlam
import Derived.StillTailTactics
import Derived.Deep.QuietTactic
import Derived.BigQuiet
namespace Go.Proofs.YtihbaehfgjkajaaDoor
open Go.Joins Go.ChangeShapes Go.WideShapes Go.ChangeAt Go.RowKit Go.Deep
set_option linter.unusedVariables false

def bit (b : Bool) : Int := if b then 1 else 0
theorem bit_any (b : Bool) (w : World) : Calls Tryd.prog 73 #[.bool b] w fun e w' => e = .returned (.int .i64 (bit b)) ∧ w' = w := by
  cases b
  · go_enter Tryd.func73, Tryd.ntmps73
    go_wp2
    go_ret
    exact ⟨rfl, rfl⟩
  · go_enter Tryd.func73, Tryd.ntmps73
    go_wp2
    go_ret
    exact ⟨rfl, rfl⟩
/-- The fields as numbers. -/
def valL (p s c l : Int) (st sk re fe ag : Bool) : List Int := [p, s, bit st, bit sk, bit re, bit fe, bit ag, c, l]
/-- The block g holds these numbers, in memory that may be written. -/
def RowI (w : World) (g : Nat) (xs : List Int) : Prop := g < w.heap.size ∧ (∀ (i : Nat) x, xs[i]? = some x → w.cell? ⟨g, i, none⟩ = some (.int .i64 x)) ∧ ∀ o, w.frozen? ⟨g, o, none⟩ = false
theorem RowI.below {w w' : World} {g : Nat} {xs : List Int} (h : RowI w g xs) (k : Below w.heap.size w w') : RowI w' g xs :=
  ⟨Nat.lt_of_lt_of_le h.1 k.size, fun i s hs => by rw [k.cell (p := ⟨g, i, none⟩) h.1]; exact h.2.1 i s hs, fun o => by rw [k.frozen (p := ⟨g, o, none⟩) h.1]; exact h.2.2 o⟩
def NewI (xs : List Int) (n : Nat) (w : World) (e : Ending) (w' : World) : Prop :=
  ∃ g, e = .returned (.slice (some ⟨g, 0, none⟩) n n) ∧ Below w.heap.size w w' ∧ w.heap.size ≤ g ∧ RowI w' g xs
theorem new_I (w w1 : World) (xs : List Int) (n : Nat) (T : TypeId) (hb : Below w.heap.size w w1) : NewI xs n w (.returned (.slice (some ⟨w1.heap.size, 0, none⟩) n n)) (w1.alloc (.cells (xs.map (Value.int .i64)).toArray T)) :=
  ⟨_, rfl, hb.alloc hb.size _, hb.size, by simp, fun i s hs => by simp [World.cell?_alloc_new, hs], fun o => by go_simp⟩

set_option maxHeartbeats 4000000 in
set_option maxRecDepth 100000 in
theorem vals_any (p s c l : Int) (st sk re fe ag : Bool) (b : Nat) (w : World) (c0 : w.cell? ⟨b, 0, none⟩ = some (.int .i64 p)) (c1 : w.cell? ⟨b, 1, none⟩ = some (.int .i64 s)) (c2 : w.cell? ⟨b, 2, none⟩ = some (.bool st)) (c3 : w.cell? ⟨b, 3, none⟩ = some (.bool sk)) (c4 : w.cell? ⟨b, 4, none⟩ = some (.bool re)) (c5 : w.cell? ⟨b, 5, none⟩ = some (.bool fe)) (c6 : w.cell? ⟨b, 6, none⟩ = some (.bool ag)) (c7 : w.cell? ⟨b, 7, none⟩ = some (.int .i64 c)) (c8 : w.cell? ⟨b, 8, none⟩ = some (.int .i64 l)) : Calls Tryd.prog 45 #[.pointer (some ⟨b, 0, none⟩)] w (NewI (valL p s c l st sk re fe ag) 9 w) := by
  obtain ⟨bst, hst⟩ : ∃ x, bit st = x := ⟨_, rfl⟩
  obtain ⟨bsk, hsk⟩ : ∃ x, bit sk = x := ⟨_, rfl⟩
  obtain ⟨bre, hre⟩ : ∃ x, bit re = x := ⟨_, rfl⟩
  obtain ⟨bfe, hfe⟩ : ∃ x, bit fe = x := ⟨_, rfl⟩
  obtain ⟨bag, hag⟩ : ∃ x, bit ag = x := ⟨_, rfl⟩
  have k2 := fun w => hst ▸ bit_any st w
  have k3 := fun w => hsk ▸ bit_any sk w
  have k4 := fun w => hre ▸ bit_any re w
  have k5 := fun w => hfe ▸ bit_any fe w
  have k6 := fun w => hag ▸ bit_any ag w
  unfold valL
  rw [hst, hsk, hre, hfe, hag]
  clear hst hsk hre hfe hag
  go_enter Tryd.func45, Tryd.ntmps45
  go_wp2
  refine wp_region_still_tail 41 (by kernel_rfl) (by kernel_rfl) ?_
  simp only [List.take_succ_cons, List.take_zero, List.drop_succ_cons, List.drop_zero]
  repeat (first
    | still_step
    | still_call (k2 _) | still_call (k3 _) | still_call (k4 _) | still_call (k5 _) | still_call (k6 _))
  try refine wpStill_nil ?_
  have hbd : Below w.heap.size w w.drew := (Below.refl _ _).drew
  change wpList _ _ _ _ _ w.drew
  generalize w.drew = w2 at *
  go_wp2
  go_ret
  exact new_I w w2 _ 9 _ hbd

set_option maxHeartbeats 4000000 in
set_option maxRecDepth 100000 in
theorem rules_any (v0 v1 v2 v3 v4 v5 v6 v7 v8 : Int) (g cap : Nat) (w : World) (h : RowI w g [v0, v1, v2, v3, v4, v5, v6, v7, v8]) : Calls Tryd.prog 46 #[.slice (some ⟨g, 0, none⟩) 9 cap] w fun e w' =>
    e = .returned (.agg #[.int .i64 v0, .int .i64 v1, .bool (v2 == 1), .bool (v3 == 1), .bool (v4 == 1), .bool (v5 == 1), .bool (v6 == 1), .int .i64 v7, .int .i64 v8]) ∧ Below w.heap.size w w' := by
  have hg := h.1
  have d0 := h.2.1 0 _ rfl
  have d1 := h.2.1 1 _ rfl
  have d2 := h.2.1 2 _ rfl
  have d3 := h.2.1 3 _ rfl
  have d4 := h.2.1 4 _ rfl
  have d5 := h.2.1 5 _ rfl
  have d6 := h.2.1 6 _ rfl
  have d7 := h.2.1 7 _ rfl
  have d8 := h.2.1 8 _ rfl
  clear h
  go_enter Tryd.func46, Tryd.ntmps46
  go_wp2
  have HB := Lib.hid ((Below.refl w.heap.size w).alloc (Nat.le_refl _) (.cells #[.int .i64 0, .int .i64 0, .bool false, .bool false, .bool false, .bool false, .bool false, .int .i64 0, .int .i64 0] 25))
  have z0 : (w.alloc (.cells #[.int .i64 0, .int .i64 0, .bool false, .bool false, .bool false, .bool false, .bool false, .int .i64 0, .int .i64 0] 25)).cell? ⟨w.heap.size, 0, none⟩ = some (.int .i64 0) := by go_simp
  have z1 : (w.alloc (.cells #[.int .i64 0, .int .i64 0, .bool false, .bool false, .bool false, .bool false, .bool false, .int .i64 0, .int .i64 0] 25)).cell? ⟨w.heap.size, 1, none⟩ = some (.int .i64 0) := by go_simp
  have z2 : (w.alloc (.cells #[.int .i64 0, .int .i64 0, .bool false, .bool false, .bool false, .bool false, .bool false, .int .i64 0, .int .i64 0] 25)).cell? ⟨w.heap.size, 2, none⟩ = some (.bool false) := by go_simp
  have z3 : (w.alloc (.cells #[.int .i64 0, .int .i64 0, .bool false, .bool false, .bool false, .bool false, .bool false, .int .i64 0, .int .i64 0] 25)).cell? ⟨w.heap.size, 3, none⟩ = some (.bool false) := by go_simp
  have z4 : (w.alloc (.cells #[.int .i64 0, .int .i64 0, .bool false, .bool false, .bool false, .bool false, .bool false, .int .i64 0, .int .i64 0] 25)).cell? ⟨w.heap.size, 4, none⟩ = some (.bool false) := by go_simp
  have z5 : (w.alloc (.cells #[.int .i64 0, .int .i64 0, .bool false, .bool false, .bool false, .bool false, .bool false, .int .i64 0, .int .i64 0] 25)).cell? ⟨w.heap.size, 5, none⟩ = some (.bool false) := by go_simp
  have z6 : (w.alloc (.cells #[.int .i64 0, .int .i64 0, .bool false, .bool false, .bool false, .bool false, .bool false, .int .i64 0, .int .i64 0] 25)).cell? ⟨w.heap.size, 6, none⟩ = some (.bool false) := by go_simp
  have z7 : (w.alloc (.cells #[.int .i64 0, .int .i64 0, .bool false, .bool false, .bool false, .bool false, .bool false, .int .i64 0, .int .i64 0] 25)).cell? ⟨w.heap.size, 7, none⟩ = some (.int .i64 0) := by go_simp
  have z8 : (w.alloc (.cells #[.int .i64 0, .int .i64 0, .bool false, .bool false, .bool false, .bool false, .bool false, .int .i64 0, .int .i64 0] 25)).cell? ⟨w.heap.size, 8, none⟩ = some (.int .i64 0) := by go_simp
  have zf : ∀ o, (w.alloc (.cells #[.int .i64 0, .int .i64 0, .bool false, .bool false, .bool false, .bool false, .bool false, .int .i64 0, .int .i64 0] 25)).frozen? ⟨w.heap.size, o, none⟩ = false := fun o => by go_simp
  rw [← Below.cell HB.out (p := ⟨g, 0, none⟩) hg] at d0
  rw [← Below.cell HB.out (p := ⟨g, 1, none⟩) hg] at d1
  rw [← Below.cell HB.out (p := ⟨g, 2, none⟩) hg] at d2
  rw [← Below.cell HB.out (p := ⟨g, 3, none⟩) hg] at d3
  rw [← Below.cell HB.out (p := ⟨g, 4, none⟩) hg] at d4
  rw [← Below.cell HB.out (p := ⟨g, 5, none⟩) hg] at d5
  rw [← Below.cell HB.out (p := ⟨g, 6, none⟩) hg] at d6
  rw [← Below.cell HB.out (p := ⟨g, 7, none⟩) hg] at d7
  rw [← Below.cell HB.out (p := ⟨g, 8, none⟩) hg] at d8
  generalize w.alloc _ = wa at *
  refine wp_region_still_tail 33 (by kernel_rfl) (by kernel_rfl) ?_
  simp only [List.take_succ_cons, List.take_zero, List.drop_succ_cons, List.drop_zero]
  repeat still_step
  try refine wpStill_nil ?_
  have hbd : Below w.heap.size w wa.drew := HB.out.drew
  have zf2 : ∀ o, wa.drew.frozen? ⟨w.heap.size, o, none⟩ = false := zf
  have z0 : wa.drew.cell? ⟨w.heap.size, 0, none⟩ = _ := z0
  have z1 : wa.drew.cell? ⟨w.heap.size, 1, none⟩ = _ := z1
  have z2 : wa.drew.cell? ⟨w.heap.size, 2, none⟩ = _ := z2
  have z3 : wa.drew.cell? ⟨w.heap.size, 3, none⟩ = _ := z3
  have z4 : wa.drew.cell? ⟨w.heap.size, 4, none⟩ = _ := z4
  have z5 : wa.drew.cell? ⟨w.heap.size, 5, none⟩ = _ := z5
  have z6 : wa.drew.cell? ⟨w.heap.size, 6, none⟩ = _ := z6
  have z7 : wa.drew.cell? ⟨w.heap.size, 7, none⟩ = _ := z7
  have z8 : wa.drew.cell? ⟨w.heap.size, 8, none⟩ = _ := z8
  change wpList _ _ _ _ _ wa.drew
  clear HB zf d0 d1 d2 d3 d4 d5 d6 d7 d8
  generalize wa.drew = w2 at *
  go_wp2
  refine bodyPost_ret (v := .agg #[.int .i64 v0, .int .i64 v1, .bool (v2 == 1), .bool (v3 == 1), .bool (v4 == 1), .bool (v5 == 1), .bool (v6 == 1), .int .i64 v7, .int .i64 v8]) (by simp [results, Tryd.results46, go_sem, z0, z1, z2, z3, z4, z5, z6, z7, z8]) rfl ⟨rfl, ?_⟩
  exact (((((((((hbd.setCell (Nat.le_refl _) _).setCell (Nat.le_refl _) _).setCell (Nat.le_refl _) _).setCell (Nat.le_refl _) _).setCell (Nat.le_refl _) _).setCell (Nat.le_refl _) _).setCell (Nat.le_refl _) _).setCell (Nat.le_refl _) _).setCell (Nat.le_refl _) _)
end Go.Proofs.YtihbaehfgjkajaaDoor
