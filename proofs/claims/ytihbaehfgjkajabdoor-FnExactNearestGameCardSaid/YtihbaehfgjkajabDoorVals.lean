/- The nine fields of rules as numbers: what the reference's list of them holds, and rules out of such a list. No conditions. -/
import Derived.Test.YtihbaehfgjkajabDoorCh2
import Derived.Test.YtihbaehfgjkajabDoorSlam
import Derived.StillTailTactics
import Derived.Deep.QuietTactic
import Derived.BigQuiet
namespace Go.Proofs.YtihbaehfgjkajabDoor
open Go.Joins Go.ChangeShapes Go.WideShapes Go.ChangeAt Go.RowKit Go.Deep
set_option linter.unusedVariables false

def bit (b : Bool) : Int := if b then 1 else 0
theorem bit_any (b : Bool) (w : World) : Calls Tryd.prog 28 #[.bool b] w fun e w' => e = .returned (.int .i64 (bit b)) ∧ w' = w := by
  cases b
  · go_enter Tryd.func28, Tryd.ntmps28
    go_wp2
    go_ret
    exact ⟨rfl, rfl⟩
  · go_enter Tryd.func28, Tryd.ntmps28
    go_wp2
    go_ret
    exact ⟨rfl, rfl⟩
/-- The fields as numbers. -/
def valL (p s c l : Int) (st sk re fe ag : Bool) : List Int := [p, s, bit st, bit sk, bit re, bit fe, bit ag, c, l]
/-- The block g holds these numbers, in memory that may be written. -/
def RowI (w : World) (g : Nat) (xs : List Int) : Prop := g < w.heap.size ∧ (∀ (i : Nat) x, xs[i]? = some x → w.cell? ⟨g, i, none⟩ = some (.int .i64 x)) ∧ ∀ o, w.frozen? ⟨g, o, none⟩ = false
theorem RowI.below {w w' : World} {g : Nat} {xs : List Int} (h : RowI w g xs) (k : Below w.heap.size w w') : RowI w' g xs :=
  ⟨Nat.lt_of_lt_of_le h.1 k.size, fun i s hs => by rw [k.cell (p := ⟨g, i, none⟩) h.1]; exact h.2.1 i s hs, fun o => by rw [k.frozen (p := ⟨g, o, none⟩) h.1]; exact h.2.2 o⟩
def NewI (xs : List Int) (n : Nat) (w : World) (e : Ending) (w' : World) : Prop :=
  ∃ g, e = .returned (.slice (some ⟨g, 0, none⟩) n n) ∧ Below w.heap.size w w' ∧ w.heap.size ≤ g ∧ RowI w' g xs
theorem new_I (w w1 : World) (xs : List Int) (n : Nat) (T : TypeId) (hb : Below w.heap.size w w1) : NewI xs n w (.returned (.slice (some ⟨w1.heap.size, 0, none⟩) n n)) (w1.alloc (.cells (xs.map (Value.int .i64)).toArray T)) :=
  ⟨_, rfl, hb.alloc hb.size _, hb.size, by simp, fun i s hs => by simp [World.cell?_alloc_new, hs], fun o => by go_simp⟩

set_option maxHeartbeats 4000000 in
set_option maxRecDepth 100000 in
theorem vals_any (p s c l : Int) (st sk re fe ag : Bool) (b : Nat) (w : World) (c0 : w.cell? ⟨b, 0, none⟩ = some (.int .i64 p)) (c1 : w.cell? ⟨b, 1, none⟩ = some (.int .i64 s)) (c2 : w.cell? ⟨b, 2, none⟩ = some (.bool st)) (c3 : w.cell? ⟨b, 3, none⟩ = some (.bool sk)) (c4 : w.cell? ⟨b, 4, none⟩ = some (.bool re)) (c5 : w.cell? ⟨b, 5, none⟩ = some (.bool fe)) (c6 : w.cell? ⟨b, 6, none⟩ = some (.bool ag)) (c7 : w.cell? ⟨b, 7, none⟩ = some (.int .i64 c)) (c8 : w.cell? ⟨b, 8, none⟩ = some (.int .i64 l)) : Calls Tryd.prog 17 #[.pointer (some ⟨b, 0, none⟩)] w (NewI (valL p s c l st sk re fe ag) 9 w) := by
  obtain ⟨bst, hst⟩ : ∃ x, bit st = x := ⟨_, rfl⟩
  obtain ⟨bsk, hsk⟩ : ∃ x, bit sk = x := ⟨_, rfl⟩
  obtain ⟨bre, hre⟩ : ∃ x, bit re = x := ⟨_, rfl⟩
  obtain ⟨bfe, hfe⟩ : ∃ x, bit fe = x := ⟨_, rfl⟩
  obtain ⟨bag, hag⟩ : ∃ x, bit ag = x := ⟨_, rfl⟩
  have k2 := fun w => hst ▸ bit_any st w
  have k3 := fun w => hsk ▸ bit_any sk w
  have k4 := fun w => hre ▸ bit_any re w
  have k5 := fun w => hfe ▸ bit_any fe w
  have k6 := fun w => hag ▸ bit_any ag w
  unfold valL
  rw [hst, hsk, hre, hfe, hag]
  clear hst hsk hre hfe hag
  go_enter Tryd.func17, Tryd.ntmps17
  go_wp2
  refine wp_region_still_tail 41 (by kernel_rfl) (by kernel_rfl) ?_
  simp only [List.take_succ_cons, List.take_zero, List.drop_succ_cons, List.drop_zero]
  repeat (first
    | still_step
    | still_call (k2 _) | still_call (k3 _) | still_call (k4 _) | still_call (k5 _) | still_call (k6 _))
  try refine wpStill_nil ?_
  have hbd : Below w.heap.size w w.drew := (Below.refl _ _).drew
  change wpList _ _ _ _ _ w.drew
  generalize w.drew = w2 at *
  go_wp2
  go_ret
  exact new_I w w2 _ 9 _ hbd

end Go.Proofs.YtihbaehfgjkajabDoor
