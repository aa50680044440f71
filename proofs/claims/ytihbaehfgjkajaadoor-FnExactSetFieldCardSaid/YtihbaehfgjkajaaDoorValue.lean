/- What the fields of the program's table give for rules. No conditions. -/
import Derived.Test.YtihbaehfgjkajaaDoorFields
import Derived.Test.YtihbaehfgjkajaaDoorVals
namespace Go.Proofs.YtihbaehfgjkajaaDoor
open Go.Joins Go.ChangeShapes Go.WideShapes Go.ChangeAt Go.RowKit Go.Deep
set_option linter.unusedVariables false

/-- Rules that lie at a block. -/
def RulesAt (w : World) (b : Nat) (p s c l : Int) (st sk re fe ag : Bool) : Prop := b < w.heap.size ∧ w.cell? ⟨b, 0, none⟩ = some (.int .i64 p) ∧ w.cell? ⟨b, 1, none⟩ = some (.int .i64 s) ∧ w.cell? ⟨b, 2, none⟩ = some (.bool st) ∧ w.cell? ⟨b, 3, none⟩ = some (.bool sk) ∧ w.cell? ⟨b, 4, none⟩ = some (.bool re) ∧ w.cell? ⟨b, 5, none⟩ = some (.bool fe) ∧ w.cell? ⟨b, 6, none⟩ = some (.bool ag) ∧ w.cell? ⟨b, 7, none⟩ = some (.int .i64 c) ∧ w.cell? ⟨b, 8, none⟩ = some (.int .i64 l)
theorem RulesAt.below {w w' : World} {b : Nat} {p s c l : Int} {st sk re fe ag : Bool} (h : RulesAt w b p s c l st sk re fe ag) (k : Below w.heap.size w w') : RulesAt w' b p s c l st sk re fe ag := by
  obtain ⟨hb, h⟩ := h
  have e := fun o => k.cell (p := ⟨b, o, none⟩) hb
  exact ⟨Nat.lt_of_lt_of_le hb k.size, by rw [e, e, e, e, e, e, e, e, e]; exact h⟩
theorem rules_new (p s c l : Int) (st sk re fe ag : Bool) (w : World) (T : TypeId) : RulesAt (w.alloc (.cells #[.int .i64 p, .int .i64 s, .bool st, .bool sk, .bool re, .bool fe, .bool ag, .int .i64 c, .int .i64 l] T)) w.heap.size p s c l st sk re fe ag :=
  ⟨by simp, by go_simp, by go_simp, by go_simp, by go_simp, by go_simp, by go_simp, by go_simp, by go_simp, by go_simp⟩

theorem value_0 (x : ByteArray) (rf : Fn) (ra rc : Array Value) (p s c l : Int) (st sk re fe ag : Bool) (w : World) : Calls Tryd.prog 139 #[.agg #[.string x, .func (.func 67) #[] #[], .func rf ra rc], .agg #[.int .i64 p, .int .i64 s, .bool st, .bool sk, .bool re, .bool fe, .bool ag, .int .i64 c, .int .i64 l]] w fun e w' => e = .returned (.int .i64 p) ∧ Below w.heap.size w w' := by
  go_enter Tryd.func139, Tryd.ntmps139
  go_wp2_with (go_at_call 67; go_in)
  go_ret
  exact ⟨rfl, by go_grown⟩
theorem value_1 (x : ByteArray) (rf : Fn) (ra rc : Array Value) (p s c l : Int) (st sk re fe ag : Bool) (w : World) : Calls Tryd.prog 139 #[.agg #[.string x, .func (.func 69) #[] #[], .func rf ra rc], .agg #[.int .i64 p, .int .i64 s, .bool st, .bool sk, .bool re, .bool fe, .bool ag, .int .i64 c, .int .i64 l]] w fun e w' => e = .returned (.int .i64 s) ∧ Below w.heap.size w w' := by
  go_enter Tryd.func139, Tryd.ntmps139
  go_wp2_with (go_at_call 69; go_in)
  go_ret
  exact ⟨rfl, by go_grown⟩
theorem value_7 (x : ByteArray) (rf : Fn) (ra rc : Array Value) (p s c l : Int) (st sk re fe ag : Bool) (w : World) : Calls Tryd.prog 139 #[.agg #[.string x, .func (.func 70) #[] #[], .func rf ra rc], .agg #[.int .i64 p, .int .i64 s, .bool st, .bool sk, .bool re, .bool fe, .bool ag, .int .i64 c, .int .i64 l]] w fun e w' => e = .returned (.int .i64 c) ∧ Below w.heap.size w w' := by
  go_enter Tryd.func139, Tryd.ntmps139
  go_wp2_with (go_at_call 70; go_in)
  go_ret
  exact ⟨rfl, by go_grown⟩
theorem value_8 (x : ByteArray) (rf : Fn) (ra rc : Array Value) (p s c l : Int) (st sk re fe ag : Bool) (w : World) : Calls Tryd.prog 139 #[.agg #[.string x, .func (.func 72) #[] #[], .func rf ra rc], .agg #[.int .i64 p, .int .i64 s, .bool st, .bool sk, .bool re, .bool fe, .bool ag, .int .i64 c, .int .i64 l]] w fun e w' => e = .returned (.int .i64 l) ∧ Below w.heap.size w w' := by
  go_enter Tryd.func139, Tryd.ntmps139
  go_wp2_with (go_at_call 72; go_in)
  go_ret
  exact ⟨rfl, by go_grown⟩
theorem value_2 (x : ByteArray) (p s c l : Int) (st sk re fe ag : Bool) (w : World) : Calls Tryd.prog 58 #[.agg #[.string x, .func (.func 77) #[] #[]], .agg #[.int .i64 p, .int .i64 s, .bool st, .bool sk, .bool re, .bool fe, .bool ag, .int .i64 c, .int .i64 l]] w fun e w' => e = .returned (.int .i64 (bit st)) ∧ Below w.heap.size w w' := by
  cases st
  all_goals
    go_enter Tryd.func58, Tryd.ntmps58
    go_wp2_with (go_at_call 77; go_in)
    go_ret
    exact ⟨rfl, by go_grown⟩
theorem value_3 (x : ByteArray) (p s c l : Int) (st sk re fe ag : Bool) (w : World) : Calls Tryd.prog 58 #[.agg #[.string x, .func (.func 78) #[] #[]], .agg #[.int .i64 p, .int .i64 s, .bool st, .bool sk, .bool re, .bool fe, .bool ag, .int .i64 c, .int .i64 l]] w fun e w' => e = .returned (.int .i64 (bit sk)) ∧ Below w.heap.size w w' := by
  cases sk
  all_goals
    go_enter Tryd.func58, Tryd.ntmps58
    go_wp2_with (go_at_call 78; go_in)
    go_ret
    exact ⟨rfl, by go_grown⟩
theorem value_4 (x : ByteArray) (p s c l : Int) (st sk re fe ag : Bool) (w : World) : Calls Tryd.prog 58 #[.agg #[.string x, .func (.func 79) #[] #[]], .agg #[.int .i64 p, .int .i64 s, .bool st, .bool sk, .bool re, .bool fe, .bool ag, .int .i64 c, .int .i64 l]] w fun e w' => e = .returned (.int .i64 (bit re)) ∧ Below w.heap.size w w' := by
  cases re
  all_goals
    go_enter Tryd.func58, Tryd.ntmps58
    go_wp2_with (go_at_call 79; go_in)
    go_ret
    exact ⟨rfl, by go_grown⟩
theorem value_5 (x : ByteArray) (p s c l : Int) (st sk re fe ag : Bool) (w : World) : Calls Tryd.prog 58 #[.agg #[.string x, .func (.func 80) #[] #[]], .agg #[.int .i64 p, .int .i64 s, .bool st, .bool sk, .bool re, .bool fe, .bool ag, .int .i64 c, .int .i64 l]] w fun e w' => e = .returned (.int .i64 (bit fe)) ∧ Below w.heap.size w w' := by
  cases fe
  all_goals
    go_enter Tryd.func58, Tryd.ntmps58
    go_wp2_with (go_at_call 80; go_in)
    go_ret
    exact ⟨rfl, by go_grown⟩
theorem value_6 (x : ByteArray) (p s c l : Int) (st sk re fe ag : Bool) (w : World) : Calls Tryd.prog 58 #[.agg #[.string x, .func (.func 81) #[] #[]], .agg #[.int .i64 p, .int .i64 s, .bool st, .bool sk, .bool re, .bool fe, .bool ag, .int .i64 c, .int .i64 l]] w fun e w' => e = .returned (.int .i64 (bit ag)) ∧ Below w.heap.size w w' := by
  cases ag
  all_goals
    go_enter Tryd.func58, Tryd.ntmps58
    go_wp2_with (go_at_call 81; go_in)
    go_ret
    exact ⟨rfl, by go_grown⟩
end Go.Proofs.YtihbaehfgjkajaaDoor
