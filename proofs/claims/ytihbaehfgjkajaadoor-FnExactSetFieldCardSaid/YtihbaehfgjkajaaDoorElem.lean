/- Each field of the program's table, by what its methods give: its name, and its value in rules. No conditions. -/
import Derived.Test.YtihbaehfgjkajaaDoorValue
namespace Go.Proofs.YtihbaehfgjkajaaDoor
open Go.Joins Go.ChangeShapes Go.WideShapes Go.ChangeAt Go.RowKit Go.Deep
set_option linter.unusedVariables false

def RV.vals (r : RV) : List Int := [r.p, r.s, bit r.st, bit r.sk, bit r.re, bit r.fe, bit r.ag, r.c, r.l]
def RV.nth (r : RV) (n : Nat) : Int := r.vals.getD n 0
/-- A field of the table: its name is x, its value in rules k. -/
def ElemIs (T : TypeId) (u : Value) (x : ByteArray) (k : RV → Int) : Prop :=
  (∀ w, (Go.method 289 T u "loop.example/g00926/impl.name").run Tryd.prog w = .ok (59, .string x) w) ∧
  ∃ fv, (fv = 139 ∨ fv = 58) ∧ (∀ w, (Go.method 289 T u "loop.example/g00926/impl.value").run Tryd.prog w = .ok (fv, u) w) ∧ ∀ (r : RV) w, Calls Tryd.prog fv #[u, r.val] w fun e w' => e = .returned (.int .i64 (k r)) ∧ Below w.heap.size w w'
theorem name_any (x : ByteArray) (w : World) : Calls Tryd.prog 59 #[.string x] w fun e w' => e = .returned (.string x) ∧ w = w' := by
  go_enter Tryd.func59, Tryd.ntmps59
  go_wp2
  go_ret
  exact ⟨rfl, rfl⟩

theorem elem_0 (x : ByteArray) (rf : Fn) (ra rc : Array Value) : ElemIs 107 (.agg #[.string x, .func (.func 67) #[] #[], .func rf ra rc]) x (fun r => r.nth 0) :=
  ⟨fun w => by kernel_rfl, 139, .inl rfl, fun w => by kernel_rfl, fun r w => value_0 x rf ra rc r.p r.s r.c r.l r.st r.sk r.re r.fe r.ag w⟩
theorem elem_1 (x : ByteArray) (rf : Fn) (ra rc : Array Value) : ElemIs 107 (.agg #[.string x, .func (.func 69) #[] #[], .func rf ra rc]) x (fun r => r.nth 1) :=
  ⟨fun w => by kernel_rfl, 139, .inl rfl, fun w => by kernel_rfl, fun r w => value_1 x rf ra rc r.p r.s r.c r.l r.st r.sk r.re r.fe r.ag w⟩
theorem elem_7 (x : ByteArray) (rf : Fn) (ra rc : Array Value) : ElemIs 107 (.agg #[.string x, .func (.func 70) #[] #[], .func rf ra rc]) x (fun r => r.nth 7) :=
  ⟨fun w => by kernel_rfl, 139, .inl rfl, fun w => by kernel_rfl, fun r w => value_7 x rf ra rc r.p r.s r.c r.l r.st r.sk r.re r.fe r.ag w⟩
theorem elem_8 (x : ByteArray) (rf : Fn) (ra rc : Array Value) : ElemIs 107 (.agg #[.string x, .func (.func 72) #[] #[], .func rf ra rc]) x (fun r => r.nth 8) :=
  ⟨fun w => by kernel_rfl, 139, .inl rfl, fun w => by kernel_rfl, fun r w => value_8 x rf ra rc r.p r.s r.c r.l r.st r.sk r.re r.fe r.ag w⟩
theorem elem_2 (x : ByteArray) : ElemIs 89 (.agg #[.string x, .func (.func 77) #[] #[]]) x (fun r => r.nth 2) :=
  ⟨fun w => by kernel_rfl, 58, .inr rfl, fun w => by kernel_rfl, fun r w => value_2 x r.p r.s r.c r.l r.st r.sk r.re r.fe r.ag w⟩
theorem elem_3 (x : ByteArray) : ElemIs 89 (.agg #[.string x, .func (.func 78) #[] #[]]) x (fun r => r.nth 3) :=
  ⟨fun w => by kernel_rfl, 58, .inr rfl, fun w => by kernel_rfl, fun r w => value_3 x r.p r.s r.c r.l r.st r.sk r.re r.fe r.ag w⟩
theorem elem_4 (x : ByteArray) : ElemIs 89 (.agg #[.string x, .func (.func 79) #[] #[]]) x (fun r => r.nth 4) :=
  ⟨fun w => by kernel_rfl, 58, .inr rfl, fun w => by kernel_rfl, fun r w => value_4 x r.p r.s r.c r.l r.st r.sk r.re r.fe r.ag w⟩
theorem elem_5 (x : ByteArray) : ElemIs 89 (.agg #[.string x, .func (.func 80) #[] #[]]) x (fun r => r.nth 5) :=
  ⟨fun w => by kernel_rfl, 58, .inr rfl, fun w => by kernel_rfl, fun r w => value_5 x r.p r.s r.c r.l r.st r.sk r.re r.fe r.ag w⟩
theorem elem_6 (x : ByteArray) : ElemIs 89 (.agg #[.string x, .func (.func 81) #[] #[]]) x (fun r => r.nth 6) :=
  ⟨fun w => by kernel_rfl, 58, .inr rfl, fun w => by kernel_rfl, fun r w => value_6 x r.p r.s r.c r.l r.st r.sk r.re r.fe r.ag w⟩
/-- Each row of the table is the field with its index. -/
theorem table_elem {w : World} {g : Nat} {r0 r1 r7 r8 : Value} (h : Table w g r0 r1 r7 r8) (n : Nat) (hn : n < 9) :
    ∃ T u x, w.cell? ⟨g, n, none⟩ = some (.iface T u) ∧ flds[n]? = some x ∧ ElemIs T u x (fun r => r.nth n) := by
  obtain ⟨⟨_, ht⟩, ⟨x0, y0, rfl, _⟩, ⟨x1, y1, rfl, _⟩, ⟨x7, y7, rfl, _⟩, ⟨x8, y8, rfl, _⟩⟩ := h
  rcases (by omega : n = 0 ∨ n = 1 ∨ n = 2 ∨ n = 3 ∨ n = 4 ∨ n = 5 ∨ n = 6 ∨ n = 7 ∨ n = 8) with rfl | rfl | rfl | rfl | rfl | rfl | rfl | rfl | rfl
  · exact ⟨_, _, _, ht 0 _ rfl, rfl, elem_0 _ _ _ _⟩
  · exact ⟨_, _, _, ht 1 _ rfl, rfl, elem_1 _ _ _ _⟩
  · exact ⟨_, _, _, ht 2 _ rfl, rfl, elem_2 _⟩
  · exact ⟨_, _, _, ht 3 _ rfl, rfl, elem_3 _⟩
  · exact ⟨_, _, _, ht 4 _ rfl, rfl, elem_4 _⟩
  · exact ⟨_, _, _, ht 5 _ rfl, rfl, elem_5 _⟩
  · exact ⟨_, _, _, ht 6 _ rfl, rfl, elem_6 _⟩
  · exact ⟨_, _, _, ht 7 _ rfl, rfl, elem_7 _ _ _ _⟩
  · exact ⟨_, _, _, ht 8 _ rfl, rfl, elem_8 _ _ _ _⟩
end Go.Proofs.YtihbaehfgjkajaaDoor
