/- SetField of the program returns rules with another field, or an error. No conditions. -/
import Derived.Test.YtihbaehfgjkajaaDoorSet
namespace Go.Proofs.YtihbaehfgjkajaaDoor
open Go.Joins Go.ChangeShapes Go.WideShapes Go.ChangeAt Go.RowKit Go.Deep
set_option linter.unusedVariables false

def ElemSet (T : TypeId) (u : Value) (n : Nat) : Prop :=
  ∃ fs, (fs = 138 ∨ fs = 136) ∧ (∀ w, (Go.method 289 T u "loop.example/g00926/impl.set").run Tryd.prog w = .ok (fs, u) w) ∧ ∀ (r : RV) (b : Nat) (v : Int) w, r.At w b → Free w b → Calls Tryd.prog fs #[u, .pointer (some ⟨b, 0, none⟩), .int .i64 v] w (SetP r n v b w)
theorem eset_0 (x : ByteArray) (rf : Fn) (ra rc : Array Value) : ElemSet 107 (.agg #[.string x, .func (.func 67) #[] #[], .func rf ra rc]) 0 :=
  ⟨138, .inl rfl, fun w => by kernel_rfl, fun r b v w h hf => set_0 x rf ra rc r b v w h hf⟩
theorem eset_1 (x : ByteArray) (rf : Fn) (ra rc : Array Value) : ElemSet 107 (.agg #[.string x, .func (.func 69) #[] #[], .func rf ra rc]) 1 :=
  ⟨138, .inl rfl, fun w => by kernel_rfl, fun r b v w h hf => set_1 x rf ra rc r b v w h hf⟩
theorem eset_7 (x : ByteArray) (rf : Fn) (ra rc : Array Value) : ElemSet 107 (.agg #[.string x, .func (.func 70) #[] #[], .func rf ra rc]) 7 :=
  ⟨138, .inl rfl, fun w => by kernel_rfl, fun r b v w h hf => set_7 x rf ra rc r b v w h hf⟩
theorem eset_8 (x : ByteArray) (rf : Fn) (ra rc : Array Value) : ElemSet 107 (.agg #[.string x, .func (.func 72) #[] #[], .func rf ra rc]) 8 :=
  ⟨138, .inl rfl, fun w => by kernel_rfl, fun r b v w h hf => set_8 x rf ra rc r b v w h hf⟩
theorem eset_2 (x : ByteArray) : ElemSet 89 (.agg #[.string x, .func (.func 77) #[] #[]]) 2 :=
  ⟨136, .inr rfl, fun w => by kernel_rfl, fun r b v w h hf => set_2 x r b v w h hf⟩
theorem eset_3 (x : ByteArray) : ElemSet 89 (.agg #[.string x, .func (.func 78) #[] #[]]) 3 :=
  ⟨136, .inr rfl, fun w => by kernel_rfl, fun r b v w h hf => set_3 x r b v w h hf⟩
theorem eset_4 (x : ByteArray) : ElemSet 89 (.agg #[.string x, .func (.func 79) #[] #[]]) 4 :=
  ⟨136, .inr rfl, fun w => by kernel_rfl, fun r b v w h hf => set_4 x r b v w h hf⟩
theorem eset_5 (x : ByteArray) : ElemSet 89 (.agg #[.string x, .func (.func 80) #[] #[]]) 5 :=
  ⟨136, .inr rfl, fun w => by kernel_rfl, fun r b v w h hf => set_5 x r b v w h hf⟩
theorem eset_6 (x : ByteArray) : ElemSet 89 (.agg #[.string x, .func (.func 81) #[] #[]]) 6 :=
  ⟨136, .inr rfl, fun w => by kernel_rfl, fun r b v w h hf => set_6 x r b v w h hf⟩
theorem table_full {w : World} {g : Nat} {r0 r1 r7 r8 : Value} (h : Table w g r0 r1 r7 r8) (n : Nat) (hn : n < 9) :
    ∃ T u x, w.cell? ⟨g, n, none⟩ = some (.iface T u) ∧ flds[n]? = some x ∧ ElemIs T u x (fun r => r.nth n) ∧ ElemSet T u n := by
  obtain ⟨⟨_, ht⟩, ⟨x0, y0, rfl, _⟩, ⟨x1, y1, rfl, _⟩, ⟨x7, y7, rfl, _⟩, ⟨x8, y8, rfl, _⟩⟩ := h
  rcases (by omega : n = 0 ∨ n = 1 ∨ n = 2 ∨ n = 3 ∨ n = 4 ∨ n = 5 ∨ n = 6 ∨ n = 7 ∨ n = 8) with rfl | rfl | rfl | rfl | rfl | rfl | rfl | rfl | rfl
  · exact ⟨_, _, _, ht 0 _ rfl, rfl, elem_0 _ _ _ _, eset_0 _ _ _ _⟩
  · exact ⟨_, _, _, ht 1 _ rfl, rfl, elem_1 _ _ _ _, eset_1 _ _ _ _⟩
  · exact ⟨_, _, _, ht 2 _ rfl, rfl, elem_2 _, eset_2 _⟩
  · exact ⟨_, _, _, ht 3 _ rfl, rfl, elem_3 _, eset_3 _⟩
  · exact ⟨_, _, _, ht 4 _ rfl, rfl, elem_4 _, eset_4 _⟩
  · exact ⟨_, _, _, ht 5 _ rfl, rfl, elem_5 _, eset_5 _⟩
  · exact ⟨_, _, _, ht 6 _ rfl, rfl, elem_6 _, eset_6 _⟩
  · exact ⟨_, _, _, ht 7 _ rfl, rfl, elem_7 _ _ _ _, eset_7 _ _ _ _⟩
  · exact ⟨_, _, _, ht 8 _ rfl, rfl, elem_8 _ _ _ _, eset_8 _ _ _ _⟩

def zeroR : RV := ⟨0, 0, false, false, false, false, false, 0, 0⟩
def setV (r : RV) (i v : Int) : RV × Int :=
  if r.ok then (if i < 0 then (zeroR, 3) else if setOk i.toNat v && (r.upd i.toNat v).ok then (r.upd i.toNat v, 0) else (zeroR, 2)) else (zeroR, 1)
theorem setV_bad {r : RV} (i v : Int) (h : r.ok = false) : setV r i v = (zeroR, 1) := by unfold setV; rw [h]; rfl
theorem setV_no {r : RV} {i : Int} (v : Int) (h : r.ok = true) (hi : i < 0) : setV r i v = (zeroR, 3) := by unfold setV; rw [h, if_pos rfl, if_pos hi]
theorem setV_out {r : RV} {i v : Int} (n : Nat) (h : r.ok = true) (hi : i = (n : Int)) (hb : (setOk n v && (r.upd n v).ok) = false) : setV r i v = (zeroR, 2) := by
  subst hi
  unfold setV
  rw [h, if_pos rfl, if_neg (by omega), Int.toNat_natCast, hb]
  rfl
theorem setV_in {r : RV} {i v : Int} (n : Nat) (h : r.ok = true) (hi : i = (n : Int)) (hb : (setOk n v && (r.upd n v).ok) = true) : setV r i v = (r.upd n v, 0) := by
  subst hi
  unfold setV
  rw [h, if_pos rfl, if_neg (by omega), Int.toNat_natCast, hb]
  rfl
theorem Free.below {w w' : World} {b : Nat} (h : Free w b) (hb : b < w.heap.size) (k : Below w.heap.size w w') : Free w' b := fun o => by rw [k.frozen (p := ⟨b, o, none⟩) hb]; exact h o
theorem At.but {r : RV} {w w' : World} {b c : Nat} (h : r.At w b) (k : But c w w') (hc : b ≠ c) : r.At w' b := by
  obtain ⟨hb, h⟩ := h
  have e := fun o => k.cell (o := o) hb hc
  exact ⟨Nat.lt_of_lt_of_le hb k.size, by rw [e, e, e, e, e, e, e, e, e]; exact h⟩
theorem Free.but {w w' : World} {b c : Nat} (h : Free w b) (k : But c w w') (hb : b < w.heap.size) (hc : b ≠ c) : Free w' b := fun o => by rw [k.frozen hb hc]; exact h o
theorem free_new (w : World) (arr : Array Value) (T : TypeId) : Free (w.alloc (.cells arr T)) w.heap.size := fun o => by go_simp

/-- The two blocks of SetField: the rules, and the result. -/
structure Two (r : RV) (B : Nat) (w : World) : Prop where
  a : r.At w B
  z : zeroR.At w (B + 1)
  fa : Free w B
  fz : Free w (B + 1)
theorem Two.below {r : RV} {B : Nat} {w w' : World} (h : Two r B w) (k : Below w.heap.size w w') : Two r B w' := ⟨RulesAt.below h.a k, RulesAt.below h.z k, h.fa.below h.a.1 k, h.fz.below h.z.1 k⟩
theorem two_new (r : RV) (w : World) (T : TypeId) : Two r w.heap.size ((w.alloc (.cells #[.int .i64 r.p, .int .i64 r.s, .bool r.st, .bool r.sk, .bool r.re, .bool r.fe, .bool r.ag, .int .i64 r.c, .int .i64 r.l] T)).alloc (.cells #[.int .i64 0, .int .i64 0, .bool false, .bool false, .bool false, .bool false, .bool false, .int .i64 0, .int .i64 0] T)) := by
  have hA := rv_new r w T
  have hZ := rv_new zeroR (w.alloc (.cells #[.int .i64 r.p, .int .i64 r.s, .bool r.st, .bool r.sk, .bool r.re, .bool r.fe, .bool r.ag, .int .i64 r.c, .int .i64 r.l] T)) T
  have hF := free_new (w.alloc (.cells #[.int .i64 r.p, .int .i64 r.s, .bool r.st, .bool r.sk, .bool r.re, .bool r.fe, .bool r.ag, .int .i64 r.c, .int .i64 r.l] T)) #[.int .i64 0, .int .i64 0, .bool false, .bool false, .bool false, .bool false, .bool false, .int .i64 0, .int .i64 0] T
  have hk := (Below.refl _ (w.alloc (.cells #[.int .i64 r.p, .int .i64 r.s, .bool r.st, .bool r.sk, .bool r.re, .bool r.fe, .bool r.ag, .int .i64 r.c, .int .i64 r.l] T))).alloc (Nat.le_refl _) (.cells #[.int .i64 0, .int .i64 0, .bool false, .bool false, .bool false, .bool false, .bool false, .int .i64 0, .int .i64 0] T)
  simp only [World.size_alloc] at hZ hF
  exact ⟨RulesAt.below hA hk, hZ, (free_new w _ _).below hA.1 hk, hF⟩

theorem below_set9 {B b : Nat} {a w : World} (h : Below B a w) (hB : B ≤ b) (v0 v1 v2 v3 v4 v5 v6 v7 v8 : Value) :
    Below B a (((((((((w.setCell ⟨b, 0, none⟩ v0).setCell ⟨b, 1, none⟩ v1).setCell ⟨b, 2, none⟩ v2).setCell ⟨b, 3, none⟩ v3).setCell ⟨b, 4, none⟩ v4).setCell ⟨b, 5, none⟩ v5).setCell ⟨b, 6, none⟩ v6).setCell ⟨b, 7, none⟩ v7).setCell ⟨b, 8, none⟩ v8) :=
  ((((((((h.setCell hB v0).setCell hB v1).setCell hB v2).setCell hB v3).setCell hB v4).setCell hB v5).setCell hB v6).setCell hB v7).setCell hB v8
end Go.Proofs.YtihbaehfgjkajaaDoor
