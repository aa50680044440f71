/- What the fields of the program's table do when they are set. No conditions. -/
import Derived.Test.YtihbaehfgjkajaaDoorDiff
import Derived.Test.YtihbaehfgjkajaaDoorSrc
namespace Go.Proofs.YtihbaehfgjkajaaDoor
open Go.Joins Go.ChangeShapes Go.WideShapes Go.ChangeAt Go.RowKit Go.Deep
set_option linter.unusedVariables false

/-- Rules with another value of the field n. -/
def RV.upd (r : RV) (n : Nat) (v : Int) : RV :=
  match n with
  | 0 => { r with p := v } | 1 => { r with s := v } | 2 => { r with st := v == 1 } | 3 => { r with sk := v == 1 } | 4 => { r with re := v == 1 } | 5 => { r with fe := v == 1 } | 6 => { r with ag := v == 1 } | 7 => { r with c := v } | 8 => { r with l := v }
  | _ => r
def setOk (n : Nat) (v : Int) : Bool := if 2 ≤ n ∧ n ≤ 6 then (v == 0 || v == 1) else true
def Free (w : World) (b : Nat) : Prop := ∀ o, w.frozen? ⟨b, o, none⟩ = false
/-- What setting a field leaves. -/
def SetP (r : RV) (n : Nat) (v : Int) (b : Nat) (w : World) (e : Ending) (w' : World) : Prop :=
  e = .returned (.bool (setOk n v)) ∧ But b w w' ∧ (r.upd n v).At w' b ∧ Free w' b
theorem but_set {w : World} {b i : Nat} {o : Obj} {v : Value} (hb : b < w.heap.size) : But b w ((w.setCell ⟨b, i, none⟩ v).alloc o) :=
  ⟨rfl, rfl, rfl, by simp, fun k hk hne => by
    rw [Below.heap_alloc _ _ _ (by simpa using hk), Below.heap_setCell _ _ _ _ hne]⟩

theorem set_0 (x : ByteArray) (rf : Fn) (ra rc : Array Value) (r : RV) (b : Nat) (v : Int) (w : World) (h : r.At w b) (hf : Free w b) :
    Calls Tryd.prog 138 #[.agg #[.string x, .func (.func 67) #[] #[], .func rf ra rc], .pointer (some ⟨b, 0, none⟩), .int .i64 v] w (SetP r 0 v b w) := by
  obtain ⟨hb, d0, d1, d2, d3, d4, d5, d6, d7, d8⟩ := h
  have f0 := hf 0
  have HF := Lib.hid hf
  have hne : b ≠ w.heap.size := by omega
  clear hf
  go_enter Tryd.func138, Tryd.ntmps138
  go_wp2_with (go_at_call 67; go_in)
  all_goals
    go_ret
    exact ⟨by simp [setOk, *], but_set hb, ⟨by simp; omega, by simp only [RV.upd]; go_simp, by simp only [RV.upd]; go_simp, by simp only [RV.upd]; go_simp, by simp only [RV.upd]; go_simp, by simp only [RV.upd]; go_simp, by simp only [RV.upd]; go_simp, by simp only [RV.upd]; go_simp, by simp only [RV.upd]; go_simp, by simp only [RV.upd]; go_simp⟩, fun o => by have := HF.out o; go_simp⟩
theorem set_1 (x : ByteArray) (rf : Fn) (ra rc : Array Value) (r : RV) (b : Nat) (v : Int) (w : World) (h : r.At w b) (hf : Free w b) :
    Calls Tryd.prog 138 #[.agg #[.string x, .func (.func 69) #[] #[], .func rf ra rc], .pointer (some ⟨b, 0, none⟩), .int .i64 v] w (SetP r 1 v b w) := by
  obtain ⟨hb, d0, d1, d2, d3, d4, d5, d6, d7, d8⟩ := h
  have f0 := hf 1
  have HF := Lib.hid hf
  have hne : b ≠ w.heap.size := by omega
  clear hf
  go_enter Tryd.func138, Tryd.ntmps138
  go_wp2_with (go_at_call 69; go_in)
  all_goals
    go_ret
    exact ⟨by simp [setOk, *], but_set hb, ⟨by simp; omega, by simp only [RV.upd]; go_simp, by simp only [RV.upd]; go_simp, by simp only [RV.upd]; go_simp, by simp only [RV.upd]; go_simp, by simp only [RV.upd]; go_simp, by simp only [RV.upd]; go_simp, by simp only [RV.upd]; go_simp, by simp only [RV.upd]; go_simp, by simp only [RV.upd]; go_simp⟩, fun o => by have := HF.out o; go_simp⟩
theorem set_7 (x : ByteArray) (rf : Fn) (ra rc : Array Value) (r : RV) (b : Nat) (v : Int) (w : World) (h : r.At w b) (hf : Free w b) :
    Calls Tryd.prog 138 #[.agg #[.string x, .func (.func 70) #[] #[], .func rf ra rc], .pointer (some ⟨b, 0, none⟩), .int .i64 v] w (SetP r 7 v b w) := by
  obtain ⟨hb, d0, d1, d2, d3, d4, d5, d6, d7, d8⟩ := h
  have f0 := hf 7
  have HF := Lib.hid hf
  have hne : b ≠ w.heap.size := by omega
  clear hf
  go_enter Tryd.func138, Tryd.ntmps138
  go_wp2_with (go_at_call 70; go_in)
  all_goals
    go_ret
    exact ⟨by simp [setOk, *], but_set hb, ⟨by simp; omega, by simp only [RV.upd]; go_simp, by simp only [RV.upd]; go_simp, by simp only [RV.upd]; go_simp, by simp only [RV.upd]; go_simp, by simp only [RV.upd]; go_simp, by simp only [RV.upd]; go_simp, by simp only [RV.upd]; go_simp, by simp only [RV.upd]; go_simp, by simp only [RV.upd]; go_simp⟩, fun o => by have := HF.out o; go_simp⟩
theorem set_8 (x : ByteArray) (rf : Fn) (ra rc : Array Value) (r : RV) (b : Nat) (v : Int) (w : World) (h : r.At w b) (hf : Free w b) :
    Calls Tryd.prog 138 #[.agg #[.string x, .func (.func 72) #[] #[], .func rf ra rc], .pointer (some ⟨b, 0, none⟩), .int .i64 v] w (SetP r 8 v b w) := by
  obtain ⟨hb, d0, d1, d2, d3, d4, d5, d6, d7, d8⟩ := h
  have f0 := hf 8
  have HF := Lib.hid hf
  have hne : b ≠ w.heap.size := by omega
  clear hf
  go_enter Tryd.func138, Tryd.ntmps138
  go_wp2_with (go_at_call 72; go_in)
  all_goals
    go_ret
    exact ⟨by simp [setOk, *], but_set hb, ⟨by simp; omega, by simp only [RV.upd]; go_simp, by simp only [RV.upd]; go_simp, by simp only [RV.upd]; go_simp, by simp only [RV.upd]; go_simp, by simp only [RV.upd]; go_simp, by simp only [RV.upd]; go_simp, by simp only [RV.upd]; go_simp, by simp only [RV.upd]; go_simp, by simp only [RV.upd]; go_simp⟩, fun o => by have := HF.out o; go_simp⟩
theorem set_2 (x : ByteArray) (r : RV) (b : Nat) (v : Int) (w : World) (h : r.At w b) (hf : Free w b) :
    Calls Tryd.prog 136 #[.agg #[.string x, .func (.func 77) #[] #[]], .pointer (some ⟨b, 0, none⟩), .int .i64 v] w (SetP r 2 v b w) := by
  obtain ⟨hb, d0, d1, d2, d3, d4, d5, d6, d7, d8⟩ := h
  have f0 := hf 2
  have HF := Lib.hid hf
  have hne : b ≠ w.heap.size := by omega
  clear hf
  go_enter Tryd.func136, Tryd.ntmps136
  go_wp2_with (go_at_call 77; go_in)
  all_goals
    go_ret
    exact ⟨by simp [setOk, *], but_set hb, ⟨by simp; omega, by simp only [RV.upd]; go_simp, by simp only [RV.upd]; go_simp, by simp only [RV.upd]; go_simp, by simp only [RV.upd]; go_simp, by simp only [RV.upd]; go_simp, by simp only [RV.upd]; go_simp, by simp only [RV.upd]; go_simp, by simp only [RV.upd]; go_simp, by simp only [RV.upd]; go_simp⟩, fun o => by have := HF.out o; go_simp⟩
theorem set_3 (x : ByteArray) (r : RV) (b : Nat) (v : Int) (w : World) (h : r.At w b) (hf : Free w b) :
    Calls Tryd.prog 136 #[.agg #[.string x, .func (.func 78) #[] #[]], .pointer (some ⟨b, 0, none⟩), .int .i64 v] w (SetP r 3 v b w) := by
  obtain ⟨hb, d0, d1, d2, d3, d4, d5, d6, d7, d8⟩ := h
  have f0 := hf 3
  have HF := Lib.hid hf
  have hne : b ≠ w.heap.size := by omega
  clear hf
  go_enter Tryd.func136, Tryd.ntmps136
  go_wp2_with (go_at_call 78; go_in)
  all_goals
    go_ret
    exact ⟨by simp [setOk, *], but_set hb, ⟨by simp; omega, by simp only [RV.upd]; go_simp, by simp only [RV.upd]; go_simp, by simp only [RV.upd]; go_simp, by simp only [RV.upd]; go_simp, by simp only [RV.upd]; go_simp, by simp only [RV.upd]; go_simp, by simp only [RV.upd]; go_simp, by simp only [RV.upd]; go_simp, by simp only [RV.upd]; go_simp⟩, fun o => by have := HF.out o; go_simp⟩
theorem set_4 (x : ByteArray) (r : RV) (b : Nat) (v : Int) (w : World) (h : r.At w b) (hf : Free w b) :
    Calls Tryd.prog 136 #[.agg #[.string x, .func (.func 79) #[] #[]], .pointer (some ⟨b, 0, none⟩), .int .i64 v] w (SetP r 4 v b w) := by
  obtain ⟨hb, d0, d1, d2, d3, d4, d5, d6, d7, d8⟩ := h
  have f0 := hf 4
  have HF := Lib.hid hf
  have hne : b ≠ w.heap.size := by omega
  clear hf
  go_enter Tryd.func136, Tryd.ntmps136
  go_wp2_with (go_at_call 79; go_in)
  all_goals
    go_ret
    exact ⟨by simp [setOk, *], but_set hb, ⟨by simp; omega, by simp only [RV.upd]; go_simp, by simp only [RV.upd]; go_simp, by simp only [RV.upd]; go_simp, by simp only [RV.upd]; go_simp, by simp only [RV.upd]; go_simp, by simp only [RV.upd]; go_simp, by simp only [RV.upd]; go_simp, by simp only [RV.upd]; go_simp, by simp only [RV.upd]; go_simp⟩, fun o => by have := HF.out o; go_simp⟩
theorem set_5 (x : ByteArray) (r : RV) (b : Nat) (v : Int) (w : World) (h : r.At w b) (hf : Free w b) :
    Calls Tryd.prog 136 #[.agg #[.string x, .func (.func 80) #[] #[]], .pointer (some ⟨b, 0, none⟩), .int .i64 v] w (SetP r 5 v b w) := by
  obtain ⟨hb, d0, d1, d2, d3, d4, d5, d6, d7, d8⟩ := h
  have f0 := hf 5
  have HF := Lib.hid hf
  have hne : b ≠ w.heap.size := by omega
  clear hf
  go_enter Tryd.func136, Tryd.ntmps136
  go_wp2_with (go_at_call 80; go_in)
  all_goals
    go_ret
    exact ⟨by simp [setOk, *], but_set hb, ⟨by simp; omega, by simp only [RV.upd]; go_simp, by simp only [RV.upd]; go_simp, by simp only [RV.upd]; go_simp, by simp only [RV.upd]; go_simp, by simp only [RV.upd]; go_simp, by simp only [RV.upd]; go_simp, by simp only [RV.upd]; go_simp, by simp only [RV.upd]; go_simp, by simp only [RV.upd]; go_simp⟩, fun o => by have := HF.out o; go_simp⟩
theorem set_6 (x : ByteArray) (r : RV) (b : Nat) (v : Int) (w : World) (h : r.At w b) (hf : Free w b) :
    Calls Tryd.prog 136 #[.agg #[.string x, .func (.func 81) #[] #[]], .pointer (some ⟨b, 0, none⟩), .int .i64 v] w (SetP r 6 v b w) := by
  obtain ⟨hb, d0, d1, d2, d3, d4, d5, d6, d7, d8⟩ := h
  have f0 := hf 6
  have HF := Lib.hid hf
  have hne : b ≠ w.heap.size := by omega
  clear hf
  go_enter Tryd.func136, Tryd.ntmps136
  go_wp2_with (go_at_call 81; go_in)
  all_goals
    go_ret
    exact ⟨by simp [setOk, *], but_set hb, ⟨by simp; omega, by simp only [RV.upd]; go_simp, by simp only [RV.upd]; go_simp, by simp only [RV.upd]; go_simp, by simp only [RV.upd]; go_simp, by simp only [RV.upd]; go_simp, by simp only [RV.upd]; go_simp, by simp only [RV.upd]; go_simp, by simp only [RV.upd]; go_simp, by simp only [RV.upd]; go_simp⟩, fun o => by have := HF.out o; go_simp⟩
end Go.Proofs.YtihbaehfgjkajaaDoor
