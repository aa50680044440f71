/- Rules that the laws draw, and a number that depends on a byte at any place. No conditions. -/
import Derived.Test.YthlfkdjkihiiaaaDraw
import Derived.Test.YthlfkdjkihiiaaaCh2
import Derived.Test.YthlfkdjkihiiaaaLong
namespace Go.Proofs.Ythlfkdjkihiiaaa
open Go.Joins Go.ChangeShapes Go.WideShapes Go.ChangeAt Go.RowKit Go.Deep
set_option linter.unusedVariables false

def RulesP5 (w : World) (e : Ending) (w' : World) : Prop :=
  ∃ (p s c l : Int) (st sk re fe ag : Bool), okR p s c l st ag = true ∧ e = .returned (.agg #[.int .i64 p, .int .i64 s, .bool st, .bool sk, .bool re, .bool fe, .bool ag, .int .i64 c, .int .i64 l]) ∧ Below w.heap.size w w'
set_option maxHeartbeats 1000000 in
theorem a2rules5_any (a : Option Addr) (len cap : Nat) (w : World) (hB : Bytes w a len) :
    Calls Try.prog 24 #[.slice a len cap] w (RulesP5 w) := by
  have HB := Lib.hid hB
  clear hB
  go_enter Try.func24, Try.ntmps24
  go_wp2_with (go_at_call 48; go_in)
  refine (draw_any (w.heap.size + 1) a len cap 0 _ ⟨?_, 0, 0, Nat.le_refl _, ⟨by simp, by go_simp, by go_simp, by go_simp, fun o => by go_simp, by decide, by decide⟩⟩ (by decide)).mono ?_
  · have h := (HB.out.below ((Below.refl _ _).alloc (Nat.le_refl _) (.cells #[.int .i64 0, .int .i64 0, .bool false, .bool false, .bool false, .bool false, .bool false, .int .i64 0, .int .i64 0] 25))).row (.cells #[.slice a len cap, .int .i64 0, .int .u64 0] 96)
    simpa using h
  rintro e w1 ⟨p, s, c, l, st, sk, re, fe, ag, hok, rfl, hb1, -⟩
  have Hok := Lib.hid hok
  clear hok
  have hz1 := hb1.size
  simp at hz1
  have hy1 : w.heap.size < w1.heap.size := by omega
  have hx1 := fun o => hb1.cell (c := w.heap.size) (o := o) (by simp; omega) (by omega)
  have hf1 := fun o => hb1.frozen (c := w.heap.size) (o := o) (by simp; omega) (by omega)
  go_wp2_with fail
  have hW : Below w.heap.size w w1 := But.below (((Below.refl _ w).alloc (Nat.le_refl _) _).alloc (by simp) _) hb1 (by omega) (by simp; omega)
  exact bodyPost_ret (v := .agg #[.int .i64 p, .int .i64 s, .bool st, .bool sk, .bool re, .bool fe, .bool ag, .int .i64 c, .int .i64 l]) (by simp [results, Try.results24, go_sem, hx1, hy1]) rfl ⟨p, s, c, l, st, sk, re, fe, ag, Hok.out, rfl, (((((((((hW.setCell (Nat.le_refl _) _).setCell (Nat.le_refl _) _).setCell (Nat.le_refl _) _).setCell (Nat.le_refl _) _).setCell (Nat.le_refl _) _).setCell (Nat.le_refl _) _).setCell (Nat.le_refl _) _).setCell (Nat.le_refl _) _).setCell (Nat.le_refl _) _)⟩

def AtP5 (n : Int) (w : World) (e : Ending) (w' : World) : Prop := ∃ v, (0 ≤ v ∧ v < n) ∧ e = .returned (.int .i64 v) ∧ w = w'
theorem at5_0 (a : Option Addr) (len cap : Nat) (n : Int) (w : World) (hB : Bytes w a len) (hn : 1 ≤ n) (hn2 : n ≤ 1000000) :
    Calls Try.prog 15 #[.slice a len cap, .int .i64 0, .int .i64 n] w (AtP5 n w) := by
  obtain ⟨hl, h⟩ := hB
  by_cases h0 : len ≤ 0
  · have g0 : (len : Int) ≤ 0 := by omega
    clear h
    go_enter Try.func15, Try.ntmps15
    go_wp2
    go_ret
    exact ⟨0, ⟨by omega, by omega⟩, rfl, rfl⟩
  · rcases h with h | ⟨c, off, rfl, hc, hx⟩
    · omega
    · obtain ⟨x, hx, x0, x1⟩ := hx 0 (by omega)
      try simp only [Nat.add_zero] at hx
      have g0 : (0 : Int) < (len : Int) := by omega
      go_enter Try.func15, Try.ntmps15
      go_wp2
      go_ret
      exact ⟨x % n, ⟨Int.emod_nonneg _ (by omega), Int.emod_lt_of_pos _ (by omega)⟩, rfl, rfl⟩
theorem at5_1 (a : Option Addr) (len cap : Nat) (n : Int) (w : World) (hB : Bytes w a len) (hn : 1 ≤ n) (hn2 : n ≤ 1000000) :
    Calls Try.prog 15 #[.slice a len cap, .int .i64 1, .int .i64 n] w (AtP5 n w) := by
  obtain ⟨hl, h⟩ := hB
  by_cases h0 : len ≤ 1
  · have g0 : (len : Int) ≤ 1 := by omega
    clear h
    go_enter Try.func15, Try.ntmps15
    go_wp2
    go_ret
    exact ⟨0, ⟨by omega, by omega⟩, rfl, rfl⟩
  · rcases h with h | ⟨c, off, rfl, hc, hx⟩
    · omega
    · obtain ⟨x, hx, x0, x1⟩ := hx 1 (by omega)
      try simp only [Nat.add_zero] at hx
      have g0 : (1 : Int) < (len : Int) := by omega
      go_enter Try.func15, Try.ntmps15
      go_wp2
      go_ret
      exact ⟨x % n, ⟨Int.emod_nonneg _ (by omega), Int.emod_lt_of_pos _ (by omega)⟩, rfl, rfl⟩
theorem at5_2 (a : Option Addr) (len cap : Nat) (n : Int) (w : World) (hB : Bytes w a len) (hn : 1 ≤ n) (hn2 : n ≤ 1000000) :
    Calls Try.prog 15 #[.slice a len cap, .int .i64 2, .int .i64 n] w (AtP5 n w) := by
  obtain ⟨hl, h⟩ := hB
  by_cases h0 : len ≤ 2
  · have g0 : (len : Int) ≤ 2 := by omega
    clear h
    go_enter Try.func15, Try.ntmps15
    go_wp2
    go_ret
    exact ⟨0, ⟨by omega, by omega⟩, rfl, rfl⟩
  · rcases h with h | ⟨c, off, rfl, hc, hx⟩
    · omega
    · obtain ⟨x, hx, x0, x1⟩ := hx 2 (by omega)
      try simp only [Nat.add_zero] at hx
      have g0 : (2 : Int) < (len : Int) := by omega
      go_enter Try.func15, Try.ntmps15
      go_wp2
      go_ret
      exact ⟨x % n, ⟨Int.emod_nonneg _ (by omega), Int.emod_lt_of_pos _ (by omega)⟩, rfl, rfl⟩
end Go.Proofs.Ythlfkdjkihiiaaa
