/- FnPits: the pits follow one another around the board, opposite pits are opposite to each other, and moves stand for the pits of a player: for every input. No conditions. -/
import Derived.Test.YtkpmocjghpeppaaPits
namespace Go.Proofs.Ytkpmocjghpeppaa
open Go.Joins Go.ChangeShapes Go.WideShapes Go.ChangeAt Go.RowKit Go.Deep
open Go.ChangeMaps (open_string shut_string)
set_option linter.unusedVariables false

theorem pitV_0 (v : Int) : pitV 0 v = v := rfl
theorem movV_0 (v : Int) : movV 0 v = v := rfl
theorem move_ok {ok : Bool} {p player move : Int} (h : ok = true) (h0 : 0 ≤ player) (h1 : player ≤ 1) (h2 : 0 ≤ move) (h3 : move < p) : moveC ok p player move = 0 := by
  subst h
  simp [moveC, *]
theorem pit_ok {ok : Bool} {p pit : Int} (h : ok = true) (h0 : 0 ≤ pit) (h1 : pit < 2 * p) : pitC ok p pit = 0 := by
  subst h
  exact pitC_in h0 h1
theorem own_cases (p pit : Int) (h1 : 2 ≤ p) (h2 : p ≤ 8) (h3 : 0 ≤ pit) (h4 : pit < 2 * p) :
    (pit < p ∧ pit / p = 0 ∧ pit % p = pit ∧ (2 * p - 1 - pit) / p = 1) ∨ (p ≤ pit ∧ pit / p = 1 ∧ pit % p = pit - p ∧ (2 * p - 1 - pit) / p = 0) := by
  have h : p = 2 ∨ p = 3 ∨ p = 4 ∨ p = 5 ∨ p = 6 ∨ p = 7 ∨ p = 8 := by omega
  rcases h with rfl | rfl | rfl | rfl | rfl | rfl | rfl <;> omega
theorem next_rel (n pit x : Int) (j : Nat) (hn : 2 ≤ n) (hx : x = (pit + j) % n) : (x + 1) % n = (pit + ((j + 1 : Nat) : Int)) % n ∧ (x + 1) % n ≠ x ∧ 0 ≤ (x + 1) % n ∧ (x + 1) % n < n := by
  have h0 : 0 ≤ x := by rw [hx]; exact Int.emod_nonneg _ (by omega)
  have h1 : x < n := by rw [hx]; exact Int.emod_lt_of_pos _ (by omega)
  refine ⟨?_, ?_, Int.emod_nonneg _ (by omega), Int.emod_lt_of_pos _ (by omega)⟩
  · rw [hx, Int.emod_add_emod]
    congr 1
    push_cast
    omega
  · by_cases h : x + 1 < n
    · rw [Int.emod_eq_of_lt (by omega) h]; omega
    · have : x + 1 = n := by omega
      rw [this, Int.emod_self]; omega
theorem back_rel (n pit : Int) (h0 : 0 ≤ pit) (h1 : pit < n) : (pit + n) % n = pit := by
  rw [Int.add_emod_right, Int.emod_eq_of_lt h0 h1]

def Cyc (p pit : Int) (j : Nat) (y : Int) : Prop := y = (pit + j) % (2 * p)

theorem cyc_0 (p pit : Int) (h0 : 0 ≤ pit) (h1 : pit < 2 * p) : Cyc p pit 0 pit := by
  unfold Cyc
  rw [show pit + ((0 : Nat) : Int) = pit by simp, Int.emod_eq_of_lt h0 h1]

set_option maxHeartbeats 8000000 in
set_option maxRecDepth 100000 in
theorem walk_FnPits {w : World} (a1 : Option Addr) (l1 c1 : Nat) (hA : Bytes w a1 l1) (a2 : Option Addr) (l2 c2 : Nat) (hB : Bytes w a2 l2) :
    Calls Try.prog 3 #[.slice a1 l1 c1, .slice a2 l2 c2] w fun e w' => e = .returned (.bool true) ∧ Below w.heap.size w w' := by
  have hl1 := hA.1
  have hl2 := hB.1
  have HA := Lib.hid hA
  have HM := Lib.hid hB
  clear hA hB
  rcases hlong : (decide (3000 < l1) || decide (3000 < l2)) with _ | _
  rotate_left
  · have Hl := Lib.hid hlong
    clear hlong
    go_enter Try.func3, Try.ntmps3
    go_wp2_with fail
    refine (long_any _ _ _ _ _ _ true Hl.out hl1 hl2 _).mono ?_
    rintro e w' ⟨rfl, rfl⟩
    go_wp2_with fail
    go_ret
    exact ⟨rfl, Below.refl _ _⟩
  have Hl := Lib.hid hlong
  clear hlong
  go_enter Try.func3, Try.ntmps3
  go_wp2_with fail
  refine (long_any _ _ _ _ _ _ false Hl.out hl1 hl2 _).mono ?_
  rintro e w' ⟨rfl, rfl⟩
  go_wp2_with fail
  refine (a2rules_any _ _ _ _ HA.out).mono ?_
  rintro e w1 ⟨p, s, c, l, st, sk, re, fe, ag, hok, rfl, hb1⟩
  have hbd := okR_bd hok
  have Hok := Lib.hid hok
  clear hok
  have hz1 := hb1.size
  go_wp2_with fail
  refine (at_any a2 l2 c2 _ _ (HM.out.below (hb1.alloc hz1 _)) (by omega) (by omega)).mono ?_
  rintro e w2 ⟨pit, ⟨p0, p1⟩, rfl, hb2⟩
  obtain ⟨n, hn⟩ : ∃ n, n = w1.heap.size := ⟨_, rfl⟩
  have HB2 : Below w.heap.size w w2 := (hb1.alloc hz1 _).trans (hb2.mono (by simp; omega))
  have hn2 : n < w2.heap.size := by have := hb2.size; simp at this; omega
  have hx2 : ∀ o, w2.cell? ⟨n, o, none⟩ = (#[.int .i64 p, .int .i64 s, .bool st, .bool sk, .bool re, .bool fe, .bool ag, .int .i64 c, .int .i64 l] : Array Value)[o]? := fun o => by
    subst hn
    rw [hb2.cell (p := ⟨w1.heap.size, o, none⟩) (by simp)]
    simp
  rw [← hn]
  have hnw : w.heap.size ≤ n := by omega
  clear hn hb2 hb1 hz1
  go_wp2_with fail
  go_loopw [8, 9] (fun x k wr => ∃ (j : Nat) (y : Int), (j : Int) ≤ 2 * p ∧ k = .int .i64 j ∧ x = .int .i64 y ∧ Cyc p pit j y ∧ 0 ≤ y ∧ y < 2 * p ∧ Below w.heap.size w wr ∧ n < wr.heap.size ∧ (∀ o, wr.cell? ⟨n, o, none⟩ = (#[.int .i64 p, .int .i64 s, .bool st, .bool sk, .bool re, .bool fe, .bool ag, .int .i64 c, .int .i64 l] : Array Value)[o]?)) (fun _ k _ => (2 * p - intOf k).toNat)
  case atStart => exact ⟨0, pit, by omega, rfl, rfl, cyc_0 p pit p0 p1, p0, p1, HB2, hn2, hx2⟩
  case round =>
    obtain ⟨j, y, hj, rfl, rfl, hc, y0, y1, HBr, hnr, hxr⟩ := hrel
    have Hc := Lib.hid hc
    clear hc hx2
    by_cases hlt : (j : Int) < 2 * p
    · go_wp2_with fail
      refine (impl_next p s c l st sk re fe ag y _).mono ?_
      rintro e w3 ⟨rfl, hb3⟩
      rw [pit_ok Hok.out y0 y1, pitV_0]
      obtain ⟨e1, e2, e3, e4⟩ := next_rel (2 * p) pit y j (by omega) Hc.out
      generalize (y + 1) % (2 * p) = z at *
      have E1 := Lib.hid e1
      have hne : (z == y) = false := by simpa using e2
      clear e1 e2
      have HB3 : Below w.heap.size w w3 := HBr.trans (hb3.mono (by omega))
      have hn3 : n < w3.heap.size := by have := hb3.size; omega
      have hx3 : ∀ o, w3.cell? ⟨n, o, none⟩ = (#[.int .i64 p, .int .i64 s, .bool st, .bool sk, .bool re, .bool fe, .bool ag, .int .i64 c, .int .i64 l] : Array Value)[o]? := fun o => (hb3.cell (p := ⟨n, o, none⟩) hnr).trans (hxr o)
      clear hxr
      go_wp2_with fail
      go_roundw
      case rel => exact ⟨j + 1, z, by omega, by go_num, rfl, E1.out, e3, e4, HB3, hn3, hx3⟩
      case measure => simp [intOf]; omega
    · have hj2 : (j : Int) = 2 * p := by omega
      obtain rfl : y = pit := by
        have h := Hc.out
        unfold Cyc at h
        rw [hj2, back_rel (2 * p) pit p0 p1] at h
        exact h
      rcases own_cases p y (by omega) (by omega) p0 p1 with ⟨g, e1, e2, e3⟩ | ⟨g, e1, e2, e3⟩
      · have E1 := Lib.hid e1
        have E2 := Lib.hid e2
        have E3 := Lib.hid e3
        have e4 : 0 * p + y = y := by omega
        have E4 := Lib.hid e4
        have e5 : 2 * p - 1 - (2 * p - 1 - y) = y := by omega
        have E5 := Lib.hid e5
        clear e1 e2 e3 e4 e5 hj2
        go_wp2_with fail
        refine (impl_owner p s c l st sk re fe ag y _).mono ?_
        rintro e w3 ⟨rfl, hb3⟩
        rw [pit_ok Hok.out p0 p1, pitV_0, E1.out]
        have HB3 : Below w.heap.size w w3 := HBr.trans (hb3.mono (by omega))
        have hn3 : n < w3.heap.size := by have := hb3.size; omega
        have hx3 : ∀ o, w3.cell? ⟨n, o, none⟩ = (#[.int .i64 p, .int .i64 s, .bool st, .bool sk, .bool re, .bool fe, .bool ag, .int .i64 c, .int .i64 l] : Array Value)[o]? := fun o => (hb3.cell (p := ⟨n, o, none⟩) hnr).trans (hxr o)
        clear hxr
        go_wp2_with fail
        refine (impl_moveof p s c l st sk re fe ag y _).mono ?_
        rintro e w4 ⟨rfl, hb4⟩
        rw [pit_ok Hok.out p0 p1, pitV_0, E2.out]
        have HB4 : Below w.heap.size w w4 := HB3.trans (hb4.mono (by omega))
        have hn4 : n < w4.heap.size := by have := hb4.size; omega
        have hx4 : ∀ o, w4.cell? ⟨n, o, none⟩ = (#[.int .i64 p, .int .i64 s, .bool st, .bool sk, .bool re, .bool fe, .bool ag, .int .i64 c, .int .i64 l] : Array Value)[o]? := fun o => (hb4.cell (p := ⟨n, o, none⟩) hn3).trans (hx3 o)
        clear hx3
        go_wp2_with fail
        refine (impl_pitof p s c l st sk re fe ag 0 y _).mono ?_
        rintro e w5 ⟨rfl, hb5⟩
        rw [move_ok Hok.out (by decide) (by decide) (by omega) (by omega), movV_0, E4.out]
        have HB5 : Below w.heap.size w w5 := HB4.trans (hb5.mono (by omega))
        have hn5 : n < w5.heap.size := by have := hb5.size; omega
        have hx5 : ∀ o, w5.cell? ⟨n, o, none⟩ = (#[.int .i64 p, .int .i64 s, .bool st, .bool sk, .bool re, .bool fe, .bool ag, .int .i64 c, .int .i64 l] : Array Value)[o]? := fun o => (hb5.cell (p := ⟨n, o, none⟩) hn4).trans (hx4 o)
        clear hx4
        go_wp2_with fail
        refine (impl_opposite p s c l st sk re fe ag y _).mono ?_
        rintro e w6 ⟨rfl, hb6⟩
        rw [pit_ok Hok.out p0 p1, pitV_0]
        have HB6 : Below w.heap.size w w6 := HB5.trans (hb6.mono (by omega))
        have hn6 : n < w6.heap.size := by have := hb6.size; omega
        have hx6 : ∀ o, w6.cell? ⟨n, o, none⟩ = (#[.int .i64 p, .int .i64 s, .bool st, .bool sk, .bool re, .bool fe, .bool ag, .int .i64 c, .int .i64 l] : Array Value)[o]? := fun o => (hb6.cell (p := ⟨n, o, none⟩) hn5).trans (hx5 o)
        clear hx5
        go_wp2_with fail
        have gq : 0 ≤ 2 * p - 1 - y := by omega
        refine (impl_opposite p s c l st sk re fe ag (2 * p - 1 - y) _).mono ?_
        rintro e w7 ⟨rfl, hb7⟩
        rw [pit_ok Hok.out (by omega) (by omega), pitV_0, E5.out]
        have HB7 : Below w.heap.size w w7 := HB6.trans (hb7.mono (by omega))
        have hn7 : n < w7.heap.size := by have := hb7.size; omega
        have hx7 : ∀ o, w7.cell? ⟨n, o, none⟩ = (#[.int .i64 p, .int .i64 s, .bool st, .bool sk, .bool re, .bool fe, .bool ag, .int .i64 c, .int .i64 l] : Array Value)[o]? := fun o => (hb7.cell (p := ⟨n, o, none⟩) hn6).trans (hx6 o)
        clear hx6
        go_wp2_with fail
        refine (impl_owner p s c l st sk re fe ag (2 * p - 1 - y) _).mono ?_
        rintro e w8 ⟨rfl, hb8⟩
        rw [pit_ok Hok.out (by omega) (by omega), pitV_0, E3.out]
        have HB8 : Below w.heap.size w w8 := HB7.trans (hb8.mono (by omega))
        have hn8 : n < w8.heap.size := by have := hb8.size; omega
        have hx8 : ∀ o, w8.cell? ⟨n, o, none⟩ = (#[.int .i64 p, .int .i64 s, .bool st, .bool sk, .bool re, .bool fe, .bool ag, .int .i64 c, .int .i64 l] : Array Value)[o]? := fun o => (hb8.cell (p := ⟨n, o, none⟩) hn7).trans (hx7 o)
        clear hx7
        go_wp2_with fail
        go_ret
        exact ⟨rfl, HB8⟩
      · have E1 := Lib.hid e1
        have E2 := Lib.hid e2
        have E3 := Lib.hid e3
        have e4 : 1 * p + (y - p) = y := by omega
        have E4 := Lib.hid e4
        have e5 : 2 * p - 1 - (2 * p - 1 - y) = y := by omega
        have E5 := Lib.hid e5
        clear e1 e2 e3 e4 e5 hj2
        go_wp2_with fail
        refine (impl_owner p s c l st sk re fe ag y _).mono ?_
        rintro e w3 ⟨rfl, hb3⟩
        rw [pit_ok Hok.out p0 p1, pitV_0, E1.out]
        have HB3 : Below w.heap.size w w3 := HBr.trans (hb3.mono (by omega))
        have hn3 : n < w3.heap.size := by have := hb3.size; omega
        have hx3 : ∀ o, w3.cell? ⟨n, o, none⟩ = (#[.int .i64 p, .int .i64 s, .bool st, .bool sk, .bool re, .bool fe, .bool ag, .int .i64 c, .int .i64 l] : Array Value)[o]? := fun o => (hb3.cell (p := ⟨n, o, none⟩) hnr).trans (hxr o)
        clear hxr
        go_wp2_with fail
        refine (impl_moveof p s c l st sk re fe ag y _).mono ?_
        rintro e w4 ⟨rfl, hb4⟩
        rw [pit_ok Hok.out p0 p1, pitV_0, E2.out]
        have HB4 : Below w.heap.size w w4 := HB3.trans (hb4.mono (by omega))
        have hn4 : n < w4.heap.size := by have := hb4.size; omega
        have hx4 : ∀ o, w4.cell? ⟨n, o, none⟩ = (#[.int .i64 p, .int .i64 s, .bool st, .bool sk, .bool re, .bool fe, .bool ag, .int .i64 c, .int .i64 l] : Array Value)[o]? := fun o => (hb4.cell (p := ⟨n, o, none⟩) hn3).trans (hx3 o)
        clear hx3
        go_wp2_with fail
        refine (impl_pitof p s c l st sk re fe ag 1 (y - p) _).mono ?_
        rintro e w5 ⟨rfl, hb5⟩
        rw [move_ok Hok.out (by decide) (by decide) (by omega) (by omega), movV_0, E4.out]
        have HB5 : Below w.heap.size w w5 := HB4.trans (hb5.mono (by omega))
        have hn5 : n < w5.heap.size := by have := hb5.size; omega
        have hx5 : ∀ o, w5.cell? ⟨n, o, none⟩ = (#[.int .i64 p, .int .i64 s, .bool st, .bool sk, .bool re, .bool fe, .bool ag, .int .i64 c, .int .i64 l] : Array Value)[o]? := fun o => (hb5.cell (p := ⟨n, o, none⟩) hn4).trans (hx4 o)
        clear hx4
        go_wp2_with fail
        refine (impl_opposite p s c l st sk re fe ag y _).mono ?_
        rintro e w6 ⟨rfl, hb6⟩
        rw [pit_ok Hok.out p0 p1, pitV_0]
        have HB6 : Below w.heap.size w w6 := HB5.trans (hb6.mono (by omega))
        have hn6 : n < w6.heap.size := by have := hb6.size; omega
        have hx6 : ∀ o, w6.cell? ⟨n, o, none⟩ = (#[.int .i64 p, .int .i64 s, .bool st, .bool sk, .bool re, .bool fe, .bool ag, .int .i64 c, .int .i64 l] : Array Value)[o]? := fun o => (hb6.cell (p := ⟨n, o, none⟩) hn5).trans (hx5 o)
        clear hx5
        go_wp2_with fail
        have gq : 0 ≤ 2 * p - 1 - y := by omega
        refine (impl_opposite p s c l st sk re fe ag (2 * p - 1 - y) _).mono ?_
        rintro e w7 ⟨rfl, hb7⟩
        rw [pit_ok Hok.out (by omega) (by omega), pitV_0, E5.out]
        have HB7 : Below w.heap.size w w7 := HB6.trans (hb7.mono (by omega))
        have hn7 : n < w7.heap.size := by have := hb7.size; omega
        have hx7 : ∀ o, w7.cell? ⟨n, o, none⟩ = (#[.int .i64 p, .int .i64 s, .bool st, .bool sk, .bool re, .bool fe, .bool ag, .int .i64 c, .int .i64 l] : Array Value)[o]? := fun o => (hb7.cell (p := ⟨n, o, none⟩) hn6).trans (hx6 o)
        clear hx6
        go_wp2_with fail
        refine (impl_owner p s c l st sk re fe ag (2 * p - 1 - y) _).mono ?_
        rintro e w8 ⟨rfl, hb8⟩
        rw [pit_ok Hok.out (by omega) (by omega), pitV_0, E3.out]
        have HB8 : Below w.heap.size w w8 := HB7.trans (hb8.mono (by omega))
        have hn8 : n < w8.heap.size := by have := hb8.size; omega
        have hx8 : ∀ o, w8.cell? ⟨n, o, none⟩ = (#[.int .i64 p, .int .i64 s, .bool st, .bool sk, .bool re, .bool fe, .bool ag, .int .i64 c, .int .i64 l] : Array Value)[o]? := fun o => (hb8.cell (p := ⟨n, o, none⟩) hn7).trans (hx7 o)
        clear hx7
        go_wp2_with fail
        go_ret
        exact ⟨rfl, HB8⟩
namespace fnPits
set_option maxHeartbeats 2000000 in
set_option maxRecDepth 100000 in
theorem lifted (os : Os) (started : os.Started) (H : Type) (enc : TypeId × Value → H) :
    ReturnsInHanded {} Try.checked os 3 .any (Rows.fnPitsSpec.pre6 enc Try.prog Try.f3 Rows.fnPitsRow.domain false) (Rows.fnPitsSpec.post enc Try.prog Try.f3 false true false false) := by
  refine returnsInHanded_of_change (C := Try.checked) own started (by kernel_rfl) Try.func3
    (ChangeSpec.witness6 (enc := enc) (C := Try.checked) false ⟨#[], #[.slice none 0 0, .slice none 0 0], []⟩ 8 (by kernel_rfl) (by kernel_rfl) (by kernel_rfl) (by kernel_rfl)) ?_
  intro W base args ds gs before hval0 hW hcnd _
  have hval : ∀ (j : Nat) t v, Try.f3.params[j]? = some t → args[j]? = some v → Value.okWide Try.prog W .any base t v := hval0
  have hW' := hW
  obtain ⟨p, q, hA0, hV, rfl, hfz, hnd⟩ := hW
  have hA : DataW.TrodAll enc Try.prog W 0 (fun _ => true) true Try.f3.params.toList args.toList ds p := hA0
  rw [Try.params3] at hA hval
  obtain ⟨v0, vs0, d0, ds0, p0, q0, hargs, rfl, rfl, h0, r0⟩ := trodAll_cons hA
  obtain ⟨v1, vs1, d1, ds1, p1, q1, rfl, rfl, rfl, h1, r1⟩ := trodAll_cons r0
  obtain ⟨rfl, rfl, rfl⟩ := trodAll_nil r1
  obtain rfl : args = #[v0, v1] := by cases args; simp_all
  obtain ⟨rfl, rfl⟩ := trodVars_none hV
  have k0 := h0
  have lt0 : ∀ x ∈ p0, x.block < W.heap.size := by obtain ⟨m, hm⟩ := k0; exact DataW.trod_lt m _ _ _ hm
  obtain ⟨a0, len0, cap0, rfl, w0⟩ := open_bytes Try.underlying22 Try.underlying5 (by kernel_rfl) (hval 0 22 v0 rfl rfl) h0
  have k1 := h1
  have lt1 : ∀ x ∈ p1, x.block < W.heap.size := by obtain ⟨m, hm⟩ := k1; exact DataW.trod_lt m _ _ _ hm
  obtain ⟨a1, len1, cap1, rfl, w1⟩ := open_bytes Try.underlying22 Try.underlying5 (by kernel_rfl) (hval 1 22 v1 rfl rfl) h1
  clear hA0 hval0
  refine (walk_FnPits a0 len0 cap0 w0 a1 len1 cap1 w1 (w := W)).mono fun e W' ⟨he, bel⟩ => ?_
  subst he
  exact ⟨_, rfl, _, _, _, [], _, [], hW', trodAll_mk1 (shut_bool Try.underlying4 _), (trodAll_cons_mk (Below.trod laidOut (by kernel_rfl) (of_decide_eq_true (by kernel_rfl)) k0 bel lt0) (trodAll_cons_mk (Below.trod laidOut (by kernel_rfl) (of_decide_eq_true (by kernel_rfl)) k1 bel lt1) trodAll_mk0)), rfl, bel.frame _, fun h => by cases h⟩

theorem proved : Rows.FnPitsSaid :=
  OpenClaim.holds_of_wide 3 Try.f3 rfl rfl rfl rfl rfl rfl rfl ⟨rfl, rfl, rfl, rfl, rfl⟩ rfl rfl rfl rfl rfl (by kernel_rfl) Try.func3 (by kernel_rfl)
    (of_decide_eq_true (by kernel_rfl)) (by unfold Func.isWrapper; first | (rw [if_pos (by decide +kernel)]; kernel_rfl) | (rw [if_neg (by decide +kernel)]; exact ⟨rfl, rfl⟩))
    (fun os started H enc _ => lifted os started H enc)
end fnPits

end Go.Proofs.Ytkpmocjghpeppaa
