/- A number repeated: the library's slices.Repeat. No conditions. -/
import Derived.Test.YthbkdlidpdliaabSl4
import Derived.Shelf.Bits.Mul64
import Derived.Deep.DeepCutAuto
import Derived.Deep.RegionHeld3
namespace Go.Proofs.Ythbkdlidpdliaab
open Go.Joins Go.ChangeShapes Go.WideShapes Go.ChangeAt Go.RowKit Go.Deep
set_option linter.unusedVariables false

set_option maxHeartbeats 1000000 in
theorem mul64_any (x y : Nat) (hx : x < 18446744073709551616) (hy : y < 18446744073709551616) (w : World) :
    Calls Try.prog 93 #[.int .u64 x, .int .u64 y] w fun e w' => e = .returned (.tuple #[.int .u64 ((x * y / 18446744073709551616 : Nat) : Int), .int .u64 ((x * y % 18446744073709551616 : Nat) : Int)]) ∧ w' = w := by
  obtain ⟨bd, bt, bw, hhi⟩ := Lib.mul64_hi x y hx hy
  have ba := Lib.half_mul_le (a := x / 4294967296) (b := y / 4294967296) (by omega) (by omega)
  have bb := Lib.half_mul_le (a := x / 4294967296) (b := y % 4294967296) (by omega) (by omega)
  have bc := Lib.half_mul_le (a := x % 4294967296) (b := y / 4294967296) (by omega) (by omega)
  have q1 : x / 4294967296 * (y / 4294967296) < 18446744073709551616 := by omega
  have q2 : x / 4294967296 * (y % 4294967296) < 18446744073709551616 := by omega
  have q3 : x % 4294967296 * (y / 4294967296) < 18446744073709551616 := by omega
  have q4 : x / 4294967296 * (y / 4294967296) + (x / 4294967296 * (y % 4294967296) + x % 4294967296 * (y % 4294967296) / 4294967296) / 4294967296 < 18446744073709551616 := by omega
  have q5 : x / 4294967296 * (y / 4294967296) + (x / 4294967296 * (y % 4294967296) + x % 4294967296 * (y % 4294967296) / 4294967296) / 4294967296 + ((x / 4294967296 * (y % 4294967296) + x % 4294967296 * (y % 4294967296) / 4294967296) % 4294967296 + x % 4294967296 * (y / 4294967296)) / 4294967296 < 18446744073709551616 := by omega
  go_enter Try.func93, Try.ntmps93
  go_wp2
  simp only [Mul64.maskN x hx, Mul64.maskN y hy, Mul64.divN, Mul64.mulN, Mul64.addN, Mul64.wrapN _ bd, Mul64.wrapN _ q2, Mul64.wrapN _ bt, Mul64.maskN _ bt, Mul64.wrapN _ q3, Mul64.wrapN _ bw, Mul64.wrapN _ q1, Mul64.wrapN _ q4, Mul64.wrapN _ q5, Mul64.wrapM (x * y)]
  rw [hhi]
  go_ret2
  exact ⟨rfl, rfl⟩
theorem mul_any (x y : Nat) (hx : x < 18446744073709551616) (hy : y < 18446744073709551616) (w : World) :
    Calls Try.prog 77 #[.int .u64 x, .int .u64 y] w fun e w' => e = .returned (.tuple #[.int .u64 ((x * y / 18446744073709551616 : Nat) : Int), .int .u64 ((x * y % 18446744073709551616 : Nat) : Int)]) ∧ w' = w := by
  have c64 := Lib.hid (mul64_any x y hx hy w)
  go_enter Try.func77, Try.ntmps77
  go_wp2_with (go_at_call 93; refine c64.out.mono ?_; rintro e w' ⟨rfl, hw⟩; rw [hw])
  go_ret2
  exact ⟨rfl, rfl⟩
theorem mul_one' (y : Nat) (hy : y < 18446744073709551616) (w : World) :
    Calls Try.prog 77 #[.int .u64 1, .int .u64 y] w fun e w' => e = .returned (.tuple #[.int .u64 0, .int .u64 y]) ∧ w' = w := by
  have h := mul_any 1 y (by omega) hy w
  rw [Nat.one_mul, Nat.div_eq_of_lt hy, Nat.mod_eq_of_lt hy] at h
  exact h
theorem made_list (n : Nat) (z : Value) : madeCells #[z] n = (List.replicate n z).toArray := by
  apply Array.ext
  · simp [madeCells]
  · intro i h1 h2
    simp [madeCells, Nat.mod_one]
theorem splice_rep (m k n : Nat) (x z : Value) (h : m + k ≤ n) : splice (List.replicate m x ++ List.replicate (n - m) z) m (List.replicate k x) = List.replicate (m + k) x ++ List.replicate (n - (m + k)) z := by
  unfold splice
  rw [List.take_left' (by simp), List.length_replicate, List.drop_append, List.drop_eq_nil_of_le (by simp), List.nil_append, List.drop_replicate, ← List.append_assoc, List.replicate_append_replicate]
  simp
  omega
theorem info_one : (Try.prog.info? 2).map (·.size) = some 1 := by
  obtain ⟨i0, hi, hz0, hz1, hz2⟩ := info_parts infoN
  rw [hi]
  simp [hz1]
set_option maxHeartbeats 4000000 in
set_option maxRecDepth 100000 in
theorem repeat_any (b : Nat) (x : Int) (n : Nat) (w : World) (hb : b < w.heap.size) (hx : w.cell? ⟨b, 0, none⟩ = some (.int .i64 x)) (h1 : 1 ≤ n) (hn : n ≤ 1000000) :
    Calls Try.prog 65 #[.slice (some ⟨b, 0, none⟩) 1 1, .int .i64 n] w (OwnP (List.replicate n x) n w) := by
  have q0 : ¬ ((n : Int) < 0) := by omega
  have hmk := run_make_row' (P := Try.prog) 24 2 (.int .i64 0) 8 Try.underlying24 infoN rfl .i64 .i64 n (by omega) (by omega)
  have HM := Lib.hid (mul_one' n (by omega) w)
  have hu1 : IntKind.u64.wrap (n : Int) = (n : Int) := by rw [IntKind.wrap_u64]; omega
  have HG : Hid ((w.alloc (.cells (madeCells #[.int .i64 0] n) 2)).heap[w.heap.size]? = some (.cells (List.replicate n (Value.int .i64 0)).toArray 2 (0, 0))) := Lib.hid (by rw [← made_list]; exact heap_alloc_new w _)
  have HX : Hid ((w.alloc (.cells (madeCells #[.int .i64 0] n) 2)).cell? ⟨b, 0, none⟩ = some (.int .i64 x)) := Lib.hid (by rw [((Below.refl _ _).alloc (Nat.le_refl _) _).cell (p := ⟨b, 0, none⟩) hb]; exact hx)
  have HB := Lib.hid ((Below.refl w.heap.size w).alloc (Nat.le_refl _) (.cells (madeCells #[.int .i64 0] n) 2))
  have HI := Lib.hid info_one
  go_enter Try.func65, Try.ntmps65
  go_wp2_with fail
  refine HM.out.mono ?_
  rintro e w' ⟨rfl, hw⟩
  rw [hw]
  clear hw w'
  have q1 : ¬ ((9223372036854775807 : Int) < (n : Int)) := by omega
  go_upto_region 7 with fail
  clear hmk HM
  go_wp2_with ((with_reducible show wpList _ _ _ ((⟨some 33, _, _, _, _, _⟩ : Oper) :: _) _ _); go_must (refine wpList_copy_splice rfl (.tmp 31) (.tmp 32) 24 24 rfl 2 Try.underlying24 HI.out _ _ _ _ _ _ rfl rfl w.heap.size 0 (List.replicate n (.int .i64 0)) 2 HG.out [.int .i64 x] (by show 1 = min 1 n; omega) (fun _ => ⟨rfl, ⟨b, 0, none⟩, rfl, fun j v hv => by match j, hv with | 0, hv => cases hv; exact HX.out⟩) (by simp; omega) (fun v hv => by cases List.mem_singleton.1 hv; rfl) w.heap.size w HB.out (Nat.le_refl _) ?_); intro w4 hg4 hb4)
  have hg5 : Hid (w4.heap[w.heap.size]? = some (.cells (List.replicate 1 (Value.int .i64 x) ++ List.replicate (n - 1) (Value.int .i64 0)).toArray 2 (0, 0))) := Lib.hid (by
    have e := splice_rep 0 1 n (Value.int .i64 x) (Value.int .i64 0) (by omega)
    simp only [List.replicate_zero, List.nil_append, Nat.sub_zero, Nat.zero_add] at e
    rw [← e]
    exact hg4.out)
  have HB4 := Lib.hid hb4
  clear hg4 hb4 HG HX HB
  go_loopw [8] (fun i wr => ∃ m : Nat, 1 ≤ m ∧ m ≤ n ∧ i = .int .i64 m ∧ wr.heap[w.heap.size]? = some (.cells (List.replicate m (Value.int .i64 x) ++ List.replicate (n - m) (Value.int .i64 0)).toArray 2 (0, 0)) ∧ Below w.heap.size w wr) (fun i _ => n - (intOf i).toNat)
  case atStart => exact ⟨1, Nat.le_refl _, h1, rfl, hg5.out, HB4.out⟩
  case round =>
    obtain ⟨m, hm1, hm2, rfl, hg, hb⟩ := hrel
    have HG := Lib.hid hg
    have HB := Lib.hid hb
    clear hg hb hg5 HB4
    by_cases hlt : m < n
    · have p0 : (m : Int) < (n : Int) := by omega
      have p1 : ¬ n = m := by omega
      have p2 : (m : Int) ≤ (n : Int) := by omega
      have p3 : (0 : Int) ≤ (m : Int) := by omega
      obtain ⟨k, hk⟩ : ∃ k : Nat, k = Nat.min m (n - m) := ⟨_, rfl⟩
      have hk1 : k ≤ m := by rw [hk]; exact Nat.min_le_left _ _
      have hk2 : k ≤ n - m := by rw [hk]; exact Nat.min_le_right _ _
      have hk3 : 1 ≤ k := by rw [hk]; show 1 ≤ min m (n - m); omega
      have HCELLS : Hid (∀ j v, (List.replicate k (Value.int .i64 x))[j]? = some v → wr.cell? ((⟨w.heap.size, 0, none⟩ : Addr).add j) = some v) := Lib.hid (fun j v hv => by
        have hj : j < k := by
          have := (List.getElem?_eq_some_iff.1 hv).1
          simpa using this
        have e : ((⟨w.heap.size, 0, none⟩ : Addr).add j) = ⟨w.heap.size, j, none⟩ := by
          by_cases h : j = 0 <;> simp [Addr.add, h]
        rw [e]
        rw [List.getElem?_replicate, if_pos hj] at hv
        cases hv
        have hjm : j < m := by omega
        simp [World.cell?, HG.out, List.getElem?_append, hjm])
      go_upto_region 9 with fail
      go_region_held3 (fun u => Below w.heap.size w u) (first | exact HB.out | exact HB.out.drew | exact hb5 | exact hb5.drew) ((refine step_copy_splice rfl (.tmp 41) (.tmp 44) 24 24 rfl 2 Try.underlying24 HI.out (some ⟨w.heap.size, m, none⟩) (some ⟨w.heap.size, 0, none⟩) (n - m) (n - m) m n (by go_simp) (by go_simp) w.heap.size m _ 2 HG.out (List.replicate k (.int .i64 x)) (by rw [List.length_replicate]; exact hk) (fun _ => ⟨rfl, ⟨w.heap.size, 0, none⟩, rfl, HCELLS.out⟩) (by simp; omega) (fun v hv => by rw [List.eq_of_mem_replicate hv]; rfl) w.heap.size w HB.out.drew (Nat.le_refl _) ?_; intro w5 hg5 hb5))
      have hw5 : IntKind.i64.wrap ((m : Int) + (k : Int)) = ((m + k : Nat) : Int) := by rw [IntWalk.i64_in _ ⟨by omega, by omega⟩]; omega
      go_wp2_with fail
      go_roundw
      case rel =>
        rw [← hk, hw5]
        refine ⟨m + k, by omega, by omega, rfl, ?_, hb5⟩
        rw [← splice_rep m k n _ _ (by omega)]
        exact hg5.out
      case measure =>
        rw [← hk, hw5]
        show n - ((((m + k : Nat) : Int)).toNat) < n - (((m : Nat) : Int).toNat)
        omega
    · obtain rfl : m = n := by omega
      go_wp2_with fail
      go_ret
      exact ⟨_, rfl, ⟨by simp [nvs], .inr ⟨w.heap.size, m, _, rfl, Nat.le_refl _, HG.out, Nat.le_refl _, by unfold maxLen; omega, by simp, by simp [nvs]⟩⟩, HB.out⟩
end Go.Proofs.Ythbkdlidpdliaab
