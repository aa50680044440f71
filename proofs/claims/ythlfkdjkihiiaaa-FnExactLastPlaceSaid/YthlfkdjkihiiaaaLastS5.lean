/- The place of a lap's last seed, as the reference finds it. No conditions. -/
import Derived.Test.YthlfkdjkihiiaaaLap5
import Derived.Deep.DeepCutAuto
namespace Go.Proofs.Ythlfkdjkihiiaaa
open Go.Joins Go.ChangeShapes Go.WideShapes Go.ChangeAt Go.RowKit Go.Deep
set_option linter.unusedVariables false

theorem out_made (u : World) (n : Nat) (T : TypeId) (hn : n ≤ 1000000000000) : OutN (u.alloc (.cells (madeCells #[.int .i64 0] n) T)) u.heap.size (some ⟨u.heap.size, 0, none⟩) u.heap.size (List.replicate n 0) :=
  ⟨⟨by simpa using hn, .inr ⟨u.heap.size, 0, rfl, by simp, fun i z hi => by
    have hlt : i < n := by have := (List.getElem?_eq_some_iff.1 hi).1; simpa using this
    rw [cell_made u n i hlt T]
    simp [hlt] at hi
    rw [hi]⟩⟩, fun _ _ e => by cases e; rfl, Nat.le_refl _, fun _ => ⟨by simp, fun o => by go_simp⟩⟩
theorem tot_rep (n : Nat) : tot (List.replicate n 0) = 0 := by
  induction n with
  | zero => rfl
  | succ n ih => simp [List.replicate_succ, tot, ih]
theorem posB_rep (n : Nat) : posB (List.replicate n 0) = true := by simp [posB]
theorem getD_rep (n i : Nat) : (List.replicate n (0 : Int)).getD i 0 = 0 := by
  simp [List.getD, List.getElem?_replicate]
  split <;> rfl
/-- A lap of n seeds from pit F of an empty board. -/
theorem lap_only (R : Rl) (P F n : Nat) (hR : R.Fit) (hp : R.p = P) (hF : F < 2 * P) (h1 : 1 ≤ n) (h2 : n ≤ 96) : Lap R ((List.replicate (2 * P) 0).set F (n : Int)) [0, 0] F n ∧ cnt ((List.replicate (2 * P) 0).set F (n : Int)) F = n := by
  have hg : ((List.replicate (2 * P) (0 : Int)).set F (n : Int)).getD F 0 = n := by simp [List.getD, hF]
  refine ⟨⟨⟨by simp [hp], rfl, posB_set (posB_rep _) (by omega), by decide, ?_⟩, by omega, by rw [hp]; omega, by rw [Int.toNat_natCast, hg]; omega, by omega⟩, by unfold cnt; rw [Int.toNat_natCast, hg]; simp⟩
  rw [tot_set (by simpa using hF), tot_rep, getD_rep]
  simp [tot]

set_option maxHeartbeats 4000000 in
set_option maxRecDepth 100000 in
theorem specLast0 (P n F : Nat) (s c l : Int) (st sk re fe ag : Bool) (move : Int) (w : World) (hF : move = (F : Int)) (hok : okR (P : Int) s c l st ag = true) (hm0 : 0 ≤ move) (hm1 : move < P) (hn1 : 1 ≤ n) (hn2 : n ≤ 96) :
    Calls Try.prog 47 #[.agg #[.int .i64 P, .int .i64 s, .bool st, .bool sk, .bool re, .bool fe, .bool ag, .int .i64 c, .int .i64 l], .int .i64 0, .int .i64 move, .int .i64 n] w fun e w' => e = .returned (.tuple #[.int .i64 (plc P 0 st sk F (n - 1)), .int .i64 0]) ∧ Below w.heap.size w w' := by
  obtain ⟨hp2, hp8, -⟩ := okR_bd hok
  have Hok := Lib.hid hok
  have hmk : ∀ w, (Instr.makeSlice 26 (.int .i64 (2 * (P : Int))) (.int .i64 (2 * (P : Int)))).run Try.prog w = .ok (.slice (some ⟨w.heap.size, 0, none⟩) (2 * P) (2 * P)) (w.alloc (.cells (madeCells #[.int .i64 0] (2 * P)) 2)) := fun w => by
    have := run_make_row' (P := Try.prog) 26 2 (.int .i64 0) 8 Try.underlying26 infoN rfl .i64 .i64 (2 * P) (by omega) (by omega) w
    rwa [show ((2 * P : Nat) : Int) = 2 * (P : Int) by omega] at this
  have q0 : (1 : Int) ≤ n := by omega
  have q1 : (n : Int) ≤ 96 := by omega
  have hFl : F < 2 * P := by omega
  have q2 : (F : Int) < 2 * (P : Int) := by omega
  clear hok
  go_enter Try.func47, Try.ntmps47
  go_upto_region 7 with (first | (go_at_call 69; refine (l02Ok_any (P : Int) s c l st sk re fe ag _ _ (by go_simp) (by go_simp) (by go_simp) (by go_simp) (by go_simp) (by go_simp) (by go_simp) (by go_simp) (by go_simp)).mono ?_; rintro e w' ⟨rfl, rfl⟩; rw [Hok.out]) | (go_at_call 71; refine (in_b _ _ _ true (by first | (simp; done) | (simp; omega)) _).mono ?_; rintro e w' ⟨rfl, rfl⟩))
  have hS : SoS ((((w.alloc (.cells #[.int .i64 P, .int .i64 s, .bool st, .bool sk, .bool re, .bool fe, .bool ag, .int .i64 c, .int .i64 l] 25)).alloc (.cells (madeCells #[.int .i64 0] (2 * P)) 2)).alloc (.cells #[.int .i64 0, .int .i64 0] 2)).alloc (.cells #[.slice (some ⟨w.heap.size + 1, 0, none⟩) (2 * P) (2 * P), .slice (some ⟨w.heap.size + 1 + 1, 0, none⟩) 2 2, .int .i64 0, .int .i64 0] 33))
      w.heap.size (w.heap.size + 1 + 1 + 1) (w.heap.size + 1) (2 * P) (w.heap.size + 1 + 1) 2 (2 * P) 0 0 (List.replicate (2 * P) 0) [0, 0] := by
    have o1 := out_made (w.alloc (.cells #[.int .i64 P, .int .i64 s, .bool st, .bool sk, .bool re, .bool fe, .bool ag, .int .i64 c, .int .i64 l] 25)) (2 * P) 2 (by omega)
    rw [World.size_alloc] at o1
    have o2 := out_two ((w.alloc (.cells #[.int .i64 P, .int .i64 s, .bool st, .bool sk, .bool re, .bool fe, .bool ag, .int .i64 c, .int .i64 l] 25)).alloc (.cells (madeCells #[.int .i64 0] (2 * P)) 2)) 0 0 2
    rw [World.size_alloc, World.size_alloc] at o2
    have o3 := so_new (some ⟨w.heap.size + 1, 0, none⟩) (some ⟨w.heap.size + 1 + 1, 0, none⟩) (2 * P) (2 * P) 2 2 0 0 (((w.alloc (.cells #[.int .i64 P, .int .i64 s, .bool st, .bool sk, .bool re, .bool fe, .bool ag, .int .i64 c, .int .i64 l] 25)).alloc (.cells (madeCells #[.int .i64 0] (2 * P)) 2)).alloc (.cells #[.int .i64 0, .int .i64 0] 2)) 33
    rw [World.size_alloc, World.size_alloc, World.size_alloc] at o3
    exact ⟨o3, fun o => by go_simp, ((o1.alloc _).alloc _).lower (by omega), (o2.alloc _).lower (by omega), by simp, rfl, by omega, by omega, by omega⟩
  have hRu : RuAt ((((w.alloc (.cells #[.int .i64 P, .int .i64 s, .bool st, .bool sk, .bool re, .bool fe, .bool ag, .int .i64 c, .int .i64 l] 25)).alloc (.cells (madeCells #[.int .i64 0] (2 * P)) 2)).alloc (.cells #[.int .i64 0, .int .i64 0] 2)).alloc (.cells #[.slice (some ⟨w.heap.size + 1, 0, none⟩) (2 * P) (2 * P), .slice (some ⟨w.heap.size + 1 + 1, 0, none⟩) 2 2, .int .i64 0, .int .i64 0] 33)) w.heap.size (P : Int) s c l st sk re fe ag :=
    (((ru_new (P : Int) s c l st sk re fe ag w 25).below ((Below.refl _ _).alloc (Nat.le_refl _) _)).below ((Below.refl _ _).alloc (Nat.le_refl _) _)).below ((Below.refl _ _).alloc (Nat.le_refl _) _)
  have hB : Below w.heap.size w ((((w.alloc (.cells #[.int .i64 P, .int .i64 s, .bool st, .bool sk, .bool re, .bool fe, .bool ag, .int .i64 c, .int .i64 l] 25)).alloc (.cells (madeCells #[.int .i64 0] (2 * P)) 2)).alloc (.cells #[.int .i64 0, .int .i64 0] 2)).alloc (.cells #[.slice (some ⟨w.heap.size + 1, 0, none⟩) (2 * P) (2 * P), .slice (some ⟨w.heap.size + 1 + 1, 0, none⟩) 2 2, .int .i64 0, .int .i64 0] 33)) :=
    ((((Below.refl _ _).alloc (Nat.le_refl _) _).alloc (by simp) _).alloc (by simp; omega) _).alloc (by simp; omega) _
  have hz : ((((w.alloc (.cells #[.int .i64 P, .int .i64 s, .bool st, .bool sk, .bool re, .bool fe, .bool ag, .int .i64 c, .int .i64 l] 25)).alloc (.cells (madeCells #[.int .i64 0] (2 * P)) 2)).alloc (.cells #[.int .i64 0, .int .i64 0] 2)).alloc (.cells #[.slice (some ⟨w.heap.size + 1, 0, none⟩) (2 * P) (2 * P), .slice (some ⟨w.heap.size + 1 + 1, 0, none⟩) 2 2, .int .i64 0, .int .i64 0] 33)).heap.size = w.heap.size + 1 + 1 + 1 + 1 := by simp
  generalize (((w.alloc (.cells #[.int .i64 P, .int .i64 s, .bool st, .bool sk, .bool re, .bool fe, .bool ag, .int .i64 c, .int .i64 l] 25)).alloc (.cells (madeCells #[.int .i64 0] (2 * P)) 2)).alloc (.cells #[.int .i64 0, .int .i64 0] 2)).alloc (.cells #[.slice (some ⟨w.heap.size + 1, 0, none⟩) (2 * P) (2 * P), .slice (some ⟨w.heap.size + 1 + 1, 0, none⟩) 2 2, .int .i64 0, .int .i64 0] 33) = W3 at *
  obtain ⟨b3, hb3⟩ : ∃ b, b = w.heap.size + 1 + 1 + 1 := ⟨_, rfl⟩
  obtain ⟨b2, hb2⟩ : ∃ b, b = w.heap.size + 1 + 1 := ⟨_, rfl⟩
  obtain ⟨b1, hb1⟩ : ∃ b, b = w.heap.size + 1 := ⟨_, rfl⟩
  rw [← hb3] at hS ⊢
  rw [← hb2] at hS
  rw [← hb1] at hS
  obtain ⟨x1, x2, x3⟩ := hS.x hFl
  obtain ⟨-, k0, -⟩ := hS.so
  have HS := Lib.hid (hS.setX hFl (n : Int))
  have HRu := Lib.hid (hRu.but ((But.refl b1 W3).setCell (p := ⟨b1, F, none⟩) rfl (.int .i64 n)) (by omega))
  have HB := Lib.hid (hB.setCell (p := ⟨b1, F, none⟩) (by simp; omega) (.int .i64 n))
  have hz2 : (W3.setCell ⟨b1, F, none⟩ (.int .i64 n)).heap.size = w.heap.size + 1 + 1 + 1 + 1 := by simpa using hz
  have HL := Lib.hid (lap_only ⟨P, 0, st, sk, re⟩ P F n ⟨by simpa using hp2, by simpa using hp8, by simp⟩ rfl hFl hn1 hn2)
  have Hz2 := Lib.hid hz2
  have Hb := Lib.hid (And.intro hb1 (And.intro hb2 hb3))
  clear hS hRu hB hz hz2 hb1 hb2 hb3 hmk
  go_upto_region 8 with fail
  clear x1 x2 x3 k0
  generalize W3.setCell ⟨b1, F, none⟩ (.int .i64 n) = W4 at *
  have hrow : (W4.alloc (.cells #[] 2)).ownsRow W4.heap.size 2 1 (.slice (some ⟨W4.heap.size, 0, none⟩) 0 0) ([] : List Int).length (nvs []) := World.ownsRow_made W4 #[] 0 (Nat.le_refl _) (by decide) rfl
  have Hrow := Lib.hid hrow
  have HW := Lib.hid ((Below.refl W4.heap.size W4).alloc (Nat.le_refl _) (.cells #[] 2))
  have HC : Hid (Calls Try.prog 67 #[.pointer (some ⟨w.heap.size, 0, none⟩), .pointer (some ⟨b3, 0, none⟩), .int .i64 0, .int .i64 F, .slice (some ⟨W4.heap.size, 0, none⟩) 0 0] (W4.alloc (.cells #[] 2))
      fun e w' => (∃ v, e = .returned v) ∧ Below w.heap.size w w' ∧ w'.cell? ⟨b3, 2, none⟩ = some (.int .i64 (plc P 0 st sk F (n - 1)))) := by
    have hbb := Hb.out
    have hzz := Hz2.out
    refine Lib.hid ((specLap0 w _ ⟨P, 0, st, sk, re⟩ P s c l st sk re fe ag rfl n w.heap.size b3 b1 (2 * P) b2 2 (2 * P) W4.heap.size 0 0 F ((List.replicate (2 * P) 0).set F (n : Int)) [0, 0] [] _ (by omega) (by omega) HL.out.1 (HB.out.trans (HW.out.mono HB.out.size)) (HRu.out.below HW.out) (HS.out.below HW.out) Hrow.out (by simp) (by omega) (by omega) (by omega) (by omega) (by omega) (by omega) (by omega) (by omega) (by omega) (by omega) (by simp) (by omega)).mono ?_)
    rintro e w5 ⟨v5, rfl, hb5, hr5, hs5, hrow5, hsz5⟩
    refine ⟨⟨_, rfl⟩, hb5, ?_⟩
    have := hs5.so.2.2.2.1
    unfold lst at this
    rw [HL.out.2] at this
    exact this
  clear hrow
  go_wp2_with (go_at_call 67; refine HC.out.mono ?_; rintro e w5 ⟨⟨v5, rfl⟩, hb5, hla⟩; have HB5 := Lib.hid hb5; clear hb5)
  go_ret2
  exact ⟨rfl, HB5.out⟩
set_option maxHeartbeats 4000000 in
set_option maxRecDepth 100000 in
theorem specLast1 (P n F : Nat) (s c l : Int) (st sk re fe ag : Bool) (move : Int) (w : World) (hF : (P : Int) + move = (F : Int)) (hok : okR (P : Int) s c l st ag = true) (hm0 : 0 ≤ move) (hm1 : move < P) (hn1 : 1 ≤ n) (hn2 : n ≤ 96) :
    Calls Try.prog 47 #[.agg #[.int .i64 P, .int .i64 s, .bool st, .bool sk, .bool re, .bool fe, .bool ag, .int .i64 c, .int .i64 l], .int .i64 1, .int .i64 move, .int .i64 n] w fun e w' => e = .returned (.tuple #[.int .i64 (plc P 1 st sk F (n - 1)), .int .i64 0]) ∧ Below w.heap.size w w' := by
  obtain ⟨hp2, hp8, -⟩ := okR_bd hok
  have Hok := Lib.hid hok
  have hmk : ∀ w, (Instr.makeSlice 26 (.int .i64 (2 * (P : Int))) (.int .i64 (2 * (P : Int)))).run Try.prog w = .ok (.slice (some ⟨w.heap.size, 0, none⟩) (2 * P) (2 * P)) (w.alloc (.cells (madeCells #[.int .i64 0] (2 * P)) 2)) := fun w => by
    have := run_make_row' (P := Try.prog) 26 2 (.int .i64 0) 8 Try.underlying26 infoN rfl .i64 .i64 (2 * P) (by omega) (by omega) w
    rwa [show ((2 * P : Nat) : Int) = 2 * (P : Int) by omega] at this
  have q0 : (1 : Int) ≤ n := by omega
  have q1 : (n : Int) ≤ 96 := by omega
  have hFl : F < 2 * P := by omega
  have q2 : (F : Int) < 2 * (P : Int) := by omega
  clear hok
  go_enter Try.func47, Try.ntmps47
  go_upto_region 7 with (first | (go_at_call 69; refine (l02Ok_any (P : Int) s c l st sk re fe ag _ _ (by go_simp) (by go_simp) (by go_simp) (by go_simp) (by go_simp) (by go_simp) (by go_simp) (by go_simp) (by go_simp)).mono ?_; rintro e w' ⟨rfl, rfl⟩; rw [Hok.out]) | (go_at_call 71; refine (in_b _ _ _ true (by first | (simp; done) | (simp; omega)) _).mono ?_; rintro e w' ⟨rfl, rfl⟩))
  have hS : SoS ((((w.alloc (.cells #[.int .i64 P, .int .i64 s, .bool st, .bool sk, .bool re, .bool fe, .bool ag, .int .i64 c, .int .i64 l] 25)).alloc (.cells (madeCells #[.int .i64 0] (2 * P)) 2)).alloc (.cells #[.int .i64 0, .int .i64 0] 2)).alloc (.cells #[.slice (some ⟨w.heap.size + 1, 0, none⟩) (2 * P) (2 * P), .slice (some ⟨w.heap.size + 1 + 1, 0, none⟩) 2 2, .int .i64 0, .int .i64 0] 33))
      w.heap.size (w.heap.size + 1 + 1 + 1) (w.heap.size + 1) (2 * P) (w.heap.size + 1 + 1) 2 (2 * P) 0 0 (List.replicate (2 * P) 0) [0, 0] := by
    have o1 := out_made (w.alloc (.cells #[.int .i64 P, .int .i64 s, .bool st, .bool sk, .bool re, .bool fe, .bool ag, .int .i64 c, .int .i64 l] 25)) (2 * P) 2 (by omega)
    rw [World.size_alloc] at o1
    have o2 := out_two ((w.alloc (.cells #[.int .i64 P, .int .i64 s, .bool st, .bool sk, .bool re, .bool fe, .bool ag, .int .i64 c, .int .i64 l] 25)).alloc (.cells (madeCells #[.int .i64 0] (2 * P)) 2)) 0 0 2
    rw [World.size_alloc, World.size_alloc] at o2
    have o3 := so_new (some ⟨w.heap.size + 1, 0, none⟩) (some ⟨w.heap.size + 1 + 1, 0, none⟩) (2 * P) (2 * P) 2 2 0 0 (((w.alloc (.cells #[.int .i64 P, .int .i64 s, .bool st, .bool sk, .bool re, .bool fe, .bool ag, .int .i64 c, .int .i64 l] 25)).alloc (.cells (madeCells #[.int .i64 0] (2 * P)) 2)).alloc (.cells #[.int .i64 0, .int .i64 0] 2)) 33
    rw [World.size_alloc, World.size_alloc, World.size_alloc] at o3
    exact ⟨o3, fun o => by go_simp, ((o1.alloc _).alloc _).lower (by omega), (o2.alloc _).lower (by omega), by simp, rfl, by omega, by omega, by omega⟩
  have hRu : RuAt ((((w.alloc (.cells #[.int .i64 P, .int .i64 s, .bool st, .bool sk, .bool re, .bool fe, .bool ag, .int .i64 c, .int .i64 l] 25)).alloc (.cells (madeCells #[.int .i64 0] (2 * P)) 2)).alloc (.cells #[.int .i64 0, .int .i64 0] 2)).alloc (.cells #[.slice (some ⟨w.heap.size + 1, 0, none⟩) (2 * P) (2 * P), .slice (some ⟨w.heap.size + 1 + 1, 0, none⟩) 2 2, .int .i64 0, .int .i64 0] 33)) w.heap.size (P : Int) s c l st sk re fe ag :=
    (((ru_new (P : Int) s c l st sk re fe ag w 25).below ((Below.refl _ _).alloc (Nat.le_refl _) _)).below ((Below.refl _ _).alloc (Nat.le_refl _) _)).below ((Below.refl _ _).alloc (Nat.le_refl _) _)
  have hB : Below w.heap.size w ((((w.alloc (.cells #[.int .i64 P, .int .i64 s, .bool st, .bool sk, .bool re, .bool fe, .bool ag, .int .i64 c, .int .i64 l] 25)).alloc (.cells (madeCells #[.int .i64 0] (2 * P)) 2)).alloc (.cells #[.int .i64 0, .int .i64 0] 2)).alloc (.cells #[.slice (some ⟨w.heap.size + 1, 0, none⟩) (2 * P) (2 * P), .slice (some ⟨w.heap.size + 1 + 1, 0, none⟩) 2 2, .int .i64 0, .int .i64 0] 33)) :=
    ((((Below.refl _ _).alloc (Nat.le_refl _) _).alloc (by simp) _).alloc (by simp; omega) _).alloc (by simp; omega) _
  have hz : ((((w.alloc (.cells #[.int .i64 P, .int .i64 s, .bool st, .bool sk, .bool re, .bool fe, .bool ag, .int .i64 c, .int .i64 l] 25)).alloc (.cells (madeCells #[.int .i64 0] (2 * P)) 2)).alloc (.cells #[.int .i64 0, .int .i64 0] 2)).alloc (.cells #[.slice (some ⟨w.heap.size + 1, 0, none⟩) (2 * P) (2 * P), .slice (some ⟨w.heap.size + 1 + 1, 0, none⟩) 2 2, .int .i64 0, .int .i64 0] 33)).heap.size = w.heap.size + 1 + 1 + 1 + 1 := by simp
  generalize (((w.alloc (.cells #[.int .i64 P, .int .i64 s, .bool st, .bool sk, .bool re, .bool fe, .bool ag, .int .i64 c, .int .i64 l] 25)).alloc (.cells (madeCells #[.int .i64 0] (2 * P)) 2)).alloc (.cells #[.int .i64 0, .int .i64 0] 2)).alloc (.cells #[.slice (some ⟨w.heap.size + 1, 0, none⟩) (2 * P) (2 * P), .slice (some ⟨w.heap.size + 1 + 1, 0, none⟩) 2 2, .int .i64 0, .int .i64 0] 33) = W3 at *
  obtain ⟨b3, hb3⟩ : ∃ b, b = w.heap.size + 1 + 1 + 1 := ⟨_, rfl⟩
  obtain ⟨b2, hb2⟩ : ∃ b, b = w.heap.size + 1 + 1 := ⟨_, rfl⟩
  obtain ⟨b1, hb1⟩ : ∃ b, b = w.heap.size + 1 := ⟨_, rfl⟩
  rw [← hb3] at hS ⊢
  rw [← hb2] at hS
  rw [← hb1] at hS
  obtain ⟨x1, x2, x3⟩ := hS.x hFl
  obtain ⟨-, k0, -⟩ := hS.so
  have HS := Lib.hid (hS.setX hFl (n : Int))
  have HRu := Lib.hid (hRu.but ((But.refl b1 W3).setCell (p := ⟨b1, F, none⟩) rfl (.int .i64 n)) (by omega))
  have HB := Lib.hid (hB.setCell (p := ⟨b1, F, none⟩) (by simp; omega) (.int .i64 n))
  have hz2 : (W3.setCell ⟨b1, F, none⟩ (.int .i64 n)).heap.size = w.heap.size + 1 + 1 + 1 + 1 := by simpa using hz
  have HL := Lib.hid (lap_only ⟨P, 1, st, sk, re⟩ P F n ⟨by simpa using hp2, by simpa using hp8, by simp⟩ rfl hFl hn1 hn2)
  have Hz2 := Lib.hid hz2
  have Hb := Lib.hid (And.intro hb1 (And.intro hb2 hb3))
  clear hS hRu hB hz hz2 hb1 hb2 hb3 hmk
  go_upto_region 8 with fail
  clear x1 x2 x3 k0
  generalize W3.setCell ⟨b1, F, none⟩ (.int .i64 n) = W4 at *
  have hrow : (W4.alloc (.cells #[] 2)).ownsRow W4.heap.size 2 1 (.slice (some ⟨W4.heap.size, 0, none⟩) 0 0) ([] : List Int).length (nvs []) := World.ownsRow_made W4 #[] 0 (Nat.le_refl _) (by decide) rfl
  have Hrow := Lib.hid hrow
  have HW := Lib.hid ((Below.refl W4.heap.size W4).alloc (Nat.le_refl _) (.cells #[] 2))
  have HC : Hid (Calls Try.prog 67 #[.pointer (some ⟨w.heap.size, 0, none⟩), .pointer (some ⟨b3, 0, none⟩), .int .i64 1, .int .i64 F, .slice (some ⟨W4.heap.size, 0, none⟩) 0 0] (W4.alloc (.cells #[] 2))
      fun e w' => (∃ v, e = .returned v) ∧ Below w.heap.size w w' ∧ w'.cell? ⟨b3, 2, none⟩ = some (.int .i64 (plc P 1 st sk F (n - 1)))) := by
    have hbb := Hb.out
    have hzz := Hz2.out
    refine Lib.hid ((specLap1 w _ ⟨P, 1, st, sk, re⟩ P s c l st sk re fe ag rfl n w.heap.size b3 b1 (2 * P) b2 2 (2 * P) W4.heap.size 0 0 F ((List.replicate (2 * P) 0).set F (n : Int)) [0, 0] [] _ (by omega) (by omega) HL.out.1 (HB.out.trans (HW.out.mono HB.out.size)) (HRu.out.below HW.out) (HS.out.below HW.out) Hrow.out (by simp) (by omega) (by omega) (by omega) (by omega) (by omega) (by omega) (by omega) (by omega) (by omega) (by omega) (by simp) (by omega)).mono ?_)
    rintro e w5 ⟨v5, rfl, hb5, hr5, hs5, hrow5, hsz5⟩
    refine ⟨⟨_, rfl⟩, hb5, ?_⟩
    have := hs5.so.2.2.2.1
    unfold lst at this
    rw [HL.out.2] at this
    exact this
  clear hrow
  go_wp2_with (go_at_call 67; refine HC.out.mono ?_; rintro e w5 ⟨⟨v5, rfl⟩, hb5, hla⟩; have HB5 := Lib.hid hb5; clear hb5)
  go_ret2
  exact ⟨rfl, HB5.out⟩
end Go.Proofs.Ythlfkdjkihiiaaa
