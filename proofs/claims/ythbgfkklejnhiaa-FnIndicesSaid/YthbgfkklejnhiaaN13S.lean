/- The reference's codes, counts and first indices of positions. No conditions. -/
import Derived.Test.YthbgfkklejnhiaaN13
import Derived.Deep.RegionHeld3
namespace Go.Proofs.Ythbgfkklejnhiaa
open Go.Joins Go.ChangeShapes Go.WideShapes Go.ChangeAt Go.RowKit Go.Deep
set_option linter.unusedVariables false

/-- Rules lie in a block; nothing of w is turned. -/
def RbAt (w : World) (b : Nat) (p s c l : Int) (st sk re fe ag : Bool) (u : World) : Prop := RuAt u b p s c l st sk re fe ag ∧ Below w.heap.size w u
section
variable {w u v : World} {b : Nat} {p s c l : Int} {st sk re fe ag : Bool}
theorem RbAt.below (h : RbAt w b p s c l st sk re fe ag u) (k : Below u.heap.size u v) : RbAt w b p s c l st sk re fe ag v := ⟨h.1.below k, h.2.trans (k.mono h.2.size)⟩
theorem RbAt.drew (h : RbAt w b p s c l st sk re fe ag u) : RbAt w b p s c l st sk re fe ag u.drew := ⟨h.1, h.2.drew⟩
end
theorem before_any (P S : Nat) (p s c l : Int) (st sk re fe ag : Bool) (n : Int) (b : Nat) (w : World) (hr : RuAt w b p s c l st sk re fe ag) (hn : n = (S : Int)) (hp : p = (P : Int)) (hP : 2 ≤ P) (hP2 : P ≤ 8) (hS : S ≤ 97) :
    Calls Try.prog 69 #[.pointer (some ⟨b, 0, none⟩), .int .i64 n] w fun e w' => e = .returned (.int .i64 (cut9 (bf P S))) ∧ Below w.heap.size w w' := by
  have HC : Hid (∀ (n k : Int) (u : World), n = ((S + 2 * P - 1 : Nat) : Int) → k = ((2 * P : Nat) : Int) → Calls Try.prog 85 #[.int .i64 n, .int .i64 k] u fun e w' => e = .returned (.int .i64 (cap (bf P S))) ∧ Below u.heap.size u w') := Lib.hid (by
    rintro n k u rfl rfl
    exact specCh_any (S + 2 * P - 1) (2 * P) u (by omega))
  have HM := Lib.hid (cut9_cap (bf P S))
  have HS := Lib.hid (show RbAt w b p s c l st sk re fe ag w from ⟨hr, Below.refl _ _⟩)
  have hw1 : IntKind.i64.wrap (n - 1) = n - 1 := IntWalk.i64_in _ ⟨by omega, by omega⟩
  have hw2 : IntKind.i64.wrap (2 * p) = 2 * p := IntWalk.i64_in _ ⟨by omega, by omega⟩
  have hw3 : IntKind.i64.wrap (n - 1 + 2 * p) = n - 1 + 2 * p := IntWalk.i64_in _ ⟨by omega, by omega⟩
  have HE := Lib.hid (show n - 1 + 2 * p = ((S + 2 * P - 1 : Nat) : Int) ∧ 2 * p = ((2 * P : Nat) : Int) from ⟨by omega, by omega⟩)
  generalize cap (bf P S) = X at *
  generalize cut9 (bf P S) = Y at *
  clear hr hn hp
  go_enter Try.func69, Try.ntmps69
  go_wp2_with fail
  go_region_held3 (fun u => (b < u.heap.size ∧ u.cell? ⟨b, 0, none⟩ = some (.int .i64 p) ∧ u.cell? ⟨b, 1, none⟩ = some (.int .i64 s) ∧ u.cell? ⟨b, 2, none⟩ = some (.bool st) ∧ u.cell? ⟨b, 3, none⟩ = some (.bool sk) ∧ u.cell? ⟨b, 4, none⟩ = some (.bool re) ∧ u.cell? ⟨b, 5, none⟩ = some (.bool fe) ∧ u.cell? ⟨b, 6, none⟩ = some (.bool ag) ∧ u.cell? ⟨b, 7, none⟩ = some (.int .i64 c) ∧ u.cell? ⟨b, 8, none⟩ = some (.int .i64 l)) ∧ Below w.heap.size w u) (first | exact HS.out | exact HS.out.drew)
    (first
    | (go_at_call 85; refine (HC.out _ _ _ HE.out.1 HE.out.2).mono ?_; rintro e w5 ⟨rfl, hb5⟩; have HS := Lib.hid (by first | exact HS.out.below hb5 | exact HS.out.drew.below hb5 : RbAt w b p s c l st sk re fe ag w5))
    | (go_at_call 88; refine (min_any _ _ _).mono ?_; rintro e w6 ⟨rfl, rfl⟩; rw [HM.out]))
  go_wp2_with fail
  go_ret
  exact ⟨rfl, HS.out.2⟩
set_option maxHeartbeats 2000000 in
theorem code13_any (p s c l : Int) (st sk re fe ag : Bool) (n : Int) (b : Nat) (w : World) (hr : RuAt w b p s c l st sk re fe ag) :
    Calls Try.prog 58 #[.pointer (some ⟨b, 0, none⟩), .int .i64 n] w fun e w' => e = .returned (.int .i64 (n13C (okR p s c l st ag) p n)) ∧ Below w.heap.size w w' := by
  have HR := Lib.hid hr
  obtain ⟨hb0, r0, r1, r2, r3, r4, r5, r6, r7, r8⟩ := hr
  have HO := Lib.hid (l02Ok_any p s c l st sk re fe ag b w r0 r1 r2 r3 r4 r5 r6 r7 r8)
  clear hb0 r0 r1 r2 r3 r4 r5 r6 r7 r8
  rcases hok : okR p s c l st ag with _ | _
  · rw [hok] at HO
    have Hc := Lib.hid (n13_no p n)
    clear hok
    go_enter Try.func58, Try.ntmps58
    go_wp2_with (go_at_call 71; refine HO.out.mono ?_; rintro e w1 ⟨rfl, rfl⟩)
    go_ret
    exact ⟨by rw [Hc.out]; rfl, Below.refl _ _⟩
  · rw [hok] at HO
    obtain ⟨hp1, hp2, -⟩ := okR_bd hok
    by_cases hin : 0 ≤ n ∧ n ≤ 96
    · obtain ⟨P, rfl⟩ : ∃ P : Nat, p = (P : Int) := ⟨p.toNat, by omega⟩
      obtain ⟨S, rfl⟩ : ∃ S : Nat, n = (S : Int) := ⟨n.toNat, by omega⟩
      have HF := Lib.hid (fun (n : Int) (h : n = ((S + 1 : Nat) : Int)) => before_any P (S + 1) (P : Int) s c l st sk re fe ag n b w HR.out h rfl (by omega) (by omega) (by omega))
      have HD1 := Lib.hid (show (decide ((0 : Int) ≤ (S : Int)) && decide ((S : Int) ≤ 96)) = true by simp [hin])
      have hS : S ≤ 96 := by omega
      clear hok hin HR
      by_cases hb : bf P (S + 1) ≤ 1000000000
      · have Hc := Lib.hid (n13_yes (P := P) (S := S) (by omega) hb)
        rw [cut9_lo hb] at HF
        generalize bf P (S + 1) = X at *
        have q1 : ¬ ((1000000000 : Int) < (X : Int)) := by omega
        clear hb
        go_enter Try.func58, Try.ntmps58
        go_wp2_with (first | (go_at_call 71; refine HO.out.mono ?_; rintro e w1 ⟨rfl, rfl⟩) | (go_at_call 65; with_reducible refine (in_b _ 0 96 true HD1.out _).mono ?_; rintro e w' ⟨rfl, rfl⟩) | (go_at_call 69; refine (HF.out _ (by omega)).mono ?_; rintro e w2 ⟨rfl, hb⟩; have HB := Lib.hid hb; clear hb))
        go_ret
        exact ⟨by rw [Hc.out]; rfl, HB.out⟩
      · have Hc := Lib.hid (n13_far (P := P) (S := S) (by omega) (by omega))
        rw [cut9_hi (by omega)] at HF
        clear hb
        go_enter Try.func58, Try.ntmps58
        go_wp2_with (first | (go_at_call 71; refine HO.out.mono ?_; rintro e w1 ⟨rfl, rfl⟩) | (go_at_call 65; with_reducible refine (in_b _ 0 96 true HD1.out _).mono ?_; rintro e w' ⟨rfl, rfl⟩) | (go_at_call 69; refine (HF.out _ (by omega)).mono ?_; rintro e w2 ⟨rfl, hb⟩; have HB := Lib.hid hb; clear hb))
        go_ret
        exact ⟨by rw [Hc.out]; rfl, HB.out⟩
    · have Hc := Lib.hid (n13_out (p := p) hin)
      have HD1 := Lib.hid (show (decide ((0 : Int) ≤ n) && decide (n ≤ 96)) = false by simp; omega)
      clear hok hin HR
      go_enter Try.func58, Try.ntmps58
      go_wp2_with (first | (go_at_call 71; refine HO.out.mono ?_; rintro e w1 ⟨rfl, rfl⟩) | (go_at_call 65; with_reducible refine (in_b _ 0 96 false HD1.out _).mono ?_; rintro e w' ⟨rfl, rfl⟩))
      go_ret
      exact ⟨by rw [Hc.out]; rfl, Below.refl _ _⟩
end Go.Proofs.Ythbgfkklejnhiaa
