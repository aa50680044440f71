/- The pits of a player, and the seeds in them: the program's and the reference's. No conditions. -/
import Derived.Test.YthbgfkklejnhiaaSum4
namespace Go.Proofs.Ythbgfkklejnhiaa
open Go.Joins Go.ChangeShapes Go.WideShapes Go.ChangeAt Go.RowKit Go.Deep
set_option linter.unusedVariables false

/-- The pits of a player. -/
def halfL (xs : List Int) (P : Nat) (player : Int) : List Int := (xs.drop (player.toNat * P)).take P
/-- Part of a row. -/
theorem RowN.part {w : World} {g o : Nat} {xs : List Int} (h : RowN w (some ⟨g, o, none⟩) xs) (hne : xs ≠ []) (k m : Nat) : RowN w (some ⟨g, o + k, none⟩) ((xs.drop k).take m) := by
  obtain ⟨hl, h | ⟨g', o', ha, hg, hx⟩⟩ := h
  · exact absurd h hne
  · cases ha
    refine ⟨by rw [List.length_take, List.length_drop]; omega, .inr ⟨g, o + k, rfl, hg, fun i x hi => ?_⟩⟩
    rw [List.getElem?_take] at hi
    split at hi
    · rw [List.getElem?_drop] at hi
      rw [Nat.add_assoc]
      exact hx _ _ hi
    · cases hi
def SideP (xs : List Int) (P : Nat) (player : Int) (w : World) (e : Ending) (w' : World) : Prop :=
  ∃ a c, e = .returned (.slice a P c) ∧ RowN w' a (halfL xs P player) ∧ P ≤ c ∧ Below w.heap.size w w'
theorem half_len {xs : List Int} {P : Nat} {player : Int} (hn : xs.length = 2 * P) (h : player = 0 ∨ player = 1) : (halfL xs P player).length = P := by
  unfold halfL
  rw [List.length_take, List.length_drop]
  rcases h with rfl | rfl <;> simp <;> omega

set_option maxHeartbeats 1000000 in
theorem side_any (P : Nat) (s c l : Int) (st sk re fe ag : Bool) (p1 p2 : Option Addr) (pn1 pc1 pn2 pc2 : Nat) (pp : Int) (xs : List Int) (player : Int) (w : World) (hn : xs.length = pn1) (h : RowN w p1 xs) (hP : 2 ≤ P) (hP2 : P ≤ 8) (h2 : pn1 = 2 * P) (hc : pn1 ≤ pc1) (hp : player = 0 ∨ player = 1) :
    Calls Try.prog 92 #[.agg #[.slice p1 pn1 pc1, .slice p2 pn2 pc2, .int .i64 pp], .agg #[.int .i64 P, .int .i64 s, .bool st, .bool sk, .bool re, .bool fe, .bool ag, .int .i64 c, .int .i64 l], .int .i64 player] w (SideP xs P player w) := by
  have hne : xs ≠ [] := by intro e; rw [e] at hn; simp at hn; omega
  obtain ⟨g, o, rfl, hg, hx⟩ := h.2.resolve_left hne
  have H := Lib.hid h
  have Hne := Lib.hid hne
  clear hx h hne
  have BB := Lib.hid (((Below.refl w.heap.size w).alloc (Nat.le_refl _) (.cells #[.slice (some ⟨g, o, none⟩) (2 * P) pc1, .slice p2 pn2 pc2, .int .i64 pp] 28)).alloc (by simp) (.cells #[.int .i64 P, .int .i64 s, .bool st, .bool sk, .bool re, .bool fe, .bool ag, .int .i64 c, .int .i64 l] 25))
  rcases hp with rfl | rfl
  · have hr : RowN w (some ⟨g, o, none⟩) (halfL xs P 0) := by
      have := H.out.part Hne.out 0 P
      rw [Nat.add_zero] at this
      unfold halfL
      simpa using this
    have HR := Lib.hid hr
    clear hr
    go_enter Try.func92, Try.ntmps92
    go_wp2
    go_ret
    exact ⟨_, _, rfl, HR.out.below BB.out, by omega, BB.out⟩
  · have hr : RowN w (some ⟨g, o + P, none⟩) (halfL xs P 1) := by
      have := H.out.part Hne.out P P
      unfold halfL
      simpa using this
    have HR := Lib.hid hr
    have he : 2 * P - P = P := by omega
    have HE := Lib.hid he
    clear hr he
    go_enter Try.func92, Try.ntmps92
    go_wp2
    go_ret
    refine ⟨some ⟨g, o + P, none⟩, pc1 - P, ?_, HR.out.below BB.out, by omega, BB.out⟩
    show Ending.returned (.slice (some ⟨g, o + P, none⟩) (2 * P - P) (pc1 - P)) = _
    rw [HE.out]

theorem half_tot {xs : List Int} {P : Nat} {player : Int} (hn : xs.length = 2 * P) (hp : player = 0 ∨ player = 1) (h : posB xs = true) : posB (halfL xs P player) = true ∧ tot (halfL xs P player) ≤ tot xs := by
  unfold halfL
  refine ⟨posB_take (posB_drop h _) _, ?_⟩
  have h1 := tot_take_le (posB_drop h (player.toNat * P)) P
  have h2 := posB_tot (posB_take h (player.toNat * P))
  have h3 : tot (xs.take (player.toNat * P) ++ xs.drop (player.toNat * P)) = tot xs := congrArg tot (List.take_append_drop _ _)
  rw [tot_app] at h3
  omega


/-- The seeds of a side, and the code. -/
def sdV (k j : Bool) (t : Int) : Int := if k && j then t else 0
def sdC (k j : Bool) : Int := if k then (if j then 0 else 2) else 1
def isPl (player : Int) : Bool := decide (0 ≤ player) && decide (player ≤ 1)
def SdP (k : Bool) (p : Int) (xs : List Int) (player : Int) (w : World) (e : Ending) (w' : World) : Prop :=
  e = .returned (.tuple #[.int .i64 (sdV k (isPl player) (tot (halfL xs p.toNat player))), .int .i64 (sdC k (isPl player))]) ∧ Below w.heap.size w w'
end Go.Proofs.Ythbgfkklejnhiaa
