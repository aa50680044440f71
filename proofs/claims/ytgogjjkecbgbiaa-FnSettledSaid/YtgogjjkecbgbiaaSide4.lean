/- The pits of a player, and the seeds in them: the program's and the reference's. No conditions. -/
import Derived.Test.YtgogjjkecbgbiaaSum4
namespace Go.Proofs.Ytgogjjkecbgbiaa
open Go.Joins Go.ChangeShapes Go.WideShapes Go.ChangeAt Go.RowKit Go.Deep
set_option linter.unusedVariables false

/-- The pits of a player. -/
def halfL (xs : List Int) (P : Nat) (player : Int) : List Int := (xs.drop (player.toNat * P)).take P
/-- Part of a row. -/
theorem RowN.part {w : World} {g o : Nat} {xs : List Int} (h : RowN w (some ⟨g, o, none⟩) xs) (hne : xs ≠ []) (k m : Nat) : RowN w (some ⟨g, o + k, none⟩) ((xs.drop k).take m) := by
  obtain ⟨hl, h | ⟨g', o', ha, hg, hx⟩⟩ := h
  · exact absurd h hne
  · cases ha
    refine ⟨by rw [List.length_take, List.length_drop]; omega, .inr ⟨g, o + k, rfl, hg, fun i x hi => ?_⟩⟩
    rw [List.getElem?_take] at hi
    split at hi
    · rw [List.getElem?_drop] at hi
      rw [Nat.add_assoc]
      exact hx _ _ hi
    · cases hi
def SideP (xs : List Int) (P : Nat) (player : Int) (w : World) (e : Ending) (w' : World) : Prop :=
  ∃ a c, e = .returned (.slice a P c) ∧ RowN w' a (halfL xs P player) ∧ P ≤ c ∧ Below w.heap.size w w'
theorem half_len {xs : List Int} {P : Nat} {player : Int} (hn : xs.length = 2 * P) (h : player = 0 ∨ player = 1) : (halfL xs P player).length = P := by
  unfold halfL
  rw [List.length_take, List.length_drop]
  rcases h with rfl | rfl <;> simp <;> omega

set_option maxHeartbeats 1000000 in
theorem side_any (P : Nat) (s c l : Int) (st sk re fe ag : Bool) (p1 p2 : Option Addr) (pn1 pc1 pn2 pc2 : Nat) (pp : Int) (xs : List Int) (player : Int) (w : World) (hn : xs.length = pn1) (h : RowN w p1 xs) (hP : 2 ≤ P) (hP2 : P ≤ 8) (h2 : pn1 = 2 * P) (hc : pn1 ≤ pc1) (hp : player = 0 ∨ player = 1) :
    Calls Try.prog 41 #[.agg #[.slice p1 pn1 pc1, .slice p2 pn2 pc2, .int .i64 pp], .agg #[.int .i64 P, .int .i64 s, .bool st, .bool sk, .bool re, .bool fe, .bool ag, .int .i64 c, .int .i64 l], .int .i64 player] w (SideP xs P player w) := by
  have hne : xs ≠ [] := by intro e; rw [e] at hn; simp at hn; omega
  obtain ⟨g, o, rfl, hg, hx⟩ := h.2.resolve_left hne
  have H := Lib.hid h
  have Hne := Lib.hid hne
  clear hx h hne
  have BB := Lib.hid (((Below.refl w.heap.size w).alloc (Nat.le_refl _) (.cells #[.slice (some ⟨g, o, none⟩) (2 * P) pc1, .slice p2 pn2 pc2, .int .i64 pp] 28)).alloc (by simp) (.cells #[.int .i64 P, .int .i64 s, .bool st, .bool sk, .bool re, .bool fe, .bool ag, .int .i64 c, .int .i64 l] 25))
  rcases hp with rfl | rfl
  · have hr : RowN w (some ⟨g, o, none⟩) (halfL xs P 0) := by
      have := H.out.part Hne.out 0 P
      rw [Nat.add_zero] at this
      unfold halfL
      simpa using this
    have HR := Lib.hid hr
    clear hr
    go_enter Try.func41, Try.ntmps41
    go_wp2
    go_ret
    exact ⟨_, _, rfl, HR.out.below BB.out, by omega, BB.out⟩
  · have hr : RowN w (some ⟨g, o + P, none⟩) (halfL xs P 1) := by
      have := H.out.part Hne.out P P
      unfold halfL
      simpa using this
    have HR := Lib.hid hr
    have he : 2 * P - P = P := by omega
    have HE := Lib.hid he
    clear hr he
    go_enter Try.func41, Try.ntmps41
    go_wp2
    go_ret
    refine ⟨some ⟨g, o + P, none⟩, pc1 - P, ?_, HR.out.below BB.out, by omega, BB.out⟩
    show Ending.returned (.slice (some ⟨g, o + P, none⟩) (2 * P - P) (pc1 - P)) = _
    rw [HE.out]

theorem half_tot {xs : List Int} {P : Nat} {player : Int} (hn : xs.length = 2 * P) (hp : player = 0 ∨ player = 1) (h : posB xs = true) : posB (halfL xs P player) = true ∧ tot (halfL xs P player) ≤ tot xs := by
  unfold halfL
  refine ⟨posB_take (posB_drop h _) _, ?_⟩
  have h1 := tot_take_le (posB_drop h (player.toNat * P)) P
  have h2 := posB_tot (posB_take h (player.toNat * P))
  have h3 : tot (xs.take (player.toNat * P) ++ xs.drop (player.toNat * P)) = tot xs := congrArg tot (List.take_append_drop _ _)
  rw [tot_app] at h3
  omega

set_option maxHeartbeats 2000000 in
/-- The reference's sum over the pits of a player. -/
theorem l04Side_any (P : Nat) (b : Nat) (a : Option Addr) (cc n : Nat) (xs : List Int) (player : Int) (w : World) (c0 : w.cell? ⟨b, 0, none⟩ = some (.int .i64 P)) (hn : xs.length = n) (h : RowN w a xs) (hP : 2 ≤ P) (hP2 : P ≤ 8) (h2 : n = 2 * P) (hp : player = 0 ∨ player = 1) (hpos : posB xs = true) (ht : tot xs ≤ 96) :
    Calls Try.prog 45 #[.pointer (some ⟨b, 0, none⟩), .slice a n cc, .int .i64 player] w fun e w' => e = .returned (.int .i64 (tot (halfL xs P player))) ∧ w = w' := by
  have hne : xs ≠ [] := by intro e; rw [e] at hn; simp at hn; omega
  obtain ⟨g, o, rfl, hg, hx⟩ := h.2.resolve_left hne
  have hh := half_tot (hn.trans h2) hp hpos
  have HX := Lib.hid hx
  have HH := Lib.hid hh.1
  have HT : Hid (tot (halfL xs P player) ≤ 96) := Lib.hid (by omega)
  have HL := Lib.hid (half_len (hn.trans h2) hp)
  have Hn := Lib.hid hn
  have hlen : ∀ k, k < P → ∃ x, (halfL xs P player)[k]? = some x ∧ xs[player.toNat * P + k]? = some x := fun k hk => by
    have h1 : k < (halfL xs P player).length := by rw [half_len (hn.trans h2) hp]; exact hk
    refine ⟨_, List.getElem?_eq_getElem h1, ?_⟩
    have h3 := List.getElem?_eq_getElem h1
    unfold halfL at h3 ⊢
    rw [List.getElem?_take, if_pos hk, List.getElem?_drop] at h3
    exact h3
  have HLen := Lib.hid hlen
  generalize hhl : halfL xs P player = hs at *
  clear hhl hlen hh hx h hne hn hpos ht
  rcases (show player = 0 ∨ player ≠ 0 from Decidable.em _) with rfl | hno
  · go_enter Try.func45, Try.ntmps45
    go_wp2
    go_loop [7, 8] (fun s i => ∃ (k : Nat) (t : Int), k ≤ P ∧ i = .int .i64 ((k : Nat) : Int) ∧ s = .int .i64 t ∧ t = tot (hs.take k)) (fun _ i => 2 * P - (intOf i).toNat)
    case atStart => exact ⟨0, 0, Nat.zero_le _, by first | rfl | go_num, rfl, rfl⟩
    case round =>
      obtain ⟨k, t, hk, rfl, rfl, ht⟩ := hrel
      have hb := tot_take_le HH.out k
      rw [← ht] at hb
      obtain ⟨b0, b1⟩ := hb
      have b2 := HT.out
      have b3 : t ≤ 96 := by omega
      have Ht := Lib.hid ht
      clear ht b1 b2
      by_cases hlt : k < P
      · obtain ⟨x, hx, hx2⟩ := HLen.out k hlt
        simp at hx2
        have y1 := HX.out _ _ hx2
        have x0 := posB_mem HH.out hx
        have x96 : x ≤ 96 := by
          have := posB_le HH.out x (List.mem_of_getElem? hx)
          have := HT.out
          omega
        have Hx := Lib.hid hx
        have q0 : (0 : Int) ≤ ((k : Nat) : Int) := by omega
        have q1 : ((k : Nat) : Int) < (n : Int) := by omega
        have q2 : ((k : Nat) : Int) < 0 + (P : Int) := by omega
        clear hx hx2
        go_wp2
        go_round
        case rel => exact ⟨k + 1, t + x, by omega, by go_num, by go_num, by rw [take_next Hx.out, tot_snoc, Ht.out]⟩
        case measure => simp [intOf]; omega
      · obtain rfl : k = P := by omega
        have e1 : hs.take k = hs := List.take_of_length_le (by rw [HL.out]; exact Nat.le_refl _)
        have e2 : t = tot hs := by rw [Ht.out, e1]
        have E2 := Lib.hid e2
        clear e1 e2
        go_wp2
        go_ret
        exact ⟨by rw [E2.out]; rfl, rfl⟩
  rcases (show player = 1 ∨ player ≠ 1 from Decidable.em _) with rfl | hno
  · go_enter Try.func45, Try.ntmps45
    go_wp2
    go_loop [7, 8] (fun s i => ∃ (k : Nat) (t : Int), k ≤ P ∧ i = .int .i64 ((P + k : Nat) : Int) ∧ s = .int .i64 t ∧ t = tot (hs.take k)) (fun _ i => 2 * P - (intOf i).toNat)
    case atStart => exact ⟨0, 0, Nat.zero_le _, by first | rfl | go_num, rfl, rfl⟩
    case round =>
      obtain ⟨k, t, hk, rfl, rfl, ht⟩ := hrel
      have hb := tot_take_le HH.out k
      rw [← ht] at hb
      obtain ⟨b0, b1⟩ := hb
      have b2 := HT.out
      have b3 : t ≤ 96 := by omega
      have Ht := Lib.hid ht
      clear ht b1 b2
      by_cases hlt : k < P
      · obtain ⟨x, hx, hx2⟩ := HLen.out k hlt
        simp at hx2
        have y1 := HX.out _ _ hx2
        have x0 := posB_mem HH.out hx
        have x96 : x ≤ 96 := by
          have := posB_le HH.out x (List.mem_of_getElem? hx)
          have := HT.out
          omega
        have Hx := Lib.hid hx
        have q0 : (0 : Int) ≤ ((P + k : Nat) : Int) := by omega
        have q1 : ((P + k : Nat) : Int) < (n : Int) := by omega
        have q2 : ((P + k : Nat) : Int) < ((P : Nat) : Int) + (P : Int) := by omega
        clear hx hx2
        go_wp2
        go_round
        case rel => exact ⟨k + 1, t + x, by omega, by go_num, by go_num, by rw [take_next Hx.out, tot_snoc, Ht.out]⟩
        case measure => simp [intOf]; omega
      · obtain rfl : k = P := by omega
        have e1 : hs.take k = hs := List.take_of_length_le (by rw [HL.out]; exact Nat.le_refl _)
        have e2 : t = tot hs := by rw [Ht.out, e1]
        have E2 := Lib.hid e2
        clear e1 e2
        go_wp2
        go_ret
        exact ⟨by rw [E2.out]; rfl, rfl⟩
  · omega

/-- The seeds of a side, and the code. -/
def sdV (k j : Bool) (t : Int) : Int := if k && j then t else 0
def sdC (k j : Bool) : Int := if k then (if j then 0 else 2) else 1
def isPl (player : Int) : Bool := decide (0 ≤ player) && decide (player ≤ 1)
def SdP (k : Bool) (p : Int) (xs : List Int) (player : Int) (w : World) (e : Ending) (w' : World) : Prop :=
  e = .returned (.tuple #[.int .i64 (sdV k (isPl player) (tot (halfL xs p.toNat player))), .int .i64 (sdC k (isPl player))]) ∧ Below w.heap.size w w'
end Go.Proofs.Ytgogjjkecbgbiaa
