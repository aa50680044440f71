/- The pits of a player, and the seeds in them: the program's and the reference's. No conditions. -/
import Derived.Test.YtkpmocjghpeppaaSum4
namespace Go.Proofs.Ytkpmocjghpeppaa
open Go.Joins Go.ChangeShapes Go.WideShapes Go.ChangeAt Go.RowKit Go.Deep
set_option linter.unusedVariables false

/-- The pits of a player. -/
def halfL (xs : List Int) (P : Nat) (player : Int) : List Int := (xs.drop (player.toNat * P)).take P
/-- Part of a row. -/
theorem RowN.part {w : World} {g o : Nat} {xs : List Int} (h : RowN w (some ⟨g, o, none⟩) xs) (hne : xs ≠ []) (k m : Nat) : RowN w (some ⟨g, o + k, none⟩) ((xs.drop k).take m) := by
  obtain ⟨hl, h | ⟨g', o', ha, hg, hx⟩⟩ := h
  · exact absurd h hne
  · cases ha
    refine ⟨by rw [List.length_take, List.length_drop]; omega, .inr ⟨g, o + k, rfl, hg, fun i x hi => ?_⟩⟩
    rw [List.getElem?_take] at hi
    split at hi
    · rw [List.getElem?_drop] at hi
      rw [Nat.add_assoc]
      exact hx _ _ hi
    · cases hi
def SideP (xs : List Int) (P : Nat) (player : Int) (w : World) (e : Ending) (w' : World) : Prop :=
  ∃ a c, e = .returned (.slice a P c) ∧ RowN w' a (halfL xs P player) ∧ P ≤ c ∧ Below w.heap.size w w'
theorem half_len {xs : List Int} {P : Nat} {player : Int} (hn : xs.length = 2 * P) (h : player = 0 ∨ player = 1) : (halfL xs P player).length = P := by
  unfold halfL
  rw [List.length_take, List.length_drop]
  rcases h with rfl | rfl <;> simp <;> omega

set_option maxHeartbeats 1000000 in
theorem side_any (P : Nat) (s c l : Int) (st sk re fe ag : Bool) (p1 p2 : Option Addr) (pn1 pc1 pn2 pc2 : Nat) (pp : Int) (xs : List Int) (player : Int) (w : World) (hn : xs.length = pn1) (h : RowN w p1 xs) (hP : 2 ≤ P) (hP2 : P ≤ 8) (h2 : pn1 = 2 * P) (hc : pn1 ≤ pc1) (hp : player = 0 ∨ player = 1) :
    Calls Try.prog 79 #[.agg #[.slice p1 pn1 pc1, .slice p2 pn2 pc2, .int .i64 pp], .agg #[.int .i64 P, .int .i64 s, .bool st, .bool sk, .bool re, .bool fe, .bool ag, .int .i64 c, .int .i64 l], .int .i64 player] w (SideP xs P player w) := by
  have hne : xs ≠ [] := by intro e; rw [e] at hn; simp at hn; omega
  obtain ⟨g, o, rfl, hg, hx⟩ := h.2.resolve_left hne
  have H := Lib.hid h
  have Hne := Lib.hid hne
  clear hx h hne
  have BB := Lib.hid (((Below.refl w.heap.size w).alloc (Nat.le_refl _) (.cells #[.slice (some ⟨g, o, none⟩) (2 * P) pc1, .slice p2 pn2 pc2, .int .i64 pp] 39)).alloc (by simp) (.cells #[.int .i64 P, .int .i64 s, .bool st, .bool sk, .bool re, .bool fe, .bool ag, .int .i64 c, .int .i64 l] 25))
  rcases hp with rfl | rfl
  · have hr : RowN w (some ⟨g, o, none⟩) (halfL xs P 0) := by
      have := H.out.part Hne.out 0 P
      rw [Nat.add_zero] at this
      unfold halfL
      simpa using this
    have HR := Lib.hid hr
    clear hr
    go_enter Try.func79, Try.ntmps79
    go_wp2
    go_ret
    exact ⟨_, _, rfl, HR.out.below BB.out, by omega, BB.out⟩
  · have hr : RowN w (some ⟨g, o + P, none⟩) (halfL xs P 1) := by
      have := H.out.part Hne.out P P
      unfold halfL
      simpa using this
    have HR := Lib.hid hr
    have he : 2 * P - P = P := by omega
    have HE := Lib.hid he
    clear hr he
    go_enter Try.func79, Try.ntmps79
    go_wp2
    go_ret
    refine ⟨some ⟨g, o + P, none⟩, pc1 - P, ?_, HR.out.below BB.out, by omega, BB.out⟩
    show Ending.returned (.slice (some ⟨g, o + P, none⟩) (2 * P - P) (pc1 - P)) = _
    rw [HE.out]

theorem half_tot {xs : List Int} {P : Nat} {player : Int} (hn : xs.length = 2 * P) (hp : player = 0 ∨ player = 1) (h : posB xs = true) : posB (halfL xs P player) = true ∧ tot (halfL xs P player) ≤ tot xs := by
  unfold halfL
  refine ⟨posB_take (posB_drop h _) _, ?_⟩
  have h1 := tot_take_le (posB_drop h (player.toNat * P)) P
  have h2 := posB_tot (posB_take h (player.toNat * P))
  have h3 : tot (xs.take (player.toNat * P) ++ xs.drop (player.toNat * P)) = tot xs := congrArg tot (List.take_append_drop _ _)
  rw [tot_app] at h3
  omega

set_option maxHeartbeats 2000000 in
/-- The reference's sum over the pits of a player. -/
theorem l04Side_any (P : Nat) (b : Nat) (a : Option Addr) (cc n : Nat) (xs : List Int) (player : Int) (w : World) (c0 : w.cell? ⟨b, 0, none⟩ = some (.int .i64 P)) (hn : xs.length = n) (h : RowN w a xs) (hP : 2 ≤ P) (hP2 : P ≤ 8) (h2 : n = 2 * P) (hp : player = 0 ∨ player = 1) (hpos : posB xs = true) (ht : tot xs ≤ 96) :
    Calls Try.prog 83 #[.pointer (some ⟨b, 0, none⟩), .slice a n cc, .int .i64 player] w fun e w' => e = .returned (.int .i64 (tot (halfL xs P player))) ∧ w = w' := by
  have hne : xs ≠ [] := by intro e; rw [e] at hn; simp at hn; omega
  obtain ⟨g, o, rfl, hg, hx⟩ := h.2.resolve_left hne
  have hh := half_tot (hn.trans h2) hp hpos
  have HX := Lib.hid hx
  have HH := Lib.hid hh.1
  have HT : Hid (tot (halfL xs P player) ≤ 96) := Lib.hid (by omega)
  have HL := Lib.hid (half_len (hn.trans h2) hp)
  have Hn := Lib.hid hn
  have hlen : ∀ k, k < P → ∃ x, (halfL xs P player)[k]? = some x ∧ xs[player.toNat * P + k]? = some x := fun k hk => by
    have h1 : k < (halfL xs P player).length := by rw [half_len (hn.trans h2) hp]; exact hk
    refine ⟨_, List.getElem?_eq_getElem h1, ?_⟩
    have h3 := List.getElem?_eq_getElem h1
    unfold halfL at h3 ⊢
    rw [List.getElem?_take, if_pos hk, List.getElem?_drop] at h3
    exact h3
  have HLen := Lib.hid hlen
  generalize hhl : halfL xs P player = hs at *
  clear hhl hlen hh hx h hne hn hpos ht
  rcases (show player = 0 ∨ player ≠ 0 from Decidable.em _) with rfl | hno
  · go_enter Try.func83, Try.ntmps83
    go_wp2
    go_loop [7, 8] (fun s i => ∃ (k : Nat) (t : Int), k ≤ P ∧ i = .int .i64 ((k : Nat) : Int) ∧ s = .int .i64 t ∧ t = tot (hs.take k)) (fun _ i => 2 * P - (intOf i).toNat)
    case atStart => exact ⟨0, 0, Nat.zero_le _, by first | rfl | go_num, rfl, rfl⟩
    case round =>
      obtain ⟨k, t, hk, rfl, rfl, ht⟩ := hrel
      have hb := tot_take_le HH.out k
      rw [← ht] at hb
      obtain ⟨b0, b1⟩ := hb
      have b2 := HT.out
      have b3 : t ≤ 96 := by omega
      have Ht := Lib.hid ht
      clear ht b1 b2
      by_cases hlt : k < P
      · obtain ⟨x, hx, hx2⟩ := HLen.out k hlt
        simp at hx2
        have y1 := HX.out _ _ hx2
        have x0 := posB_mem HH.out hx
        have x96 : x ≤ 96 := by
          have := posB_le HH.out x (List.mem_of_getElem? hx)
          have := HT.out
          omega
        have Hx := Lib.hid hx
        have q0 : (0 : Int) ≤ ((k : Nat) : Int) := by omega
        have q1 : ((k : Nat) : Int) < (n : Int) := by omega
        have q2 : ((k : Nat) : Int) < 0 + (P : Int) := by omega
        clear hx hx2
        go_wp2
        go_round
        case rel => exact ⟨k + 1, t + x, by omega, by go_num, by go_num, by rw [take_next Hx.out, tot_snoc, Ht.out]⟩
        case measure => simp [intOf]; omega
      · obtain rfl : k = P := by omega
        have e1 : hs.take k = hs := List.take_of_length_le (by rw [HL.out]; exact Nat.le_refl _)
        have e2 : t = tot hs := by rw [Ht.out, e1]
        have E2 := Lib.hid e2
        clear e1 e2
        go_wp2
        go_ret
        exact ⟨by rw [E2.out]; rfl, rfl⟩
  rcases (show player = 1 ∨ player ≠ 1 from Decidable.em _) with rfl | hno
  · go_enter Try.func83, Try.ntmps83
    go_wp2
    go_loop [7, 8] (fun s i => ∃ (k : Nat) (t : Int), k ≤ P ∧ i = .int .i64 ((P + k : Nat) : Int) ∧ s = .int .i64 t ∧ t = tot (hs.take k)) (fun _ i => 2 * P - (intOf i).toNat)
    case atStart => exact ⟨0, 0, Nat.zero_le _, by first | rfl | go_num, rfl, rfl⟩
    case round =>
      obtain ⟨k, t, hk, rfl, rfl, ht⟩ := hrel
      have hb := tot_take_le HH.out k
      rw [← ht] at hb
      obtain ⟨b0, b1⟩ := hb
      have b2 := HT.out
      have b3 : t ≤ 96 := by omega
      have Ht := Lib.hid ht
      clear ht b1 b2
      by_cases hlt : k < P
      · obtain ⟨x, hx, hx2⟩ := HLen.out k hlt
        simp at hx2
        have y1 := HX.out _ _ hx2
        have x0 := posB_mem HH.out hx
        have x96 : x ≤ 96 := by
          have := posB_le HH.out x (List.mem_of_getElem? hx)
          have := HT.out
          omega
        have Hx := Lib.hid hx
        have q0 : (0 : Int) ≤ ((P + k : Nat) : Int) := by omega
        have q1 : ((P + k : Nat) : Int) < (n : Int) := by omega
        have q2 : ((P + k : Nat) : Int) < ((P : Nat) : Int) + (P : Int) := by omega
        clear hx hx2
        go_wp2
        go_round
        case rel => exact ⟨k + 1, t + x, by omega, by go_num, by go_num, by rw [take_next Hx.out, tot_snoc, Ht.out]⟩
        case measure => simp [intOf]; omega
      · obtain rfl : k = P := by omega
        have e1 : hs.take k = hs := List.take_of_length_le (by rw [HL.out]; exact Nat.le_refl _)
        have e2 : t = tot hs := by rw [Ht.out, e1]
        have E2 := Lib.hid e2
        clear e1 e2
        go_wp2
        go_ret
        exact ⟨by rw [E2.out]; rfl, rfl⟩
  · omega

/-- The seeds of a side, and the code. -/
def sdV (k j : Bool) (t : Int) : Int := if k && j then t else 0
def sdC (k j : Bool) : Int := if k then (if j then 0 else 2) else 1
def isPl (player : Int) : Bool := decide (0 ≤ player) && decide (player ≤ 1)
def SdP (k : Bool) (p : Int) (xs : List Int) (player : Int) (w : World) (e : Ending) (w' : World) : Prop :=
  e = .returned (.tuple #[.int .i64 (sdV k (isPl player) (tot (halfL xs p.toNat player))), .int .i64 (sdC k (isPl player))]) ∧ Below w.heap.size w w'
set_option maxHeartbeats 1000000 in
theorem specSide_any (p s c l : Int) (st sk re fe ag : Bool) (p1 p2 : Option Addr) (pn1 pc1 pn2 pc2 : Nat) (pp : Int) (xs ys : List Int) (player : Int) (w : World) (h : PosR w p1 p2 pn1 pn2 xs ys) (hc : pn1 ≤ pc1) (k : Bool) (hk : okP (okR p s c l st ag) p pn1 pn2 pp xs ys = k) :
    Calls Try.prog 50 #[.agg #[.int .i64 p, .int .i64 s, .bool st, .bool sk, .bool re, .bool fe, .bool ag, .int .i64 c, .int .i64 l], .agg #[.slice p1 pn1 pc1, .slice p2 pn2 pc2, .int .i64 pp], .int .i64 player] w (SdP k p xs player w) := by
  have H := Lib.hid h
  have HS := Lib.hid (rp_new p s c l st sk re fe ag p1 p2 pn1 pc1 pn2 pc2 pp w 25 39)
  have Hk := Lib.hid hk
  clear h hk
  cases k
  · go_enter Try.func50, Try.ntmps50
    go_wp2_with fail
    refine (l04Ok_at _ _ _ _ _ _ _ _ _ p1 p2 pn1 pc1 pn2 pc2 pp xs ys _ _ _ HS.out.1 HS.out.2.1 (H.out.below HS.out.2.2) _ Hk.out).mono ?_
    rintro e u ⟨rfl, m, rfl⟩
    have HSu := Lib.hid (HS.out.drewN m)
    go_wp2_with fail
    go_ret2
    exact ⟨rfl, HSu.out.2.2⟩
  · rcases hj : isPl player with _ | _
    · have Hj : Hid ((decide (0 ≤ player) && decide (player ≤ 1)) = false) := Lib.hid hj
      have Hj' := Lib.hid hj
      clear hj
      go_enter Try.func50, Try.ntmps50
      go_wp2_with fail
      refine (l04Ok_at _ _ _ _ _ _ _ _ _ p1 p2 pn1 pc1 pn2 pc2 pp xs ys _ _ _ HS.out.1 HS.out.2.1 (H.out.below HS.out.2.2) _ Hk.out).mono ?_
      rintro e u ⟨rfl, m, rfl⟩
      have HSu := Lib.hid (HS.out.drewN m)
      go_wp2_with fail
      refine (in_b player 0 1 _ Hj.out _).mono ?_
      rintro e u2 ⟨rfl, rfl⟩
      go_wp2_with fail
      go_ret2
      refine ⟨?_, HSu.out.2.2⟩
      rw [Hj'.out]
      rfl
    · have hpl : player = 0 ∨ player = 1 := by
        unfold isPl at hj
        simp only [Bool.and_eq_true, decide_eq_true_eq] at hj
        omega
      have Hj : Hid ((decide (0 ≤ player) && decide (player ≤ 1)) = true) := Lib.hid hj
      have Hj' := Lib.hid hj
      obtain ⟨hok, hn1, hn2, -, hs⟩ := okP_parts Hk.out
      obtain ⟨hp1, hp2, -⟩ := okR_bd hok
      obtain ⟨P, rfl⟩ : ∃ P : Nat, p = (P : Int) := ⟨p.toNat, by omega⟩
      obtain ⟨q1, q2, q3⟩ := seedB_parts hs
      have q4 := posB_tot q2
      have Q1 := Lib.hid q1
      have Q3 : Hid (tot xs ≤ 96) := Lib.hid (by omega)
      have HP : Hid (2 ≤ P ∧ P ≤ 8) := Lib.hid (by omega)
      have HN : Hid (pn1 = 2 * P) := Lib.hid (by omega)
      have HC := Lib.hid hc
      have HPl := Lib.hid hpl
      have HE : Hid (((P : Nat) : Int).toNat = P) := Lib.hid (by omega)
      clear hj hok hn1 hn2 hs hp1 hp2 q1 q2 q3 q4 hc hpl
      go_enter Try.func50, Try.ntmps50
      go_wp2_with fail
      refine (l04Ok_at _ _ _ _ _ _ _ _ _ p1 p2 pn1 pc1 pn2 pc2 pp xs ys _ _ _ HS.out.1 HS.out.2.1 (H.out.below HS.out.2.2) _ Hk.out).mono ?_
      rintro e u ⟨rfl, m, rfl⟩
      have HSu := Lib.hid (HS.out.drewN m)
      obtain ⟨⟨_, r0, r1, r2, r3, r4, r5, r6, r7, r8⟩, ⟨_, g0, g1, g2⟩, hb⟩ := HSu.out
      have HB := Lib.hid hb
      have HR := Lib.hid (H.out.below hb)
      clear hb
      go_wp2_with fail
      refine (in_b player 0 1 _ Hj.out _).mono ?_
      rintro e u2 ⟨rfl, rfl⟩
      go_wp2_with fail
      first
      | (refine (l04Side_any P _ _ _ _ xs player _ r0 HR.out.l1 HR.out.r1 HP.out.1 HP.out.2 HN.out HPl.out Q1.out Q3.out).mono ?_
         rintro e u3 ⟨rfl, rfl⟩
         go_wp2_with fail
         go_ret2
         refine ⟨?_, HB.out⟩
         rw [HE.out, Hj'.out]
         rfl)
      | ((with_reducible refine (side_any P s c l st sk re fe ag _ _ _ _ _ _ _ xs player _ HR.out.l1 HR.out.r1 HP.out.1 HP.out.2 HN.out HC.out HPl.out).mono ?_)
         rintro e u3 ⟨a3, c3, rfl, r3', hc3, b3⟩
         have HL := Lib.hid (half_len (xs := xs) (P := P) (HR.out.l1.trans HN.out) HPl.out)
         have HH := Lib.hid (half_tot (xs := xs) (P := P) (HR.out.l1.trans HN.out) HPl.out Q1.out)
         have HB3 := Lib.hid (HB.out.trans (b3.mono HB.out.size))
         have R3 := Lib.hid r3'
         clear b3 r3'
         go_wp2_with fail
         refine (sumOf_any a3 c3 P _ _ HL.out R3.out HH.out.1 (by have := HH.out.2; have := Q3.out; omega)).mono ?_
         rintro e u4 ⟨rfl, rfl⟩
         go_wp2_with fail
         go_ret2
         refine ⟨?_, HB3.out⟩
         rw [HE.out, Hj'.out]
         rfl)
set_option maxHeartbeats 1000000 in
theorem implSide_any (p s c l : Int) (st sk re fe ag : Bool) (p1 p2 : Option Addr) (pn1 pc1 pn2 pc2 : Nat) (pp : Int) (xs ys : List Int) (player : Int) (w : World) (h : PosR w p1 p2 pn1 pn2 xs ys) (hc : pn1 ≤ pc1) (k : Bool) (hk : okP (okR p s c l st ag) p pn1 pn2 pp xs ys = k) :
    Calls Try.prog 51 #[.agg #[.int .i64 p, .int .i64 s, .bool st, .bool sk, .bool re, .bool fe, .bool ag, .int .i64 c, .int .i64 l], .agg #[.slice p1 pn1 pc1, .slice p2 pn2 pc2, .int .i64 pp], .int .i64 player] w (SdP k p xs player w) := by
  have H := Lib.hid h
  have HS := Lib.hid (rp_new p s c l st sk re fe ag p1 p2 pn1 pc1 pn2 pc2 pp w 25 39)
  have Hk := Lib.hid hk
  clear h hk
  cases k
  · go_enter Try.func51, Try.ntmps51
    go_wp2_with fail
    refine (implValid_b _ _ _ _ _ _ _ _ _ p1 p2 pn1 pc1 pn2 pc2 pp xs ys _ (H.out.below HS.out.2.2) _ Hk.out).mono ?_
    rintro e u ⟨rfl, hb⟩
    have HSu := Lib.hid (HS.out.below hb);clear hb
    go_wp2_with fail
    go_ret2
    exact ⟨rfl, HSu.out.2.2⟩
  · rcases hj : isPl player with _ | _
    · have Hj : Hid ((decide (0 ≤ player) && decide (player ≤ 1)) = false) := Lib.hid hj
      have Hj' := Lib.hid hj
      clear hj
      go_enter Try.func51, Try.ntmps51
      go_wp2_with fail
      refine (implValid_b _ _ _ _ _ _ _ _ _ p1 p2 pn1 pc1 pn2 pc2 pp xs ys _ (H.out.below HS.out.2.2) _ Hk.out).mono ?_
      rintro e u ⟨rfl, hb⟩
      have HSu := Lib.hid (HS.out.below hb);clear hb
      go_wp2_with fail
      refine (isPlayer_b player _ Hj.out _).mono ?_
      rintro e u2 ⟨rfl, rfl⟩
      go_wp2_with fail
      go_ret2
      refine ⟨?_, HSu.out.2.2⟩
      rw [Hj'.out]
      rfl
    · have hpl : player = 0 ∨ player = 1 := by
        unfold isPl at hj
        simp only [Bool.and_eq_true, decide_eq_true_eq] at hj
        omega
      have Hj : Hid ((decide (0 ≤ player) && decide (player ≤ 1)) = true) := Lib.hid hj
      have Hj' := Lib.hid hj
      obtain ⟨hok, hn1, hn2, -, hs⟩ := okP_parts Hk.out
      obtain ⟨hp1, hp2, -⟩ := okR_bd hok
      obtain ⟨P, rfl⟩ : ∃ P : Nat, p = (P : Int) := ⟨p.toNat, by omega⟩
      obtain ⟨q1, q2, q3⟩ := seedB_parts hs
      have q4 := posB_tot q2
      have Q1 := Lib.hid q1
      have Q3 : Hid (tot xs ≤ 96) := Lib.hid (by omega)
      have HP : Hid (2 ≤ P ∧ P ≤ 8) := Lib.hid (by omega)
      have HN : Hid (pn1 = 2 * P) := Lib.hid (by omega)
      have HC := Lib.hid hc
      have HPl := Lib.hid hpl
      have HE : Hid (((P : Nat) : Int).toNat = P) := Lib.hid (by omega)
      clear hj hok hn1 hn2 hs hp1 hp2 q1 q2 q3 q4 hc hpl
      go_enter Try.func51, Try.ntmps51
      go_wp2_with fail
      refine (implValid_b _ _ _ _ _ _ _ _ _ p1 p2 pn1 pc1 pn2 pc2 pp xs ys _ (H.out.below HS.out.2.2) _ Hk.out).mono ?_
      rintro e u ⟨rfl, hb⟩
      have HSu := Lib.hid (HS.out.below hb);clear hb
      obtain ⟨⟨_, r0, r1, r2, r3, r4, r5, r6, r7, r8⟩, ⟨_, g0, g1, g2⟩, hb⟩ := HSu.out
      have HB := Lib.hid hb
      have HR := Lib.hid (H.out.below hb)
      clear hb
      go_wp2_with fail
      refine (isPlayer_b player _ Hj.out _).mono ?_
      rintro e u2 ⟨rfl, rfl⟩
      go_wp2_with fail
      first
      | (refine (l04Side_any P _ _ _ _ xs player _ r0 HR.out.l1 HR.out.r1 HP.out.1 HP.out.2 HN.out HPl.out Q1.out Q3.out).mono ?_
         rintro e u3 ⟨rfl, rfl⟩
         go_wp2_with fail
         go_ret2
         refine ⟨?_, HB.out⟩
         rw [HE.out, Hj'.out]
         rfl)
      | ((with_reducible refine (side_any P s c l st sk re fe ag _ _ _ _ _ _ _ xs player _ HR.out.l1 HR.out.r1 HP.out.1 HP.out.2 HN.out HC.out HPl.out).mono ?_)
         rintro e u3 ⟨a3, c3, rfl, r3', hc3, b3⟩
         have HL := Lib.hid (half_len (xs := xs) (P := P) (HR.out.l1.trans HN.out) HPl.out)
         have HH := Lib.hid (half_tot (xs := xs) (P := P) (HR.out.l1.trans HN.out) HPl.out Q1.out)
         have HB3 := Lib.hid (HB.out.trans (b3.mono HB.out.size))
         have R3 := Lib.hid r3'
         clear b3 r3'
         go_wp2_with fail
         refine (sumOf_any a3 c3 P _ _ HL.out R3.out HH.out.1 (by have := HH.out.2; have := Q3.out; omega)).mono ?_
         rintro e u4 ⟨rfl, rfl⟩
         go_wp2_with fail
         go_ret2
         refine ⟨?_, HB3.out⟩
         rw [HE.out, Hj'.out]
         rfl)
end Go.Proofs.Ytkpmocjghpeppaa
