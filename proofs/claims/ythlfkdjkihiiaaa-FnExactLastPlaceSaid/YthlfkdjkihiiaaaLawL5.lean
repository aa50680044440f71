/- The law on LastPlace. No conditions. -/
import Derived.Test.YthlfkdjkihiiaaaLast5
import Derived.Test.YthlfkdjkihiiaaaLastS5
namespace Go.Proofs.Ythlfkdjkihiiaaa
open Go.Joins Go.ChangeShapes Go.WideShapes Go.ChangeAt Go.RowKit Go.Deep
set_option linter.unusedVariables false

/-- The code of a lap's last place, and the place. -/
def lsC (ok : Bool) (p player move seeds : Int) : Int := if ok = true then (if ((0 ≤ player ∧ player ≤ 1) ∧ (0 ≤ move ∧ move < p)) ∧ (1 ≤ seeds ∧ seeds ≤ 96) then 0 else 2) else 1
def lsV (ok : Bool) (p player move seeds : Int) (st sk : Bool) : Int := if lsC ok p player move seeds = 0 then plc p player st sk (player * p + move) (seeds.toNat - 1) else 0
theorem ls_cases (ok : Bool) (p player move seeds : Int) (st sk : Bool) :
    (ok = false ∧ lsC ok p player move seeds = 1 ∧ lsV ok p player move seeds st sk = 0) ∨
    (ok = true ∧ ¬ (0 ≤ player ∧ player ≤ 1) ∧ lsC ok p player move seeds = 2 ∧ lsV ok p player move seeds st sk = 0) ∨
    (ok = true ∧ (0 ≤ player ∧ player ≤ 1) ∧ ¬ (0 ≤ move ∧ move < p) ∧ lsC ok p player move seeds = 2 ∧ lsV ok p player move seeds st sk = 0) ∨
    (ok = true ∧ (0 ≤ player ∧ player ≤ 1) ∧ (0 ≤ move ∧ move < p) ∧ ¬ (1 ≤ seeds ∧ seeds ≤ 96) ∧ lsC ok p player move seeds = 2 ∧ lsV ok p player move seeds st sk = 0) ∨
    (ok = true ∧ (player = 0 ∨ player = 1) ∧ (0 ≤ move ∧ move < p) ∧ (1 ≤ seeds ∧ seeds ≤ 96) ∧ lsC ok p player move seeds = 0 ∧ lsV ok p player move seeds st sk = plc p player st sk (player * p + move) (seeds.toNat - 1)) := by
  cases ok
  · exact .inl ⟨rfl, by simp [lsC], by simp [lsV, lsC]⟩
  · by_cases h1 : 0 ≤ player ∧ player ≤ 1
    · by_cases h2 : 0 ≤ move ∧ move < p
      · by_cases h3 : 1 ≤ seeds ∧ seeds ≤ 96
        · exact .inr (.inr (.inr (.inr ⟨rfl, by omega, h2, h3, by simp [lsC, h1, h2, h3], by simp [lsV, lsC, h1, h2, h3]⟩)))
        · exact .inr (.inr (.inr (.inl ⟨rfl, h1, h2, h3, by simp only [lsC, h1, h2, h3]; simp, by simp only [lsV, lsC, h1, h2, h3]; simp⟩)))
      · exact .inr (.inr (.inl ⟨rfl, h1, h2, by simp only [lsC, h1, h2]; simp, by simp only [lsV, lsC, h1, h2]; simp⟩))
    · exact .inr (.inl ⟨rfl, h1, by simp only [lsC, h1]; simp, by simp only [lsV, lsC, h1]; simp⟩)

set_option maxHeartbeats 4000000 in
theorem spec_last (p s c l : Int) (st sk re fe ag : Bool) (player move seeds : Int) (w : World) :
    Calls Try.prog 47 #[.agg #[.int .i64 p, .int .i64 s, .bool st, .bool sk, .bool re, .bool fe, .bool ag, .int .i64 c, .int .i64 l], .int .i64 player, .int .i64 move, .int .i64 seeds] w fun e w' => e = .returned (.tuple #[.int .i64 (lsV (okR p s c l st ag) p player move seeds st sk), .int .i64 (lsC (okR p s c l st ag) p player move seeds)]) ∧ Below w.heap.size w w' := by
  rcases ls_cases (okR p s c l st ag) p player move seeds st sk with ⟨hok, hc, hv⟩ | ⟨hok, h1, hc, hv⟩ | ⟨hok, h1, h2, hc, hv⟩ | ⟨hok, h1, h2, h3, hc, hv⟩ | ⟨hok, h1, h2, h3, hc, hv⟩ <;> rw [hc, hv]
  · have Hok := Lib.hid hok
    clear hok hc hv
    go_enter Try.func47, Try.ntmps47
    go_wp2_with (go_at_call 69; refine (l02Ok_any p s c l st sk re fe ag _ _ (by go_simp) (by go_simp) (by go_simp) (by go_simp) (by go_simp) (by go_simp) (by go_simp) (by go_simp) (by go_simp)).mono ?_; rintro e w' ⟨rfl, rfl⟩; rw [Hok.out])
    go_ret2
    exact ⟨rfl, (by repeat (first | exact Below.refl _ _ | assumption | (refine Below.drew ?_) | (refine Below.setCell ?_ (by first | omega | (simp; done) | (simp; omega)) _) | (refine Below.alloc ?_ (by first | omega | (simp; done) | (simp; omega)) _) | (refine Below.trans ?_ (Below.mono (by assumption) (by first | omega | (simp; done) | (simp; omega))))))⟩
  · have Hok := Lib.hid hok
    have HD := Lib.hid (show (decide (0 ≤ player) && decide (player ≤ 1)) = false by simp; omega)
    clear hok hc hv h1
    go_enter Try.func47, Try.ntmps47
    go_wp2_with (first | (go_at_call 69; refine (l02Ok_any p s c l st sk re fe ag _ _ (by go_simp) (by go_simp) (by go_simp) (by go_simp) (by go_simp) (by go_simp) (by go_simp) (by go_simp) (by go_simp)).mono ?_; rintro e w' ⟨rfl, rfl⟩; rw [Hok.out]) | (go_at_call 71; refine (in_b _ _ _ false HD.out _).mono ?_; rintro e w' ⟨rfl, rfl⟩))
    go_ret2
    exact ⟨rfl, (by repeat (first | exact Below.refl _ _ | assumption | (refine Below.drew ?_) | (refine Below.setCell ?_ (by first | omega | (simp; done) | (simp; omega)) _) | (refine Below.alloc ?_ (by first | omega | (simp; done) | (simp; omega)) _) | (refine Below.trans ?_ (Below.mono (by assumption) (by first | omega | (simp; done) | (simp; omega))))))⟩
  · obtain ⟨hp2, hp8, -⟩ := okR_bd hok
    have Hok := Lib.hid hok
    have HD := Lib.hid (show (decide (0 ≤ player) && decide (player ≤ 1)) = true by simp; omega)
    have HD2 := Lib.hid (show (decide (0 ≤ move) && decide (move ≤ p - 1)) = false by simp; omega)
    clear hok hc hv h1 h2
    go_enter Try.func47, Try.ntmps47
    go_wp2_with (first | (go_at_call 69; refine (l02Ok_any p s c l st sk re fe ag _ _ (by go_simp) (by go_simp) (by go_simp) (by go_simp) (by go_simp) (by go_simp) (by go_simp) (by go_simp) (by go_simp)).mono ?_; rintro e w' ⟨rfl, rfl⟩; rw [Hok.out]) | (go_at_call 71; (with_reducible refine (in_b _ _ _ true HD.out _).mono ?_); rintro e w' ⟨rfl, rfl⟩) | (go_at_call 71; (with_reducible refine (in_b _ _ _ false HD2.out _).mono ?_); rintro e w' ⟨rfl, rfl⟩))
    go_ret2
    exact ⟨rfl, (by repeat (first | exact Below.refl _ _ | assumption | (refine Below.drew ?_) | (refine Below.setCell ?_ (by first | omega | (simp; done) | (simp; omega)) _) | (refine Below.alloc ?_ (by first | omega | (simp; done) | (simp; omega)) _) | (refine Below.trans ?_ (Below.mono (by assumption) (by first | omega | (simp; done) | (simp; omega))))))⟩
  · obtain ⟨hp2, hp8, -⟩ := okR_bd hok
    have Hok := Lib.hid hok
    have HD := Lib.hid (show (decide (0 ≤ player) && decide (player ≤ 1)) = true by simp; omega)
    have HD2 := Lib.hid (show (decide (0 ≤ move) && decide (move ≤ p - 1)) = true by simp; omega)
    have HD3 := Lib.hid (show (decide (1 ≤ seeds) && decide (seeds ≤ 96)) = false by simp; omega)
    clear hok hc hv h1 h2 h3
    go_enter Try.func47, Try.ntmps47
    go_wp2_with (first | (go_at_call 69; refine (l02Ok_any p s c l st sk re fe ag _ _ (by go_simp) (by go_simp) (by go_simp) (by go_simp) (by go_simp) (by go_simp) (by go_simp) (by go_simp) (by go_simp)).mono ?_; rintro e w' ⟨rfl, rfl⟩; rw [Hok.out]) | (go_at_call 71; (with_reducible refine (in_b _ _ _ true HD.out _).mono ?_); rintro e w' ⟨rfl, rfl⟩) | (go_at_call 71; (with_reducible refine (in_b _ _ _ true HD2.out _).mono ?_); rintro e w' ⟨rfl, rfl⟩) | (go_at_call 71; (with_reducible refine (in_b _ _ _ false HD3.out _).mono ?_); rintro e w' ⟨rfl, rfl⟩))
    go_ret2
    exact ⟨rfl, (by repeat (first | exact Below.refl _ _ | assumption | (refine Below.drew ?_) | (refine Below.setCell ?_ (by first | omega | (simp; done) | (simp; omega)) _) | (refine Below.alloc ?_ (by first | omega | (simp; done) | (simp; omega)) _) | (refine Below.trans ?_ (Below.mono (by assumption) (by first | omega | (simp; done) | (simp; omega))))))⟩
  · obtain ⟨hp2, hp8, -⟩ := okR_bd hok
    obtain ⟨P, rfl⟩ : ∃ P : Nat, p = P := ⟨p.toNat, by omega⟩
    obtain ⟨n, rfl⟩ : ∃ n : Nat, seeds = n := ⟨seeds.toNat, by omega⟩
    obtain ⟨m, rfl⟩ : ∃ m : Nat, move = m := ⟨move.toNat, by omega⟩
    rw [Int.toNat_natCast]
    rcases h1 with rfl | rfl
    · have := specLast0 P n m s c l st sk re fe ag m w rfl hok h2.1 h2.2 (by omega) (by omega)
      rwa [show (0 : Int) * P + m = m by omega]
    · have := specLast1 P n (P + m) s c l st sk re fe ag m w (by omega) hok h2.1 h2.2 (by omega) (by omega)
      rwa [show (1 : Int) * P + m = ((P + m : Nat) : Int) by omega]

section
open Go.RowKit Go.Shelf
attribute [local go_sem] Oper.semAt_some
set_option maxHeartbeats 4000000 in
theorem implLastBad1 (p s c l : Int) (st sk re fe ag : Bool) (player move seeds : Int) (w : World) (hm : moveC (okR p s c l st ag) p player move = 1) :
    Calls Try.prog 26 #[.agg #[.int .i64 p, .int .i64 s, .bool st, .bool sk, .bool re, .bool fe, .bool ag, .int .i64 c, .int .i64 l], .int .i64 player, .int .i64 move, .int .i64 seeds] w fun e w' => e = .returned (.tuple #[.int .i64 0, .int .i64 1]) ∧ Below w.heap.size w w' := by
  have hv : movV (moveC (okR p s c l st ag) p player move) (player * p + move) = 0 := by rw [hm]; rfl
  have Hv := Lib.hid hv
  have Hc := Lib.hid hm
  clear hv hm
  refine (callsIn_wide (n := 3)).1 ?_
  refine callsIn_of_wp_marks Try.func26 rfl trivial ?_ rfl
  simp only [Try.ntmps26, List.size_toArray, List.length_cons, List.length_nil, Nat.reduceAdd, Nat.reduceSub, Array.replicate_succ, Array.replicate_zero, List.push_toArray, List.append_toArray, List.nil_append, List.cons_append]
  gi_wp2_with fail
  refine ⟨trivial, ?_⟩
  refine CallsIn.mono (callsIn_wide.2 (impl_pitof p s c l st sk re fe ag _ _ _)) ?_
  rintro e w1 ⟨rfl, hb1⟩
  rw [Hv.out, Hc.out]
  have HB1 := Lib.hid ((((Below.refl _ w).alloc (Nat.le_refl _) (.cells #[.int .i64 p, .int .i64 s, .bool st, .bool sk, .bool re, .bool fe, .bool ag, .int .i64 c, .int .i64 l] 25)).alloc (by simp) (.cells #[.int .i64 seeds] 2)).trans (hb1.mono (by simp; omega)))
  clear hb1
  gi_wp2_with fail
  exact ⟨.tuple #[.int .i64 0, .int .i64 1], by simp [results, Try.f26, go_sem], rfl, HB1.out⟩
set_option maxHeartbeats 4000000 in
theorem implLastBad2 (p s c l : Int) (st sk re fe ag : Bool) (player move seeds : Int) (w : World) (hm : moveC (okR p s c l st ag) p player move = 2) :
    Calls Try.prog 26 #[.agg #[.int .i64 p, .int .i64 s, .bool st, .bool sk, .bool re, .bool fe, .bool ag, .int .i64 c, .int .i64 l], .int .i64 player, .int .i64 move, .int .i64 seeds] w fun e w' => e = .returned (.tuple #[.int .i64 0, .int .i64 2]) ∧ Below w.heap.size w w' := by
  have hv : movV (moveC (okR p s c l st ag) p player move) (player * p + move) = 0 := by rw [hm]; rfl
  have Hv := Lib.hid hv
  have Hc := Lib.hid hm
  clear hv hm
  refine (callsIn_wide (n := 3)).1 ?_
  refine callsIn_of_wp_marks Try.func26 rfl trivial ?_ rfl
  simp only [Try.ntmps26, List.size_toArray, List.length_cons, List.length_nil, Nat.reduceAdd, Nat.reduceSub, Array.replicate_succ, Array.replicate_zero, List.push_toArray, List.append_toArray, List.nil_append, List.cons_append]
  gi_wp2_with fail
  refine ⟨trivial, ?_⟩
  refine CallsIn.mono (callsIn_wide.2 (impl_pitof p s c l st sk re fe ag _ _ _)) ?_
  rintro e w1 ⟨rfl, hb1⟩
  rw [Hv.out, Hc.out]
  have HB1 := Lib.hid ((((Below.refl _ w).alloc (Nat.le_refl _) (.cells #[.int .i64 p, .int .i64 s, .bool st, .bool sk, .bool re, .bool fe, .bool ag, .int .i64 c, .int .i64 l] 25)).alloc (by simp) (.cells #[.int .i64 seeds] 2)).trans (hb1.mono (by simp; omega)))
  clear hb1
  gi_wp2_with fail
  exact ⟨.tuple #[.int .i64 0, .int .i64 2], by simp [results, Try.f26, go_sem], rfl, HB1.out⟩
set_option maxHeartbeats 4000000 in
theorem implLastFar (p s c l : Int) (st sk re fe ag : Bool) (player move seeds : Int) (w : World) (hm : moveC (okR p s c l st ag) p player move = 0) (hs : ¬ (1 ≤ seeds ∧ seeds ≤ 96)) :
    Calls Try.prog 26 #[.agg #[.int .i64 p, .int .i64 s, .bool st, .bool sk, .bool re, .bool fe, .bool ag, .int .i64 c, .int .i64 l], .int .i64 player, .int .i64 move, .int .i64 seeds] w fun e w' => e = .returned (.tuple #[.int .i64 0, .int .i64 2]) ∧ Below w.heap.size w w' := by
  obtain ⟨f, hf⟩ : ∃ f, movV (moveC (okR p s c l st ag) p player move) (player * p + move) = f := ⟨_, rfl⟩
  have Hv := Lib.hid hf
  have Hc := Lib.hid hm
  clear hf hm
  have hcs : seeds < 1 ∨ 96 < seeds := by omega
  clear hs
  rcases hcs with h1 | h1
  all_goals
    refine (callsIn_wide (n := 3)).1 ?_
    refine callsIn_of_wp_marks Try.func26 rfl trivial ?_ rfl
    simp only [Try.ntmps26, List.size_toArray, List.length_cons, List.length_nil, Nat.reduceAdd, Nat.reduceSub, Array.replicate_succ, Array.replicate_zero, List.push_toArray, List.append_toArray, List.nil_append, List.cons_append]
    gi_wp2_with fail
    refine ⟨trivial, ?_⟩
    refine CallsIn.mono (callsIn_wide.2 (impl_pitof p s c l st sk re fe ag _ _ _)) ?_
    rintro e w1 ⟨rfl, hb1⟩
    rw [Hv.out, Hc.out]
    have HB1 := Lib.hid ((((Below.refl _ w).alloc (Nat.le_refl _) (.cells #[.int .i64 p, .int .i64 s, .bool st, .bool sk, .bool re, .bool fe, .bool ag, .int .i64 c, .int .i64 l] 25)).alloc (by simp) (.cells #[.int .i64 seeds] 2)).trans (hb1.mono (by simp; omega)))
    have y1 : w1.cell? ⟨w.heap.size + 1, 0, none⟩ = some (.int .i64 seeds) := by rw [(bcell hb1).1 (w.heap.size + 1) 0 (by simp)]; go_simp
    have hq : decide (seeds < 1) = true ∨ (decide (seeds < 1) = false ∧ decide (96 < seeds) = true) := by
      by_cases h : seeds < 1
      · exact .inl (by simpa using h)
      · exact .inr ⟨by simpa using h, by simp; omega⟩
    clear hb1
    gi_wp2_with fail
    exact ⟨.tuple #[.int .i64 0, .int .i64 2], by simp [results, Try.f26, go_sem], rfl, HB1.out⟩
end

theorem moveC_val {ok : Bool} {p player move : Int} : moveC ok p player move = if ok = true then (if (0 ≤ player ∧ player ≤ 1) ∧ (0 ≤ move ∧ move < p) then 0 else 2) else 1 := rfl
theorem impl_last (p s c l : Int) (st sk re fe ag : Bool) (player move seeds : Int) (w : World) :
    Calls Try.prog 26 #[.agg #[.int .i64 p, .int .i64 s, .bool st, .bool sk, .bool re, .bool fe, .bool ag, .int .i64 c, .int .i64 l], .int .i64 player, .int .i64 move, .int .i64 seeds] w fun e w' => e = .returned (.tuple #[.int .i64 (lsV (okR p s c l st ag) p player move seeds st sk), .int .i64 (lsC (okR p s c l st ag) p player move seeds)]) ∧ Below w.heap.size w w' := by
  rcases ls_cases (okR p s c l st ag) p player move seeds st sk with ⟨hok, hc, hv⟩ | ⟨hok, h1, hc, hv⟩ | ⟨hok, h1, h2, hc, hv⟩ | ⟨hok, h1, h2, h3, hc, hv⟩ | ⟨hok, h1, h2, h3, hc, hv⟩ <;> rw [hc, hv]
  · exact implLastBad1 p s c l st sk re fe ag player move seeds w (by rw [hok]; rfl)
  · exact implLastBad2 p s c l st sk re fe ag player move seeds w (by rw [moveC_val, if_pos hok, if_neg (fun h => h1 h.1)])
  · exact implLastBad2 p s c l st sk re fe ag player move seeds w (by rw [moveC_val, if_pos hok, if_neg (fun h => h2 h.2)])
  · exact implLastFar p s c l st sk re fe ag player move seeds w (by rw [moveC_val, if_pos hok, if_pos ⟨h1, h2⟩]) h3
  · obtain ⟨n, rfl⟩ : ∃ n : Nat, seeds = n := ⟨seeds.toNat, by omega⟩
    rw [Int.toNat_natCast]
    rcases h1 with rfl | rfl
    · exact implLast0 p s c l st sk re fe ag move _ n w rfl hok h2.1 h2.2 (by omega) (by omega)
    · exact implLast1 p s c l st sk re fe ag move _ n w rfl hok h2.1 h2.2 (by omega) (by omega)
theorem walk_FnExactLastPlace (x : RV) (hx : x.Fit) (player : Int) (hp : I64 player) (move : Int) (hm : I64 move) (seeds : Int) (hs : I64 seeds) (w : World) :
    Calls Try.prog 12 #[x.val, .int .i64 player, .int .i64 move, .int .i64 seeds] w fun e w' => e = .returned (.bool true) ∧ Below w.heap.size w w' := by
  obtain ⟨p, s, st, sk, re, fe, ag, c, l⟩ := x
  show Calls Try.prog 12 #[.agg #[.int .i64 p, .int .i64 s, .bool st, .bool sk, .bool re, .bool fe, .bool ag, .int .i64 c, .int .i64 l], .int .i64 player, .int .i64 move, .int .i64 seeds] w _
  generalize hv : lsV (okR p s c l st ag) p player move seeds st sk = v
  generalize hk : lsC (okR p s c l st ag) p player move seeds = k
  have Hv := Lib.hid hv
  have Hk := Lib.hid hk
  clear hv hk hx hp hm hs
  go_enter Try.func12, Try.ntmps12
  go_wp2_with (first | (go_at_call 33; refine (toRules_any p s c l st sk re fe ag _).mono ?_; rintro e w1 ⟨rfl, hb1⟩; obtain ⟨hc1, hf1⟩ := bcell hb1; have hs1 := hb1.size; (try simp at hs1); (try have hz1 : w.heap.size < w1.heap.size := by omega); (try have hy1 : w.heap.size + 1 < w1.heap.size := by omega); (try have hx1 := fun o => hc1 w.heap.size o (by first | omega | (simp; done) | (simp; omega))); (try have hv1 := fun o => hc1 (w.heap.size + 1) o (by first | omega | (simp; done) | (simp; omega)))) | (go_at_call 47; refine (spec_last p s c l st sk re fe ag _ _ _ _).mono ?_; rintro e w2 ⟨rfl, hb2⟩; obtain ⟨hc2, hf2⟩ := bcell hb2; have hs2 := hb2.size; (try simp at hs2); (try have hz2 : w.heap.size < w2.heap.size := by omega); (try have hy2 : w.heap.size + 1 < w2.heap.size := by omega); (try have hx2 := fun o => hc2 w.heap.size o (by first | omega | (simp; done) | (simp; omega))); (try have hv2 := fun o => hc2 (w.heap.size + 1) o (by first | omega | (simp; done) | (simp; omega))); (try have hq21 : w1.heap.size < w2.heap.size := by omega); rw [Hv.out, Hk.out]) | (go_at_call 26; refine (impl_last p s c l st sk re fe ag _ _ _ _).mono ?_; rintro e w3 ⟨rfl, hb3⟩; obtain ⟨hc3, hf3⟩ := bcell hb3; have hs3 := hb3.size; (try simp at hs3); (try have hz3 : w.heap.size < w3.heap.size := by omega); (try have hy3 : w.heap.size + 1 < w3.heap.size := by omega); (try have hx3 := fun o => hc3 w.heap.size o (by first | omega | (simp; done) | (simp; omega))); (try have hv3 := fun o => hc3 (w.heap.size + 1) o (by first | omega | (simp; done) | (simp; omega))); (try have hq31 : w1.heap.size < w3.heap.size := by omega); (try have hq32 : w2.heap.size < w3.heap.size := by omega); rw [Hv.out, Hk.out]))
  go_ret
  exact ⟨rfl, (by repeat (first | exact Below.refl _ _ | assumption | (refine Below.drew ?_) | (refine Below.setCell ?_ (by first | omega | (simp; done) | (simp; omega)) _) | (refine Below.alloc ?_ (by first | omega | (simp; done) | (simp; omega)) _) | (refine Below.trans ?_ (Below.mono (by assumption) (by first | omega | (simp; done) | (simp; omega))))))⟩
namespace fnExactLastPlace
set_option maxHeartbeats 2000000 in
set_option maxRecDepth 100000 in
theorem lifted (os : Os) (started : os.Started) (H : Type) (enc : TypeId × Value → H) :
    ReturnsInHanded {} Try.checked os 12 .any (Rows.fnExactLastPlaceSpec.pre6 enc Try.prog Try.f12 Rows.fnExactLastPlaceRow.domain false) (Rows.fnExactLastPlaceSpec.post enc Try.prog Try.f12 false true false false) := by
  refine returnsInHanded_of_change (C := Try.checked) own started (by kernel_rfl) Try.func12
    (ChangeSpec.witness6 (enc := enc) (C := Try.checked) false ⟨#[], #[.agg #[.int .i64 0, .int .i64 0, .bool false, .bool false, .bool false, .bool false, .bool false, .int .i64 0, .int .i64 0], .int .i64 0, .int .i64 0, .int .i64 0], []⟩ 8 (by kernel_rfl) (by kernel_rfl) (by kernel_rfl) (by kernel_rfl)) ?_
  intro W base args ds gs before hval0 hW hcnd _
  have hval : ∀ (j : Nat) t v, Try.f12.params[j]? = some t → args[j]? = some v → Value.okWide Try.prog W .any base t v := hval0
  have hW' := hW
  obtain ⟨p, q, hA0, hV, rfl, hfz, hnd⟩ := hW
  have hA : DataW.TrodAll enc Try.prog W 0 (fun _ => true) true Try.f12.params.toList args.toList ds p := hA0
  rw [Try.params12] at hA hval
  obtain ⟨v0, vs0, d0, ds0, p0, q0, hargs, rfl, rfl, h0, r0⟩ := trodAll_cons hA
  obtain ⟨v1, vs1, d1, ds1, p1, q1, rfl, rfl, rfl, h1, r1⟩ := trodAll_cons r0
  obtain ⟨v2, vs2, d2, ds2, p2, q2, rfl, rfl, rfl, h2, r2⟩ := trodAll_cons r1
  obtain ⟨v3, vs3, d3, ds3, p3, q3, rfl, rfl, rfl, h3, r3⟩ := trodAll_cons r2
  obtain ⟨rfl, rfl, rfl⟩ := trodAll_nil r3
  obtain rfl : args = #[v0, v1, v2, v3] := by cases args; simp_all
  obtain ⟨rfl, rfl⟩ := trodVars_none hV
  have k0 := h0
  have lt0 : ∀ x ∈ p0, x.block < W.heap.size := by obtain ⟨m, hm⟩ := k0; exact DataW.trod_lt m _ _ _ hm
  obtain ⟨x0, rfl, w0⟩ := open_rules Try.underlying51 Try.underlying2 Try.underlying4 (by kernel_rfl) (by kernel_rfl) (hval 0 51 v0 rfl rfl) h0
  have k1 := h1
  have lt1 : ∀ x ∈ p1, x.block < W.heap.size := by obtain ⟨m, hm⟩ := k1; exact DataW.trod_lt m _ _ _ hm
  obtain ⟨a1, rfl, -, -, w1⟩ := open_int Try.underlying2 (hval 1 2 v1 rfl rfl) h1
  have k2 := h2
  have lt2 : ∀ x ∈ p2, x.block < W.heap.size := by obtain ⟨m, hm⟩ := k2; exact DataW.trod_lt m _ _ _ hm
  obtain ⟨a2, rfl, -, -, w2⟩ := open_int Try.underlying2 (hval 2 2 v2 rfl rfl) h2
  have k3 := h3
  have lt3 : ∀ x ∈ p3, x.block < W.heap.size := by obtain ⟨m, hm⟩ := k3; exact DataW.trod_lt m _ _ _ hm
  obtain ⟨a3, rfl, -, -, w3⟩ := open_int Try.underlying2 (hval 3 2 v3 rfl rfl) h3
  clear hA0 hval0
  refine (walk_FnExactLastPlace x0 w0 a1 (wf_i64 w1) a2 (wf_i64 w2) a3 (wf_i64 w3) (w := W)).mono fun e W' ⟨he, bel⟩ => ?_
  subst he
  exact ⟨_, rfl, _, _, _, [], _, [], hW', trodAll_mk1 (shut_bool Try.underlying4 _), (trodAll_cons_mk (Below.trod laidOut (by kernel_rfl) (of_decide_eq_true (by kernel_rfl)) k0 bel lt0) (trodAll_cons_mk (Below.trod laidOut (by kernel_rfl) (of_decide_eq_true (by kernel_rfl)) k1 bel lt1) (trodAll_cons_mk (Below.trod laidOut (by kernel_rfl) (of_decide_eq_true (by kernel_rfl)) k2 bel lt2) (trodAll_cons_mk (Below.trod laidOut (by kernel_rfl) (of_decide_eq_true (by kernel_rfl)) k3 bel lt3) trodAll_mk0)))), rfl, bel.frame _, fun h => by cases h⟩

theorem proved : Rows.FnExactLastPlaceSaid :=
  OpenClaim.holds_of_wide 12 Try.f12 rfl rfl rfl rfl rfl rfl rfl ⟨rfl, rfl, rfl, rfl, rfl⟩ rfl rfl rfl rfl rfl (by kernel_rfl) Try.func12 (by kernel_rfl)
    (of_decide_eq_true (by kernel_rfl)) (by unfold Func.isWrapper; first | (rw [if_pos (by decide +kernel)]; kernel_rfl) | (rw [if_neg (by decide +kernel)]; exact ⟨rfl, rfl⟩))
    (fun os started H enc _ => lifted os started H enc)
end fnExactLastPlace

end Go.Proofs.Ythlfkdjkihiiaaa
