/- FnSettled: what the calls answer, and the law: settling and giving keep all seeds, leave empty pits, and change nothing when they are done again: for every input. No conditions. -/
import Derived.Test.YtgogjjkecbgbiaaSettled
namespace Go.Proofs.Ytgogjjkecbgbiaa
open Go.Joins Go.ChangeShapes Go.WideShapes Go.ChangeAt Go.RowKit Go.Deep
set_option linter.unusedVariables false

theorem tot_zeros : ∀ n : Nat, tot (List.replicate n 0) = 0
  | 0 => rfl
  | n + 1 => by
    rw [List.replicate_succ]
    show (0 : Int) + tot (List.replicate n 0) = 0
    rw [tot_zeros n]
    rfl
theorem posB_zeros (n : Nat) : posB (List.replicate n 0) = true := by
  unfold posB
  rw [List.all_eq_true]
  intro x hx
  rw [List.eq_of_mem_replicate hx]
  rfl
theorem half_zeros (n P : Nat) (i : Int) : tot (halfL (List.replicate n 0) P i) = 0 := by
  unfold halfL
  first
  | (split <;> simp [List.take_replicate, List.drop_replicate, tot_zeros])
  | simp [List.take_replicate, List.drop_replicate, tot_zeros]
theorem half_pos {xs : List Int} (h : posB xs = true) (P : Nat) (i : Int) : 0 ≤ tot (halfL xs P i) := by
  unfold halfL
  first
  | exact posB_tot (posB_take (posB_drop h _) _)
  | (split
     · exact posB_tot (posB_take h _)
     · exact posB_tot (posB_drop h _))
  | (split
     · exact posB_tot (posB_take h _)
     · exact posB_tot (posB_take (posB_drop h _) _))
theorem maj_eq (z0 z1 : Int) : (majV (0 + (z0 + z1)) z0 z1 = 0 ∧ 0 < z0 - z1) ∨ (majV (0 + (z0 + z1)) z0 z1 = 1 ∧ z0 - z1 < 0) ∨ (majV (0 + (z0 + z1)) z0 z1 = -1 ∧ z0 - z1 = 0) := by
  unfold majV
  split
  · exact .inl ⟨rfl, by omega⟩
  · split
    · exact .inr (.inl ⟨rfl, by omega⟩)
    · exact .inr (.inr ⟨rfl, by omega⟩)
theorem fs_of (p s c l : Int) (st sk re fe ag : Bool) (g1 o1 : Nat) (x2 : Option Addr) (xn1 xc1 xn2 xc2 : Nat) (xp pl : Int) (xs ys : List Int) (l1 : xs.length = xn1) (l2 : ys.length = xn2) (hcap : xn1 ≤ xc1) :
    ∃ gm1 gm2 gp gc gu gv sm1 sm2 sp sc su sv n nc m mc ld lc a w0, Fs p s c l st sk re fe ag g1 o1 x2 xn1 xc1 xn2 xc2 xp pl xs ys gm1 gm2 gp gc gu gv sm1 sm2 sp sc su sv n nc m mc ld lc a w0 := by
  rcases hk : okP (okR p s c l st ag) p xn1 xn2 xp xs ys with _ | _
  · exact ⟨0, 0, 0, 1, [], [], 0, 0, 0, 1, [], [], _, _, _, _, _, _, 0, 0,
      ⟨fun u h => implGive_no p s c l st sk re fe ag _ _ _ _ _ _ _ xs ys pl u h hk, fun u h => specGive_no p s c l st sk re fe ag _ _ _ _ _ _ _ xs ys pl u h hk,
       fun u h => implSettle_no p s c l st sk re fe ag _ _ _ _ _ _ _ xs ys u h hk, fun u h => specSettle_no p s c l st sk re fe ag _ _ _ _ _ _ _ xs ys u h hk,
       fun u h => implNed_any p s c l st sk re fe ag _ _ _ _ _ _ _ xs ys pl u h false hk, fun u h => specNed_any p s c l st sk re fe ag _ _ _ _ _ _ _ xs ys pl u h false hk,
       fun u h => implMaj_any p s c l st sk re fe ag _ _ _ _ _ _ _ xs ys u h false hk, fun u h => specMaj_any p s c l st sk re fe ag _ _ _ _ _ _ _ xs ys u h false hk,
       fun u h => implLed_any p s c l st sk re fe ag _ _ _ _ _ _ _ xs ys u h false hk, fun u h => specLed_any p s c l st sk re fe ag _ _ _ _ _ _ _ xs ys u h false hk,
       fun _ => by decide, fun h => absurd h (by decide), fun h => absurd h (by decide), fun h => absurd h (by decide), fun h => absurd h (by decide), fun h => absurd h (by decide), fun h => absurd h (by decide)⟩⟩
  · obtain ⟨hok, hn1, hn2, hpl, hs⟩ := okP_parts hk
    obtain ⟨hp1, hp2, -⟩ := okR_bd hok
    obtain ⟨P, rfl⟩ : ∃ P : Nat, p = (P : Int) := ⟨p.toNat, by omega⟩
    have e1 : xn1 = 2 * P := by omega
    obtain rfl : xn2 = 2 := by omega
    obtain ⟨y0, y1, rfl⟩ := two9 l2
    obtain ⟨h1, h2, h3⟩ := seedB_parts hs
    have hp0 := posB_mem h2 (k := 0) (x := y0) rfl
    have hp1' := posB_mem h2 (k := 1) (x := y1) rfl
    have ht0 := posB_tot h1
    have hh := half_sum (P := P) (xs := xs) (by omega)
    have q0 := half_pos h1 P 0
    have q1 := half_pos h1 P 1
    have e2 := tot2 y0 y1
    have hks : okP (okR (P : Int) s c l st ag) (P : Int) xn1 2 xp (List.replicate xn1 0) [y0 + tot (halfL xs P 0), y1 + tot (halfL xs P 1)] = true := by
      rw [hok]
      unfold okP seedB
      rw [posB_zeros, tot_zeros, tot2]
      have b1 : posB [y0 + tot (halfL xs P 0), y1 + tot (halfL xs P 1)] = true := by
        simp [posB]
        omega
      rw [b1]
      simp
      omega
    have hss : seedB (List.replicate xn1 0) [y0 + tot (halfL xs P 0), y1 + tot (halfL xs P 1)] = true := (okP_parts hks).2.2.2.2
    have HSi := fun u h => implSettle_yes P s c l st sk re fe ag (some ⟨g1, o1, none⟩) x2 xn1 xc1 xc2 xp xs y0 y1 u h (by omega) (by omega) e1 hcap hs hk
    have HSs := fun u h => specSettle_yes P s c l st sk re fe ag (some ⟨g1, o1, none⟩) x2 xn1 xc1 xc2 xp xs y0 y1 u h (by omega) (by omega) e1 hcap hs hk
    have HAg : ∀ (t1 t2 : Option Addr) (d1 d2 : Nat) u, PosR u t1 t2 xn1 2 (List.replicate xn1 0) [y0 + tot (halfL xs P 0), y1 + tot (halfL xs P 1)] → xn1 ≤ d1 → Calls Try.prog 8 #[.agg #[.int .i64 P, .int .i64 s, .bool st, .bool sk, .bool re, .bool fe, .bool ag, .int .i64 c, .int .i64 l], .agg #[.slice t1 xn1 d1, .slice t2 2 d2, .int .i64 xp]] u (PosZ xn1 2 xp 0 (List.replicate xn1 0) [y0 + tot (halfL xs P 0), y1 + tot (halfL xs P 1)] u) := fun t1 t2 d1 d2 u h hd => by
      have h := implSettle_yes P s c l st sk re fe ag t1 t2 xn1 d1 d2 xp _ _ _ u h (by omega) (by omega) e1 hd hss hks
      rwa [half_zeros, half_zeros, Int.add_zero, Int.add_zero] at h
    have HSo : ∀ (t1 t2 : Option Addr) (d1 d2 : Nat) u, PosR u t1 t2 xn1 2 (List.replicate xn1 0) [y0 + tot (halfL xs P 0), y1 + tot (halfL xs P 1)] → Calls Try.prog 17 #[.agg #[.int .i64 P, .int .i64 s, .bool st, .bool sk, .bool re, .bool fe, .bool ag, .int .i64 c, .int .i64 l], .agg #[.slice t1 xn1 d1, .slice t2 2 d2, .int .i64 xp]] u (Ret2 0 0 u) := fun t1 t2 d1 d2 u h => by
      have h := implOn_any (P : Int) s c l st sk re fe ag t1 t2 xn1 d1 2 d2 xp _ _ u h true hks
      rwa [tot_zeros] at h
    have HLo := fun (t1 t2 : Option Addr) (d1 d2 : Nat) u (h : PosR u t1 t2 xn1 2 (List.replicate xn1 0) [y0 + tot (halfL xs P 0), y1 + tot (halfL xs P 1)]) => implLed_any (P : Int) s c l st sk re fe ag t1 t2 xn1 d1 2 d2 xp _ _ u h true hks
    have HMo := fun (t1 t2 : Option Addr) (d1 d2 : Nat) u (h : PosR u t1 t2 xn1 2 (List.replicate xn1 0) [y0 + tot (halfL xs P 0), y1 + tot (halfL xs P 1)]) => implMaj_any (P : Int) s c l st sk re fe ag t1 t2 xn1 d1 2 d2 xp _ _ u h true hks
    have hw1 := maj_eq (y0 + tot (halfL xs P 0)) (y1 + tot (halfL xs P 1))
    have hmaj : majA true (List.replicate xn1 0) [y0 + tot (halfL xs P 0), y1 + tot (halfL xs P 1)] = majV (0 + (y0 + tot (halfL xs P 0) + (y1 + tot (halfL xs P 1)))) (y0 + tot (halfL xs P 0)) (y1 + tot (halfL xs P 1)) := by
      show majV (tot (List.replicate xn1 0) + tot [y0 + tot (halfL xs P 0), y1 + tot (halfL xs P 1)]) _ _ = _
      rw [tot_zeros, tot2]
      rfl
    rw [← hmaj] at hw1
    have HNi := fun u h => implNed_any (P : Int) s c l st sk re fe ag (some ⟨g1, o1, none⟩) x2 xn1 xc1 2 xc2 xp xs [y0, y1] pl u h true hk
    have HNs := fun u h => specNed_any (P : Int) s c l st sk re fe ag (some ⟨g1, o1, none⟩) x2 xn1 xc1 2 xc2 xp xs [y0, y1] pl u h true hk
    have HMi := fun u h => implMaj_any (P : Int) s c l st sk re fe ag (some ⟨g1, o1, none⟩) x2 xn1 xc1 2 xc2 xp xs [y0, y1] u h true hk
    have HMs := fun u h => specMaj_any (P : Int) s c l st sk re fe ag (some ⟨g1, o1, none⟩) x2 xn1 xc1 2 xc2 xp xs [y0, y1] u h true hk
    have HLi := fun u h => implLed_any (P : Int) s c l st sk re fe ag (some ⟨g1, o1, none⟩) x2 xn1 xc1 2 xc2 xp xs [y0, y1] u h true hk
    have HLs := fun u h => specLed_any (P : Int) s c l st sk re fe ag (some ⟨g1, o1, none⟩) x2 xn1 xc1 2 xc2 xp xs [y0, y1] u h true hk
    cases hj : isPl pl
    · exact ⟨0, 0, 0, 2, [], [], _, _, _, 0, _, _, _, _, _, _, _, _, _, _,
        ⟨fun u h => implGive_pl (P : Int) s c l st sk re fe ag _ _ _ _ _ _ _ xs [y0, y1] pl u h hk hj, fun u h => specGive_pl (P : Int) s c l st sk re fe ag _ _ _ _ _ _ _ xs [y0, y1] pl u h hk hj,
         HSi, HSs, HNi, HNs, HMi, HMs, HLi, HLs, fun h => absurd rfl h, fun _ => HAg, fun _ => HSo, fun _ => HLo, fun _ => HMo, fun _ => hw1, fun h => absurd h (by decide)⟩⟩
    · have hm : pl = 0 ∨ pl = 1 := by
        unfold isPl at hj
        simp only [Bool.and_eq_true, decide_eq_true_eq] at hj
        omega
      have hn : ∀ i y, nedA true xs [y0, y1] i = needV (tot xs + tot [y0, y1]) y → True := fun _ _ _ => trivial
      rcases hm with rfl | rfl
      · refine ⟨_, _, _, 0, _, _, _, _, _, 0, _, _, _, _, _, _, _, _, _, _,
          ⟨fun u h => implGive_yes0 P s c l st sk re fe ag _ _ _ _ _ _ xs y0 y1 u h (by omega) (by omega) e1 hcap hs hk, fun u h => specGive_yes0 P s c l st sk re fe ag _ _ _ _ _ _ xs y0 y1 u h (by omega) (by omega) e1 hcap hs hk,
           HSi, HSs, HNi, HNs, HMi, HMs, HLi, HLs, fun h => absurd rfl h, fun _ => HAg, fun _ => HSo, fun _ => HLo, fun _ => HMo, fun _ => hw1, fun _ => ⟨rfl, rfl, ?_, _, _, _, _, rfl, rfl, .inl ⟨rfl, rfl, by omega⟩⟩⟩⟩
        have hz := need_zero (t := tot xs + tot [y0, y1]) (y := y0) (by omega)
        show (needV (tot xs + tot [y0, y1]) y0 = 0 ∧ majV (tot xs + tot [y0, y1]) y0 y1 = 0) ∨ (needV (tot xs + tot [y0, y1]) y0 ≠ 0 ∧ majV (tot xs + tot [y0, y1]) y0 y1 ≠ 0)
        by_cases hb : tot xs + tot [y0, y1] < 2 * y0
        · exact .inl ⟨hz.2 hb, by unfold majV; rw [if_pos hb]⟩
        · exact .inr ⟨fun h => hb (hz.1 h), by unfold majV; rw [if_neg hb]; split <;> decide⟩
      · refine ⟨_, _, _, 0, _, _, _, _, _, 0, _, _, _, _, _, _, _, _, _, _,
          ⟨fun u h => implGive_yes1 P s c l st sk re fe ag _ _ _ _ _ _ xs y0 y1 u h (by omega) (by omega) e1 hcap hs hk, fun u h => specGive_yes1 P s c l st sk re fe ag _ _ _ _ _ _ xs y0 y1 u h (by omega) (by omega) e1 hcap hs hk,
           HSi, HSs, HNi, HNs, HMi, HMs, HLi, HLs, fun h => absurd rfl h, fun _ => HAg, fun _ => HSo, fun _ => HLo, fun _ => HMo, fun _ => hw1, fun _ => ⟨rfl, rfl, ?_, _, _, _, _, rfl, rfl, .inr ⟨rfl, rfl, by omega⟩⟩⟩⟩
        have hz := need_zero (t := tot xs + tot [y0, y1]) (y := y1) (by omega)
        show (needV (tot xs + tot [y0, y1]) y1 = 0 ∧ majV (tot xs + tot [y0, y1]) y0 y1 = 1) ∨ (needV (tot xs + tot [y0, y1]) y1 ≠ 0 ∧ majV (tot xs + tot [y0, y1]) y0 y1 ≠ 1)
        by_cases hb : tot xs + tot [y0, y1] < 2 * y1
        · exact .inl ⟨hz.2 hb, by unfold majV; rw [if_neg (by omega), if_pos hb]⟩
        · refine .inr ⟨fun h => hb (hz.1 h), ?_⟩
          unfold majV
          split
          · decide
          · first | decide | (rw [if_neg hb]; decide)
theorem walk_FnSettled {w : World} (a1 : Option Addr) (l1 k1 : Nat) (hA : Bytes w a1 l1) :
    Calls Try.prog 3 #[.slice a1 l1 k1] w fun e w' => e = .returned (.bool true) ∧ Below w.heap.size w w' :=
  settled_walk a1 l1 k1 hA fs_of
namespace fnSettled
set_option maxHeartbeats 2000000 in
set_option maxRecDepth 100000 in
theorem lifted (os : Os) (started : os.Started) (H : Type) (enc : TypeId × Value → H) :
    ReturnsInHanded {} Try.checked os 3 .any (Rows.fnSettledSpec.pre6 enc Try.prog Try.f3 Rows.fnSettledRow.domain false) (Rows.fnSettledSpec.post enc Try.prog Try.f3 false true false false) := by
  refine returnsInHanded_of_change (C := Try.checked) own started (by kernel_rfl) Try.func3
    (ChangeSpec.witness6 (enc := enc) (C := Try.checked) false ⟨#[], #[.slice none 0 0], []⟩ 8 (by kernel_rfl) (by kernel_rfl) (by kernel_rfl) (by kernel_rfl)) ?_
  intro W base args ds gs before hval0 hW hcnd _
  have hval : ∀ (j : Nat) t v, Try.f3.params[j]? = some t → args[j]? = some v → Value.okWide Try.prog W .any base t v := hval0
  have hW' := hW
  obtain ⟨p, q, hA0, hV, rfl, hfz, hnd⟩ := hW
  have hA : DataW.TrodAll enc Try.prog W 0 (fun _ => true) true Try.f3.params.toList args.toList ds p := hA0
  rw [Try.params3] at hA hval
  obtain ⟨v0, vs0, d0, ds0, p0, q0, hargs, rfl, rfl, h0, r0⟩ := trodAll_cons hA
  obtain ⟨rfl, rfl, rfl⟩ := trodAll_nil r0
  obtain rfl : args = #[v0] := by cases args; simp_all
  obtain ⟨rfl, rfl⟩ := trodVars_none hV
  have k0 := h0
  have lt0 : ∀ x ∈ p0, x.block < W.heap.size := by obtain ⟨m, hm⟩ := k0; exact DataW.trod_lt m _ _ _ hm
  obtain ⟨a0, len0, cap0, rfl, w0⟩ := open_bytes Try.underlying22 Try.underlying5 (by kernel_rfl) (hval 0 22 v0 rfl rfl) h0
  clear hA0 hval0
  refine (walk_FnSettled a0 len0 cap0 w0 (w := W)).mono fun e W' ⟨he, bel⟩ => ?_
  subst he
  exact ⟨_, rfl, _, _, _, [], _, [], hW', trodAll_mk1 (shut_bool Try.underlying4 _), (trodAll_cons_mk (Below.trod laidOut (by kernel_rfl) (of_decide_eq_true (by kernel_rfl)) k0 bel lt0) trodAll_mk0), rfl, bel.frame _, fun h => by cases h⟩

theorem proved : Rows.FnSettledSaid :=
  OpenClaim.holds_of_wide 3 Try.f3 rfl rfl rfl rfl rfl rfl rfl ⟨rfl, rfl, rfl, rfl, rfl⟩ rfl rfl rfl rfl rfl (by kernel_rfl) Try.func3 (by kernel_rfl)
    (of_decide_eq_true (by kernel_rfl)) (by unfold Func.isWrapper; first | (rw [if_pos (by decide +kernel)]; kernel_rfl) | (rw [if_neg (by decide +kernel)]; exact ⟨rfl, rfl⟩))
    (fun os started H enc _ => lifted os started H enc)
end fnSettled

end Go.Proofs.Ytgogjjkecbgbiaa
