/- SetField of the reference returns rules with another field, or an error. No conditions. -/
import Derived.Test.YtihbaehfgjkajaaDoorSetCase
namespace Go.Proofs.YtihbaehfgjkajaaDoor
open Go.Joins Go.ChangeShapes Go.WideShapes Go.ChangeAt Go.RowKit Go.Deep
set_option linter.unusedVariables false

set_option maxHeartbeats 400000 in
theorem spec_setField (r : RV) (s' : ByteArray) (v : Int) (w : World) : Calls Tryd.prog 13 #[r.val, .string s', .int .i64 v] w fun e w' => e = .returned (.tuple #[(setV r (idxL flds s' 0) v).1.val, .int .i64 (setV r (idxL flds s' 0) v).2]) ∧ Below w.heap.size w w' := by
  unfold RV.val
  have TW := Lib.hid (two_new r w 25)
  have HB0 := Lib.hid (((Below.refl w.heap.size w).alloc (Nat.le_refl _) (.cells #[.int .i64 r.p, .int .i64 r.s, .bool r.st, .bool r.sk, .bool r.re, .bool r.fe, .bool r.ag, .int .i64 r.c, .int .i64 r.l] 25)).alloc (by simp) (.cells #[.int .i64 0, .int .i64 0, .bool false, .bool false, .bool false, .bool false, .bool false, .int .i64 0, .int .i64 0] 25))
  obtain ⟨i, hi⟩ : ∃ i, idxL flds s' 0 = i := ⟨_, rfl⟩
  have HI := Lib.hid hi
  have hrg := idx_range flds s' 0
  have hl9 : flds.length = 9 := rfl
  rw [hi, hl9] at hrg
  rw [hi]
  clear hi
  rcases hok : r.ok with _ | _
  · have Hok := Lib.hid hok
    rw [setV_bad _ _ hok]
    clear hok
    go_enter Tryd.func13, Tryd.ntmps13
    go_wp2_with fail
    refine (ok_rv r _ _ TW.out.a).mono ?_
    rintro e w1 ⟨rfl, rfl⟩
    rw [Hok.out]
    generalize (w.alloc _).alloc _ = w0 at *
    obtain ⟨-, ⟨hzb, z0, z1, z2, z3, z4, z5, z6, z7, z8⟩, -, fz⟩ := TW.out
    unfold Free at fz
    go_wp2_with fail
    exact bodyPost_ret (v := .tuple #[.agg #[.int .i64 0, .int .i64 0, .bool false, .bool false, .bool false, .bool false, .bool false, .int .i64 0, .int .i64 0], .int .i64 1]) (by simp [results, Tryd.results13, go_sem, z0, z1, z2, z3, z4, z5, z6, z7, z8]) rfl ⟨rfl, below_set9 HB0.out (by omega) _ _ _ _ _ _ _ _ _⟩
  · have Hok := Lib.hid hok
    clear hok
    by_cases hneg : i < 0
    · rw [setV_no v Hok.out hneg]
      go_enter Tryd.func13, Tryd.ntmps13
      go_wp2_with fail
      refine (ok_rv r _ _ TW.out.a).mono ?_
      rintro e w1 ⟨rfl, rfl⟩
      rw [Hok.out]
      go_wp2_with fail
      refine (flds_any _).mono ?_
      rintro e w2 ⟨rfl, hb2, hs2, hr2⟩
      have T2 := Lib.hid (TW.out.below hb2)
      have HB2 := Lib.hid (HB0.out.trans (hb2.mono (by simp; omega)))
      simp only [World.size_alloc] at hr2
      go_wp2_with fail
      refine (index_any flds _ 9 9 s' _ hl9 (by omega) hr2).mono ?_
      rintro e w3 ⟨rfl, hb3⟩
      rw [HI.out]
      have HB3 := HB2.out.trans (hb3.mono HB2.out.size)
      obtain ⟨-, ⟨hzb, z0, z1, z2, z3, z4, z5, z6, z7, z8⟩, -, fz⟩ := T2.out.below hb3
      unfold Free at fz
      go_wp2_with fail
      exact bodyPost_ret (v := .tuple #[.agg #[.int .i64 0, .int .i64 0, .bool false, .bool false, .bool false, .bool false, .bool false, .int .i64 0, .int .i64 0], .int .i64 3]) (by simp [results, Tryd.results13, go_sem, z0, z1, z2, z3, z4, z5, z6, z7, z8]) rfl ⟨rfl, below_set9 HB3 (by omega) _ _ _ _ _ _ _ _ _⟩
    · obtain ⟨n, rfl⟩ : ∃ n : Nat, i = (n : Int) := ⟨i.toNat, by omega⟩
      have hn9 : n < 9 := by omega
      obtain ⟨v0, v1, v2, v3, v4, v5, v6, v7, v8, hset, hupd⟩ := upd_vals r n v hn9
      have hx := vals_at r hn9
      have hso := setOk_iff n v
      have ho2 : ∃ o2, (r.upd n v).ok = o2 := ⟨_, rfl⟩
      obtain ⟨o2, ho2⟩ := ho2
      cases hk1 : (decide ((2 : Int) ≤ (n : Int)) && decide ((n : Int) ≤ 6)) <;> cases hk2 : (decide ((0 : Int) ≤ v) && decide (v ≤ 1)) <;> rw [hk1, hk2] at hso <;> cases o2
      · rw [setV_out n Hok.out rfl (by rw [ho2, Bool.and_false])]; exact spec_set_ff0 r _ s' v n v0 v1 v2 v3 v4 v5 v6 v7 v8 _ hn9 Hok.out HI.out hset hupd hx hk1 hk2 ho2 w
      · rw [setV_in n Hok.out rfl (by rw [ho2, Bool.and_true]; revert hso; cases setOk n v <;> decide)]; exact spec_set_ff1 r _ s' v n v0 v1 v2 v3 v4 v5 v6 v7 v8 _ hn9 Hok.out HI.out hset hupd hx hk1 hk2 ho2 w
      · rw [setV_out n Hok.out rfl (by rw [ho2, Bool.and_false])]; exact spec_set_ft0 r _ s' v n v0 v1 v2 v3 v4 v5 v6 v7 v8 _ hn9 Hok.out HI.out hset hupd hx hk1 hk2 ho2 w
      · rw [setV_in n Hok.out rfl (by rw [ho2, Bool.and_true]; revert hso; cases setOk n v <;> decide)]; exact spec_set_ft1 r _ s' v n v0 v1 v2 v3 v4 v5 v6 v7 v8 _ hn9 Hok.out HI.out hset hupd hx hk1 hk2 ho2 w
      · rw [setV_out n Hok.out rfl (by rw [ho2, Bool.and_false])]; exact spec_set_tf r _ s' v n v0 v1 v2 v3 v4 v5 v6 v7 v8 _ hn9 Hok.out HI.out hset hupd hx hk1 hk2 w
      · rw [setV_out n Hok.out rfl (by rw [ho2, Bool.and_true]; revert hso; cases setOk n v <;> decide)]; exact spec_set_tf r _ s' v n v0 v1 v2 v3 v4 v5 v6 v7 v8 _ hn9 Hok.out HI.out hset hupd hx hk1 hk2 w
      · rw [setV_out n Hok.out rfl (by rw [ho2, Bool.and_false])]; exact spec_set_tt0 r _ s' v n v0 v1 v2 v3 v4 v5 v6 v7 v8 _ hn9 Hok.out HI.out hset hupd hx hk1 hk2 ho2 w
      · rw [setV_in n Hok.out rfl (by rw [ho2, Bool.and_true]; revert hso; cases setOk n v <;> decide)]; exact spec_set_tt1 r _ s' v n v0 v1 v2 v3 v4 v5 v6 v7 v8 _ hn9 Hok.out HI.out hset hupd hx hk1 hk2 ho2 w
end Go.Proofs.YtihbaehfgjkajaaDoor
