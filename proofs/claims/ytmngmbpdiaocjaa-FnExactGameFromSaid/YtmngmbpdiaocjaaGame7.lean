/- A new play of the program. No conditions. -/
import Derived.Test.YtmngmbpdiaocjaaGame6
namespace Go.Proofs.Ytmngmbpdiaocjaa
open Go.Joins Go.ChangeShapes Go.WideShapes Go.ChangeAt Go.RowKit Go.Deep
set_option linter.unusedVariables false

theorem there18 (v : World) (T : TypeId) : (v.alloc (.cells #[.int .i64 0, .int .i64 0, .bool false, .bool false, .bool false, .bool false, .bool false, .int .i64 0, .int .i64 0, .slice none 0 0, .slice none 0 0, .int .i64 0, .slice none 0 0, .slice none 0 0, .slice none 0 0, .int .i64 0, .int .i64 0, .slice none 0 0] T)).there v.heap.size 0 18 := fun j hj => by
  match j, hj with
  | 0, _ => exact ⟨by go_simp, by go_simp⟩
  | 1, _ => exact ⟨by go_simp, by go_simp⟩
  | 2, _ => exact ⟨by go_simp, by go_simp⟩
  | 3, _ => exact ⟨by go_simp, by go_simp⟩
  | 4, _ => exact ⟨by go_simp, by go_simp⟩
  | 5, _ => exact ⟨by go_simp, by go_simp⟩
  | 6, _ => exact ⟨by go_simp, by go_simp⟩
  | 7, _ => exact ⟨by go_simp, by go_simp⟩
  | 8, _ => exact ⟨by go_simp, by go_simp⟩
  | 9, _ => exact ⟨by go_simp, by go_simp⟩
  | 10, _ => exact ⟨by go_simp, by go_simp⟩
  | 11, _ => exact ⟨by go_simp, by go_simp⟩
  | 12, _ => exact ⟨by go_simp, by go_simp⟩
  | 13, _ => exact ⟨by go_simp, by go_simp⟩
  | 14, _ => exact ⟨by go_simp, by go_simp⟩
  | 15, _ => exact ⟨by go_simp, by go_simp⟩
  | 16, _ => exact ⟨by go_simp, by go_simp⟩
  | 17, _ => exact ⟨by go_simp, by go_simp⟩
  | n + 18, h => exact absurd h (by omega)
/-- A variable of 18 cells. -/
structure Th18 (u : World) (z : Nat) : Prop where
  lt : z < u.heap.size
  th : u.there z 0 18
theorem Th18.below {u v : World} {z : Nat} (h : Th18 u z) (k : Below u.heap.size u v) : Th18 v z := ⟨Nat.lt_of_lt_of_le h.lt k.size, there_of h.th h.lt k⟩
/-- A new play. -/
def NewP (p s c l : Int) (st sk re fe ag : Bool) (qn1 qn2 : Nat) (qp : Int) (xs ys : List Int) (w : World) (e : Ending) (w' : World) : Prop :=
  ∃ g1 c1 g2 c2 g4 c4 g5 c5 : Nat, e = .returned (.agg #[.int .i64 p, .int .i64 s, .bool st, .bool sk, .bool re, .bool fe, .bool ag, .int .i64 c, .int .i64 l, .slice (some ⟨g1, 0, none⟩) qn1 c1, .slice (some ⟨g2, 0, none⟩) qn2 c2, .int .i64 qp, .slice none 0 0, .slice (some ⟨g4, 0, none⟩) qn1 c4, .slice (some ⟨g5, 0, none⟩) qn2 c5, .int .i64 qp, .int .i64 (-1), .slice none 0 0]) ∧ NewR w w' g1 g2 g4 g5 qn1 qn2 xs ys
theorem pl_one (p s c l qp : Int) (st sk re fe ag : Bool) (g1 c1 g2 c2 g4 c4 g5 c5 qn1 qn2 : Nat) : (List.toArray ([.int .i64 p, .int .i64 s, .bool st, .bool sk, .bool re, .bool fe, .bool ag, .int .i64 c, .int .i64 l, .slice (some ⟨g1, 0, none⟩) qn1 c1, .slice (some ⟨g2, 0, none⟩) qn2 c2, .int .i64 qp, .slice none 0 0, .slice (some ⟨g4, 0, none⟩) qn1 c4, .slice (some ⟨g5, 0, none⟩) qn2 c5, .int .i64 qp, .int .i64 (-1), .slice none 0 0] : List Value)).all (·.oneCell') = true := all_oneCell_toArray (by simp [Value.oneCell'])
set_option maxHeartbeats 4000000 in
set_option maxRecDepth 100000 in
theorem beginPlay_any (p s c l : Int) (st sk re fe ag : Bool) (q1 q2 : Option Addr) (qn1 qc1 qn2 qc2 : Nat) (qp : Int) (xs ys : List Int) (w : World) (h : PosR w q1 q2 qn1 qn2 xs ys) (hne1 : xs ≠ []) (hne2 : ys ≠ []) :
    Calls Try.prog 39 #[.agg #[.int .i64 p, .int .i64 s, .bool st, .bool sk, .bool re, .bool fe, .bool ag, .int .i64 c, .int .i64 l], .agg #[.slice q1 qn1 qc1, .slice q2 qn2 qc2, .int .i64 qp]] w (NewP p s c l st sk re fe ag qn1 qn2 qp xs ys w) := by
  have H := Lib.hid h
  have HN := Lib.hid (And.intro hne1 hne2)
  have hs := rp_new p s c l st sk re fe ag q1 q2 qn1 qc1 qn2 qc2 qp w 31 32
  have hth := there18 ((w.alloc (.cells #[.int .i64 p, .int .i64 s, .bool st, .bool sk, .bool re, .bool fe, .bool ag, .int .i64 c, .int .i64 l] 31)).alloc (.cells #[.slice q1 qn1 qc1, .slice q2 qn2 qc2, .int .i64 qp] 32)) 58
  have hbz := al1 ((w.alloc (.cells #[.int .i64 p, .int .i64 s, .bool st, .bool sk, .bool re, .bool fe, .bool ag, .int .i64 c, .int .i64 l] 31)).alloc (.cells #[.slice q1 qn1 qc1, .slice q2 qn2 qc2, .int .i64 qp] 32)) (.cells #[.int .i64 0, .int .i64 0, .bool false, .bool false, .bool false, .bool false, .bool false, .int .i64 0, .int .i64 0, .slice none 0 0, .slice none 0 0, .int .i64 0, .slice none 0 0, .slice none 0 0, .slice none 0 0, .int .i64 0, .int .i64 0, .slice none 0 0] 58)
  have hsz : ((w.alloc (.cells #[.int .i64 p, .int .i64 s, .bool st, .bool sk, .bool re, .bool fe, .bool ag, .int .i64 c, .int .i64 l] 31)).alloc (.cells #[.slice q1 qn1 qc1, .slice q2 qn2 qc2, .int .i64 qp] 32)).heap.size = w.heap.size + 1 + 1 := by simp
  rw [hsz] at hth
  have HR := Lib.hid (hs.1.below hbz)
  have HP := Lib.hid (hs.2.1.below hbz)
  have HB := Lib.hid (hs.2.2.trans (hbz.mono hs.2.2.size))
  have HG : Hid (Th18 (((w.alloc (.cells #[.int .i64 p, .int .i64 s, .bool st, .bool sk, .bool re, .bool fe, .bool ag, .int .i64 c, .int .i64 l] 31)).alloc (.cells #[.slice q1 qn1 qc1, .slice q2 qn2 qc2, .int .i64 qp] 32)).alloc (.cells #[.int .i64 0, .int .i64 0, .bool false, .bool false, .bool false, .bool false, .bool false, .int .i64 0, .int .i64 0, .slice none 0 0, .slice none 0 0, .int .i64 0, .slice none 0 0, .slice none 0 0, .slice none 0 0, .int .i64 0, .int .i64 0, .slice none 0 0] 58)) (w.heap.size + 1 + 1)) := Lib.hid ⟨by simp, hth⟩
  have hw1 : w.heap.size + 1 + 1 < (((w.alloc (.cells #[.int .i64 p, .int .i64 s, .bool st, .bool sk, .bool re, .bool fe, .bool ag, .int .i64 c, .int .i64 l] 31)).alloc (.cells #[.slice q1 qn1 qc1, .slice q2 qn2 qc2, .int .i64 qp] 32)).alloc (.cells #[.int .i64 0, .int .i64 0, .bool false, .bool false, .bool false, .bool false, .bool false, .int .i64 0, .int .i64 0, .slice none 0 0, .slice none 0 0, .int .i64 0, .slice none 0 0, .slice none 0 0, .slice none 0 0, .int .i64 0, .int .i64 0, .slice none 0 0] 58)).heap.size := by simp
  clear h hne1 hne2 hs hth hbz hsz
  go_enter Try.func39, Try.ntmps39
  go_upto_region 1 with fail
  generalize hU : ((w.alloc (.cells #[.int .i64 p, .int .i64 s, .bool st, .bool sk, .bool re, .bool fe, .bool ag, .int .i64 c, .int .i64 l] 31)).alloc (.cells #[.slice q1 qn1 qc1, .slice q2 qn2 qc2, .int .i64 qp] 32)).alloc (.cells #[.int .i64 0, .int .i64 0, .bool false, .bool false, .bool false, .bool false, .bool false, .int .i64 0, .int .i64 0, .slice none 0 0, .slice none 0 0, .int .i64 0, .slice none 0 0, .slice none 0 0, .slice none 0 0, .int .i64 0, .int .i64 0, .slice none 0 0] 58) = U at *
  clear hU
  refine wp_region_held_drew (S := fun u => u.rangeAt w.heap.size 0 [.int .i64 p, .int .i64 s, .bool st, .bool sk, .bool re, .bool fe, .bool ag, .int .i64 c, .int .i64 l] ∧ u.rangeAt (w.heap.size + 1) 0 [.slice q1 qn1 qc1, .slice q2 qn2 qc2, .int .i64 qp]) (by kernel_rfl) ⟨RuAt.range9 HR.out, PoAt.range3 HP.out⟩ (fun hHeld => ?_)
  have HR := Lib.hid (HR.out.below (below_dn (Below.refl _ _) 1))
  have HP := Lib.hid (HP.out.below (below_dn (Below.refl _ _) 1))
  have HB := Lib.hid (below_dn HB.out 1)
  have HG := Lib.hid (HG.out.below (below_dn (Below.refl _ _) 1))
  refine wpAnyH_take (i := 0) rfl (by kernel_rfl) (by kernel_rfl) (by kernel_rfl) (fun _ _ _ h => h) (yieldsIf_load_mid (by rfl) 31 _ rfl w.heap.size 0 rfl [.int .i64 p, .int .i64 s, .bool st, .bool sk, .bool re, .bool fe, .bool ag, .int .i64 c, .int .i64 l] _ (fun u hu => hu.1) Try.underlying31 rfl (by kernel_rfl)) hHeld ?_
  simp only [Act.put, List.setIfInBounds_toArray]
  refine wpAnyH_take (i := 1) rfl (by kernel_rfl) (by kernel_rfl) (by kernel_rfl) (fun _ _ _ h => h) (yieldsIf_load_mid (by rfl) 32 _ rfl (w.heap.size + 1) 0 rfl [.slice q1 qn1 qc1, .slice q2 qn2 qc2, .int .i64 qp] _ (fun u hu => hu.2) Try.underlying32 rfl (by kernel_rfl)) hHeld ?_
  simp only [Act.put]
  refine wpAnyH_take (i := 3) rfl (by kernel_rfl) (by kernel_rfl) (by kernel_rfl) (fun _ _ _ h => h) (yieldsIf_load_mid (by rfl) 32 _ rfl (w.heap.size + 1) 0 rfl [.slice q1 qn1 qc1, .slice q2 qn2 qc2, .int .i64 qp] _ (fun u hu => hu.2) Try.underlying32 rfl (by kernel_rfl)) hHeld ?_
  simp only [Act.put]
  refine wpAnyH_ready (rs := [2]) (by kernel_rfl) (by simp) ?_
  refine AllReadyH.cons rfl (fun K hK => ?_) AllReadyH.nil
  rw [if_pos (by rfl)]
  go_simp
  go_at_call 59
  refine (copy_any q1 q2 qn1 qc1 qn2 qc2 qp xs ys _ (H.out.below HB.out) HN.out.1 HN.out.2).mono ?_
  rintro e w2 ⟨g1, c1, g2, c2, rfl, ho, lg, lh, lc, ld, hb⟩
  have HR := Lib.hid (HR.out.below hb)
  have HP := Lib.hid (HP.out.below hb)
  have HG := Lib.hid (HG.out.below hb)
  have HB := Lib.hid (HB.out.trans (hb.mono HB.out.size))
  have O1 := Lib.hid ho
  have O1l := Lib.hid (And.intro lg (And.intro lh (And.intro lc ld)))
  clear hb ho lg lh lc ld
  (try dsimp only)
  refine hK.out _ _ ⟨RuAt.range9 HR.out, PoAt.range3 HP.out⟩ (fun hHeld => ?_)
  clear hK K
  (try simp only [Act.put, List.setIfInBounds_toArray, List.set_cons_zero, List.set_cons_succ])
  refine wpAnyH_ready (rs := [4]) (by kernel_rfl) (by simp) ?_
  refine AllReadyH.cons rfl (fun K hK => ?_) AllReadyH.nil
  rw [if_pos (by rfl)]
  go_simp
  go_at_call 59
  refine (copy_any q1 q2 qn1 qc1 qn2 qc2 qp xs ys _ (H.out.below HB.out) HN.out.1 HN.out.2).mono ?_
  rintro e w4 ⟨g4, c4, g5, c5, rfl, ho, lg, lh, lc, ld, hb⟩
  have HR := Lib.hid (HR.out.below hb)
  have HP := Lib.hid (HP.out.below hb)
  have HG := Lib.hid (HG.out.below hb)
  have O1 := Lib.hid (O1.out.below hb)
  have HB := Lib.hid (HB.out.trans (hb.mono HB.out.size))
  have O2 := Lib.hid ho
  have O2l := Lib.hid (And.intro lg (And.intro lh (And.intro lc ld)))
  clear hb ho lg lh lc ld
  (try dsimp only)
  refine hK.out _ _ ⟨RuAt.range9 HR.out, PoAt.range3 HP.out⟩ (fun hHeld => ?_)
  clear hK K
  (try simp only [Act.put, List.setIfInBounds_toArray, List.set_cons_zero, List.set_cons_succ])
  refine wpAnyH_take (i := 5) (oi := { dst := some 10, op := Op.build 34 #[(0, Operand.tmp 5), (1, Operand.tmp 7), (3, Operand.tmp 9), (4, Operand.const (Value.int IntKind.i64 (-1)))], type := 34, pos := "l08_games.go:32", after := #[{ on := 0, ground := Ground.data }, { on := 2, ground := Ground.data }, { on := 4, ground := Ground.data }], guard := none }) (v := .agg #[.int .i64 p, .int .i64 s, .bool st, .bool sk, .bool re, .bool fe, .bool ag, .int .i64 c, .int .i64 l, .slice (some ⟨g1, 0, none⟩) qn1 c1, .slice (some ⟨g2, 0, none⟩) qn2 c2, .int .i64 qp, .slice none 0 0, .slice (some ⟨g4, 0, none⟩) qn1 c4, .slice (some ⟨g5, 0, none⟩) qn2 c5, .int .i64 qp, .int .i64 (-1)]) rfl (by kernel_rfl) (by kernel_rfl) (by kernel_rfl) (fun _ _ _ h => h) (.inl ⟨by rfl, fun u hu => by (try dsimp only at hu); go_simp; try with_reducible rfl⟩) hHeld ?_
  simp only [Act.put, List.setIfInBounds_toArray, List.set_cons_zero, List.set_cons_succ]
  refine wpAnyH_take (i := 6) (oi := { dst := some 11, op := Op.build 58 #[(0, Operand.tmp 10)], type := 58, pos := "l08_games.go:32", after := #[{ on := 5, ground := Ground.data }], guard := none }) (v := .agg #[.int .i64 p, .int .i64 s, .bool st, .bool sk, .bool re, .bool fe, .bool ag, .int .i64 c, .int .i64 l, .slice (some ⟨g1, 0, none⟩) qn1 c1, .slice (some ⟨g2, 0, none⟩) qn2 c2, .int .i64 qp, .slice none 0 0, .slice (some ⟨g4, 0, none⟩) qn1 c4, .slice (some ⟨g5, 0, none⟩) qn2 c5, .int .i64 qp, .int .i64 (-1), .slice none 0 0]) rfl (by kernel_rfl) (by kernel_rfl) (by kernel_rfl) (fun _ _ _ h => h) (.inl ⟨by rfl, fun u hu => by (try dsimp only at hu); go_simp; try with_reducible rfl⟩) hHeld ?_
  simp only [Act.put, List.setIfInBounds_toArray, List.set_cons_zero, List.set_cons_succ]
  refine wpAnyH_ready (rs := [7]) (by kernel_rfl) (by simp) ?_
  refine AllReadyH.cons rfl (fun K hK => ?_) AllReadyH.nil
  rw [if_pos (by rfl)]
  refine wp_store_mid 58 _ _ rfl (w.heap.size + 1 + 1) 0 (List.toArray [.int .i64 p, .int .i64 s, .bool st, .bool sk, .bool re, .bool fe, .bool ag, .int .i64 c, .int .i64 l, .slice (some ⟨g1, 0, none⟩) qn1 c1, .slice (some ⟨g2, 0, none⟩) qn2 c2, .int .i64 qp, .slice none 0 0, .slice (some ⟨g4, 0, none⟩) qn1 c4, .slice (some ⟨g5, 0, none⟩) qn2 c5, .int .i64 qp, .int .i64 (-1), .slice none 0 0]) rfl rfl HG.out.th (by kernel_rfl) (pl_one p s c l qp st sk re fe ag g1 c1 g2 c2 g4 c4 g5 c5 qn1 qn2) ?_
  simp only [Act.put, List.setIfInBounds_toArray]
  refine hK.out _ _ ⟨RuAt.range9 (HR.out.but (but_scg (w.heap.size + 1 + 1) [.int .i64 p, .int .i64 s, .bool st, .bool sk, .bool re, .bool fe, .bool ag, .int .i64 c, .int .i64 l, .slice (some ⟨g1, 0, none⟩) qn1 c1, .slice (some ⟨g2, 0, none⟩) qn2 c2, .int .i64 qp, .slice none 0 0, .slice (some ⟨g4, 0, none⟩) qn1 c4, .slice (some ⟨g5, 0, none⟩) qn2 c5, .int .i64 qp, .int .i64 (-1), .slice none 0 0] 0 (But.refl _ _)) (by omega)), PoAt.range3 (HP.out.but (but_scg (w.heap.size + 1 + 1) [.int .i64 p, .int .i64 s, .bool st, .bool sk, .bool re, .bool fe, .bool ag, .int .i64 c, .int .i64 l, .slice (some ⟨g1, 0, none⟩) qn1 c1, .slice (some ⟨g2, 0, none⟩) qn2 c2, .int .i64 qp, .slice none 0 0, .slice (some ⟨g4, 0, none⟩) qn1 c4, .slice (some ⟨g5, 0, none⟩) qn2 c5, .int .i64 qp, .int .i64 (-1), .slice none 0 0] 0 (But.refl _ _)) (by omega))⟩ (fun hHeld => ?_)
  clear hK K
  (try simp only [Act.put, List.setIfInBounds_toArray, List.set_cons_zero, List.set_cons_succ])
  refine wpAnyH_done (by kernel_rfl) ?_ _
  go_wp2_with fail
  have hrun := run_loadVar_mid (P := Try.prog) _ (w.heap.size + 1 + 1) 0 58 [.int .i64 p, .int .i64 s, .bool st, .bool sk, .bool re, .bool fe, .bool ag, .int .i64 c, .int .i64 l, .slice (some ⟨g1, 0, none⟩) qn1 c1, .slice (some ⟨g2, 0, none⟩) qn2 c2, .int .i64 qp, .slice none 0 0, .slice (some ⟨g4, 0, none⟩) qn1 c4, .slice (some ⟨g5, 0, none⟩) qn2 c5, .int .i64 qp, .int .i64 (-1), .slice none 0 0] _ (World.rangeAt_setCells_same w4 (w.heap.size + 1 + 1) 0 [.int .i64 p, .int .i64 s, .bool st, .bool sk, .bool re, .bool fe, .bool ag, .int .i64 c, .int .i64 l, .slice (some ⟨g1, 0, none⟩) qn1 c1, .slice (some ⟨g2, 0, none⟩) qn2 c2, .int .i64 qp, .slice none 0 0, .slice (some ⟨g4, 0, none⟩) qn1 c4, .slice (some ⟨g5, 0, none⟩) qn2 c5, .int .i64 qp, .int .i64 (-1), .slice none 0 0] HG.out.th) Try.underlying58 rfl (by kernel_rfl)
  have o1 : U.heap.size ≤ g1 := O1.out.o1.new
  have o2 : U.heap.size ≤ g2 := O1.out.o2.new
  have o4 := O2.out.o1.new
  have o5 := O2.out.o2.new
  obtain ⟨p1, p2, -, -⟩ := O1l.out
  obtain ⟨p4, p5, -, -⟩ := O2l.out
  refine bodyPost_ret (v := .agg (List.toArray [.int .i64 p, .int .i64 s, .bool st, .bool sk, .bool re, .bool fe, .bool ag, .int .i64 c, .int .i64 l, .slice (some ⟨g1, 0, none⟩) qn1 c1, .slice (some ⟨g2, 0, none⟩) qn2 c2, .int .i64 qp, .slice none 0 0, .slice (some ⟨g4, 0, none⟩) qn1 c4, .slice (some ⟨g5, 0, none⟩) qn2 c5, .int .i64 qp, .int .i64 (-1), .slice none 0 0])) ?_ rfl ⟨g1, c1, g2, c2, g4, c4, g5, c5, rfl, NewR.sc (w.heap.size + 1 + 1) _ 0 ⟨O1.out.lower (show w.heap.size ≤ U.heap.size by omega), O2.out.lower (by omega), ?_, ?_, O2l.out.1, O2l.out.2.1, ?_, ?_, ?_, ?_, HB.out⟩ (by omega) (by omega) (by omega) (by omega) (by omega)⟩
  · simp [results, Try.results39, asAddr, hrun]
  all_goals omega
end Go.Proofs.Ytmngmbpdiaocjaa
