/- A new game: the reference's and the program's. No conditions. -/
import Derived.Test.YtmngmbpdiaocjaaGame5
import Derived.Test.YtmngmbpdiaocjaaView4
namespace Go.Proofs.Ytmngmbpdiaocjaa
open Go.Joins Go.ChangeShapes Go.WideShapes Go.ChangeAt Go.RowKit Go.Deep
set_option linter.unusedVariables false

theorem RuAt.range9 {u : World} {b : Nat} {p s c l : Int} {st sk re fe ag : Bool} (h : RuAt u b p s c l st sk re fe ag) : u.rangeAt b 0 [.int .i64 p, .int .i64 s, .bool st, .bool sk, .bool re, .bool fe, .bool ag, .int .i64 c, .int .i64 l] := by
  obtain ⟨_, m0, m1, m2, m3, m4, m5, m6, m7, m8⟩ := h
  intro j x hj
  match j, hj with
  | 0, hj => cases hj; exact m0
  | 1, hj => cases hj; exact m1
  | 2, hj => cases hj; exact m2
  | 3, hj => cases hj; exact m3
  | 4, hj => cases hj; exact m4
  | 5, hj => cases hj; exact m5
  | 6, hj => cases hj; exact m6
  | 7, hj => cases hj; exact m7
  | 8, hj => cases hj; exact m8
  | n + 9, hj => simp at hj
theorem PoAt.range3 {u : World} {b : Nat} {q1 q2 : Option Addr} {qn1 qc1 qn2 qc2 : Nat} {qp : Int} (h : PoAt u b q1 q2 qn1 qc1 qn2 qc2 qp) : u.rangeAt b 0 [.slice q1 qn1 qc1, .slice q2 qn2 qc2, .int .i64 qp] := by
  obtain ⟨_, m0, m1, m2⟩ := h
  intro j x hj
  match j, hj with
  | 0, hj => cases hj; exact m0
  | 1, hj => cases hj; exact m1
  | 2, hj => cases hj; exact m2
  | n + 3, hj => simp at hj
/-- The rows of a new game. -/
structure NewR (w w' : World) (g1 g2 g4 g5 qn1 qn2 : Nat) (xs ys : List Int) : Prop where
  s : PosO w' w.heap.size (some ⟨g1, 0, none⟩) (some ⟨g2, 0, none⟩) g1 g2 qn1 qn2 xs ys
  n : PosO w' w.heap.size (some ⟨g4, 0, none⟩) (some ⟨g5, 0, none⟩) g4 g5 qn1 qn2 xs ys
  l1 : g1 < w'.heap.size
  l2 : g2 < w'.heap.size
  l4 : g4 < w'.heap.size
  l5 : g5 < w'.heap.size
  n14 : g1 ≠ g4
  n15 : g1 ≠ g5
  n24 : g2 ≠ g4
  n25 : g2 ≠ g5
  be : Below w.heap.size w w'
/-- A new game. -/
def NewG (p s c l : Int) (st sk re fe ag : Bool) (qn1 qn2 : Nat) (qp : Int) (xs ys : List Int) (w : World) (e : Ending) (w' : World) : Prop :=
  ∃ g1 c1 g2 c2 g4 c4 g5 c5 : Nat, e = .returned (.agg #[.int .i64 p, .int .i64 s, .bool st, .bool sk, .bool re, .bool fe, .bool ag, .int .i64 c, .int .i64 l, .slice (some ⟨g1, 0, none⟩) qn1 c1, .slice (some ⟨g2, 0, none⟩) qn2 c2, .int .i64 qp, .slice none 0 0, .slice (some ⟨g4, 0, none⟩) qn1 c4, .slice (some ⟨g5, 0, none⟩) qn2 c5, .int .i64 qp, .int .i64 (-1)]) ∧ NewR w w' g1 g2 g4 g5 qn1 qn2 xs ys
theorem NewR.sc {w u : World} {g1 g2 g4 g5 qn1 qn2 : Nat} {xs ys : List Int} (z : Nat) (vs : List Value) (o : Nat) (h : NewR w u g1 g2 g4 g5 qn1 qn2 xs ys) (hz : w.heap.size ≤ z) (m1 : g1 ≠ z) (m2 : g2 ≠ z) (m4 : g4 ≠ z) (m5 : g5 ≠ z) : NewR w (u.setCells z o vs) g1 g2 g4 g5 qn1 qn2 xs ys := by
  have k := but_scg (a := u) z vs o (But.refl z u)
  have e := size_scg z vs o u
  exact ⟨h.s.but k m1 m2, h.n.but k m4 m5, e ▸ h.l1, e ▸ h.l2, e ▸ h.l4, e ▸ h.l5, h.n14, h.n15, h.n24, h.n25, below_scg z hz vs o h.be⟩
theorem new_one (p s c l qp : Int) (st sk re fe ag : Bool) (g1 c1 g2 c2 g4 c4 g5 c5 qn1 qn2 : Nat) : (List.toArray ([.int .i64 p, .int .i64 s, .bool st, .bool sk, .bool re, .bool fe, .bool ag, .int .i64 c, .int .i64 l, .slice (some ⟨g1, 0, none⟩) qn1 c1, .slice (some ⟨g2, 0, none⟩) qn2 c2, .int .i64 qp, .slice none 0 0, .slice (some ⟨g4, 0, none⟩) qn1 c4, .slice (some ⟨g5, 0, none⟩) qn2 c5, .int .i64 qp, .int .i64 (-1)] : List Value)).all (·.oneCell') = true := all_oneCell_toArray (by simp [Value.oneCell'])
theorem there_of {u v : World} {z n : Nat} (h : u.there z 0 n) (hz : z < u.heap.size) (k : Below u.heap.size u v) : v.there z 0 n := fun j hj => by
  obtain ⟨h1, h2⟩ := h j hj
  exact ⟨by rw [k.cell (p := ⟨z, 0 + j, none⟩) hz]; exact h1, (k.frozen (p := ⟨z, 0 + j, none⟩) hz).trans h2⟩
set_option maxHeartbeats 4000000 in
set_option maxRecDepth 100000 in
theorem l08New_any (p s c l : Int) (st sk re fe ag : Bool) (q1 q2 : Option Addr) (qn1 qc1 qn2 qc2 : Nat) (qp : Int) (b d : Nat) (xs ys : List Int) (w : World) (hr : RuAt w b p s c l st sk re fe ag) (hp : PoAt w d q1 q2 qn1 qc1 qn2 qc2 qp) (h : PosR w q1 q2 qn1 qn2 xs ys) (hne1 : xs ≠ []) (hne2 : ys ≠ []) :
    Calls Try.prog 37 #[.pointer (some ⟨b, 0, none⟩), .pointer (some ⟨d, 0, none⟩)] w (NewG p s c l st sk re fe ag qn1 qn2 qp xs ys w) := by
  have H := Lib.hid h
  have HN := Lib.hid (And.intro hne1 hne2)
  have HR := Lib.hid (hr.below (al1 w (.cells #[.int .i64 0, .int .i64 0, .bool false, .bool false, .bool false, .bool false, .bool false, .int .i64 0, .int .i64 0, .slice none 0 0, .slice none 0 0, .int .i64 0, .slice none 0 0, .slice none 0 0, .slice none 0 0, .int .i64 0, .int .i64 0] 34)))
  have HP := Lib.hid (hp.below (al1 w (.cells #[.int .i64 0, .int .i64 0, .bool false, .bool false, .bool false, .bool false, .bool false, .int .i64 0, .int .i64 0, .slice none 0 0, .slice none 0 0, .int .i64 0, .slice none 0 0, .slice none 0 0, .slice none 0 0, .int .i64 0, .int .i64 0] 34)))
  have HB := Lib.hid (al1 w (.cells #[.int .i64 0, .int .i64 0, .bool false, .bool false, .bool false, .bool false, .bool false, .int .i64 0, .int .i64 0, .slice none 0 0, .slice none 0 0, .int .i64 0, .slice none 0 0, .slice none 0 0, .slice none 0 0, .int .i64 0, .int .i64 0] 34))
  have HG := Lib.hid (g17_new w 34)
  have hbz : b ≠ w.heap.size := by have := hr.1; omega
  have hw1 : w.heap.size < (w.alloc (.cells #[.int .i64 0, .int .i64 0, .bool false, .bool false, .bool false, .bool false, .bool false, .int .i64 0, .int .i64 0, .slice none 0 0, .slice none 0 0, .int .i64 0, .slice none 0 0, .slice none 0 0, .slice none 0 0, .int .i64 0, .int .i64 0] 34)).heap.size := by simp
  clear h hr hp hne1 hne2
  go_enter Try.func37, Try.ntmps37
  go_upto_region 1 with fail
  generalize hU : w.alloc (.cells #[.int .i64 0, .int .i64 0, .bool false, .bool false, .bool false, .bool false, .bool false, .int .i64 0, .int .i64 0, .slice none 0 0, .slice none 0 0, .int .i64 0, .slice none 0 0, .slice none 0 0, .slice none 0 0, .int .i64 0, .int .i64 0] 34) = U at *
  clear hU
  refine wp_region_held_drew (S := fun u => u.rangeAt b 0 [.int .i64 p, .int .i64 s, .bool st, .bool sk, .bool re, .bool fe, .bool ag, .int .i64 c, .int .i64 l]) (by kernel_rfl) (RuAt.range9 HR.out) (fun hHeld => ?_)
  have HR := Lib.hid (HR.out.below (below_dn (Below.refl _ _) 1))
  have HP := Lib.hid (HP.out.below (below_dn (Below.refl _ _) 1))
  have HB := Lib.hid (below_dn HB.out 1)
  have HG := Lib.hid (HG.out.below (below_dn (Below.refl _ _) 1))
  refine wpAnyH_take (i := 0) (oi := { dst := some 5, op := Op.move (Operand.tmp 0), type := 63, pos := "l08_games.go:38", after := #[], guard := none }) (v := .pointer (some ⟨b, 0, none⟩)) rfl (by kernel_rfl) (by kernel_rfl) (by kernel_rfl) (fun _ _ _ h => h) (.inl ⟨by rfl, fun u hu => by (try dsimp only at hu); go_simp; try with_reducible rfl⟩) hHeld ?_
  simp only [Act.put, List.setIfInBounds_toArray, List.set_cons_zero, List.set_cons_succ]
  refine wpAnyH_take (i := 1) (oi := { dst := some 6, op := Op.nilCheck (Operand.tmp 5), type := 0, pos := "l08_games.go:38", after := #[{ on := 0, ground := Ground.data }], guard := none }) (v := .pointer (some ⟨b, 0, none⟩)) rfl (by kernel_rfl) (by kernel_rfl) (by kernel_rfl) (fun _ _ _ h => h) (.inl ⟨by rfl, fun u hu => by (try dsimp only at hu); go_simp; try with_reducible rfl⟩) hHeld ?_
  simp only [Act.put, List.setIfInBounds_toArray, List.set_cons_zero, List.set_cons_succ]
  refine wpAnyH_take (i := 2) rfl (by kernel_rfl) (by kernel_rfl) (by kernel_rfl) (fun _ _ _ h => h) (yieldsIf_load_mid (by rfl) 31 _ rfl b 0 rfl [.int .i64 p, .int .i64 s, .bool st, .bool sk, .bool re, .bool fe, .bool ag, .int .i64 c, .int .i64 l] _ (fun u hu => hu) Try.underlying31 rfl (by kernel_rfl)) hHeld ?_
  simp only [Act.put, List.setIfInBounds_toArray]
  refine wpAnyH_take (i := 3) (oi := { dst := some 8, op := Op.move (Operand.tmp 1), type := 64, pos := "l08_games.go:38", after := #[], guard := none }) (v := .pointer (some ⟨d, 0, none⟩)) rfl (by kernel_rfl) (by kernel_rfl) (by kernel_rfl) (fun _ _ _ h => h) (.inl ⟨by rfl, fun u hu => by (try dsimp only at hu); go_simp; try with_reducible rfl⟩) hHeld ?_
  simp only [Act.put]
  refine wpAnyH_take (i := 5) (oi := { dst := some 10, op := Op.move (Operand.tmp 1), type := 64, pos := "l08_games.go:38", after := #[], guard := none }) (v := .pointer (some ⟨d, 0, none⟩)) rfl (by kernel_rfl) (by kernel_rfl) (by kernel_rfl) (fun _ _ _ h => h) (.inl ⟨by rfl, fun u hu => by (try dsimp only at hu); go_simp; try with_reducible rfl⟩) hHeld ?_
  simp only [Act.put]
  refine wpAnyH_ready (rs := [4]) (by kernel_rfl) (by simp) ?_
  refine AllReadyH.cons rfl (fun K hK => ?_) AllReadyH.nil
  rw [if_pos (by rfl)]
  go_simp
  go_at_call 55
  refine (l04Own_any q1 q2 qn1 qc1 qn2 qc2 qp xs ys d _ HP.out (H.out.below HB.out) HN.out.1 HN.out.2).mono ?_
  rintro e w4 ⟨g1, c1, g2, c2, rfl, ho, lg, lh, lc, ld, hb⟩
  have HR := Lib.hid (HR.out.below hb)
  have HP := Lib.hid (HP.out.below hb)
  have HG := Lib.hid (HG.out.below hb)
  have HB := Lib.hid (HB.out.trans (hb.mono HB.out.size))
  have O1 := Lib.hid ho
  have O1l := Lib.hid (And.intro lg (And.intro lh (And.intro lc ld)))
  clear hb ho lg lh lc ld
  (try dsimp only)
  refine hK.out _ _ (RuAt.range9 HR.out) (fun hHeld => ?_)
  clear hK K
  (try simp only [Act.put, List.setIfInBounds_toArray, List.set_cons_zero, List.set_cons_succ])
  refine wpAnyH_ready (rs := [6]) (by kernel_rfl) (by simp) ?_
  refine AllReadyH.cons rfl (fun K hK => ?_) AllReadyH.nil
  rw [if_pos (by rfl)]
  go_simp
  go_at_call 55
  refine (l04Own_any q1 q2 qn1 qc1 qn2 qc2 qp xs ys d _ HP.out (H.out.below HB.out) HN.out.1 HN.out.2).mono ?_
  rintro e w6 ⟨g4, c4, g5, c5, rfl, ho, lg, lh, lc, ld, hb⟩
  have HR := Lib.hid (HR.out.below hb)
  have HP := Lib.hid (HP.out.below hb)
  have HG := Lib.hid (HG.out.below hb)
  have O1 := Lib.hid (O1.out.below hb)
  have HB := Lib.hid (HB.out.trans (hb.mono HB.out.size))
  have O2 := Lib.hid ho
  have O2l := Lib.hid (And.intro lg (And.intro lh (And.intro lc ld)))
  clear hb ho lg lh lc ld
  (try dsimp only)
  refine hK.out _ _ (RuAt.range9 HR.out) (fun hHeld => ?_)
  clear hK K
  (try simp only [Act.put, List.setIfInBounds_toArray, List.set_cons_zero, List.set_cons_succ])
  refine wpAnyH_take (i := 7) (oi := { dst := some 12, op := Op.build 34 #[(0, Operand.tmp 7), (1, Operand.tmp 9), (3, Operand.tmp 11), (4, Operand.const (Value.int IntKind.i64 (-1)))], type := 34, pos := "l08_games.go:38", after := #[{ on := 2, ground := Ground.data }, { on := 4, ground := Ground.data }, { on := 6, ground := Ground.data }], guard := none }) (v := .agg #[.int .i64 p, .int .i64 s, .bool st, .bool sk, .bool re, .bool fe, .bool ag, .int .i64 c, .int .i64 l, .slice (some ⟨g1, 0, none⟩) qn1 c1, .slice (some ⟨g2, 0, none⟩) qn2 c2, .int .i64 qp, .slice none 0 0, .slice (some ⟨g4, 0, none⟩) qn1 c4, .slice (some ⟨g5, 0, none⟩) qn2 c5, .int .i64 qp, .int .i64 (-1)]) rfl (by kernel_rfl) (by kernel_rfl) (by kernel_rfl) (fun _ _ _ h => h) (.inl ⟨by rfl, fun u hu => by (try dsimp only at hu); go_simp; try with_reducible rfl⟩) hHeld ?_
  simp only [Act.put, List.setIfInBounds_toArray, List.set_cons_zero, List.set_cons_succ]
  refine wpAnyH_ready (rs := [8]) (by kernel_rfl) (by simp) ?_
  refine AllReadyH.cons rfl (fun K hK => ?_) AllReadyH.nil
  rw [if_pos (by rfl)]
  refine wp_store_mid 34 _ _ rfl w.heap.size 0 (List.toArray [.int .i64 p, .int .i64 s, .bool st, .bool sk, .bool re, .bool fe, .bool ag, .int .i64 c, .int .i64 l, .slice (some ⟨g1, 0, none⟩) qn1 c1, .slice (some ⟨g2, 0, none⟩) qn2 c2, .int .i64 qp, .slice none 0 0, .slice (some ⟨g4, 0, none⟩) qn1 c4, .slice (some ⟨g5, 0, none⟩) qn2 c5, .int .i64 qp, .int .i64 (-1)]) rfl rfl HG.out.there (by kernel_rfl) (new_one p s c l qp st sk re fe ag g1 c1 g2 c2 g4 c4 g5 c5 qn1 qn2) ?_
  simp only [Act.put, List.setIfInBounds_toArray]
  refine hK.out _ _ (RuAt.range9 (HR.out.but (but_scg w.heap.size [.int .i64 p, .int .i64 s, .bool st, .bool sk, .bool re, .bool fe, .bool ag, .int .i64 c, .int .i64 l, .slice (some ⟨g1, 0, none⟩) qn1 c1, .slice (some ⟨g2, 0, none⟩) qn2 c2, .int .i64 qp, .slice none 0 0, .slice (some ⟨g4, 0, none⟩) qn1 c4, .slice (some ⟨g5, 0, none⟩) qn2 c5, .int .i64 qp, .int .i64 (-1)] 0 (But.refl _ _)) hbz)) (fun hHeld => ?_)
  clear hK K
  (try simp only [Act.put, List.setIfInBounds_toArray, List.set_cons_zero, List.set_cons_succ])
  refine wpAnyH_done (by kernel_rfl) ?_ _
  go_wp2_with fail
  have hrun := run_loadVar_mid (P := Try.prog) _ w.heap.size 0 34 [.int .i64 p, .int .i64 s, .bool st, .bool sk, .bool re, .bool fe, .bool ag, .int .i64 c, .int .i64 l, .slice (some ⟨g1, 0, none⟩) qn1 c1, .slice (some ⟨g2, 0, none⟩) qn2 c2, .int .i64 qp, .slice none 0 0, .slice (some ⟨g4, 0, none⟩) qn1 c4, .slice (some ⟨g5, 0, none⟩) qn2 c5, .int .i64 qp, .int .i64 (-1)] _ (World.rangeAt_setCells_same w6 w.heap.size 0 [.int .i64 p, .int .i64 s, .bool st, .bool sk, .bool re, .bool fe, .bool ag, .int .i64 c, .int .i64 l, .slice (some ⟨g1, 0, none⟩) qn1 c1, .slice (some ⟨g2, 0, none⟩) qn2 c2, .int .i64 qp, .slice none 0 0, .slice (some ⟨g4, 0, none⟩) qn1 c4, .slice (some ⟨g5, 0, none⟩) qn2 c5, .int .i64 qp, .int .i64 (-1)] HG.out.there) Try.underlying34 rfl (by kernel_rfl)
  have o1 : U.heap.size ≤ g1 := O1.out.o1.new
  have o2 : U.heap.size ≤ g2 := O1.out.o2.new
  have o4 := O2.out.o1.new
  have o5 := O2.out.o2.new
  obtain ⟨p1, p2, -, -⟩ := O1l.out
  obtain ⟨p4, p5, -, -⟩ := O2l.out
  refine bodyPost_ret (v := .agg (List.toArray [.int .i64 p, .int .i64 s, .bool st, .bool sk, .bool re, .bool fe, .bool ag, .int .i64 c, .int .i64 l, .slice (some ⟨g1, 0, none⟩) qn1 c1, .slice (some ⟨g2, 0, none⟩) qn2 c2, .int .i64 qp, .slice none 0 0, .slice (some ⟨g4, 0, none⟩) qn1 c4, .slice (some ⟨g5, 0, none⟩) qn2 c5, .int .i64 qp, .int .i64 (-1)])) ?_ rfl ⟨g1, c1, g2, c2, g4, c4, g5, c5, rfl, NewR.sc w.heap.size _ 0 ⟨O1.out.lower (Nat.le_of_lt hw1), O2.out.lower (by omega), ?_, ?_, O2l.out.1, O2l.out.2.1, ?_, ?_, ?_, ?_, HB.out⟩ (Nat.le_refl _) (by omega) (by omega) (by omega) (by omega)⟩
  · simp [results, Try.results37, asAddr, hrun]
  all_goals omega
end Go.Proofs.Ytmngmbpdiaocjaa
