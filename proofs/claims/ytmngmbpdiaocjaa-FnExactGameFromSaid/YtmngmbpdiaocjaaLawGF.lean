/- The law on GameFrom. No conditions. -/
import Derived.Test.YtmngmbpdiaocjaaGh
namespace Go.Proofs.Ytmngmbpdiaocjaa
open Go.Joins Go.ChangeShapes Go.WideShapes Go.ChangeAt Go.RowKit Go.Deep
set_option linter.unusedVariables false
theorem OutN.frs {u v : World} {B b lo hi : Nat} {a : Option Addr} {xs : List Int} (h : OutN u B a b xs) (k : Fr lo hi u v) (h1 : lo ≤ b) (h2 : b < hi) : OutN v B a b xs := by
  refine ⟨?_, h.at_b, h.new, fun hn => ?_⟩
  · obtain ⟨hl, e | ⟨g, o, ha, hg, hx⟩⟩ := h.row
    · exact ⟨hl, .inl e⟩
    · have hgb := h.at_b g o ha
      exact ⟨hl, .inr ⟨g, o, ha, Nat.lt_of_lt_of_le hg k.size, fun i x hi => (World.cell?_of_block (a := ⟨g, o + i, none⟩) (k.blk g (by omega) (by omega) hg)).trans (hx i x hi)⟩⟩
  · obtain ⟨p1, p2⟩ := h.free hn
    exact ⟨Nat.lt_of_lt_of_le p1 k.size, fun o => (World.frozen?_of_block (a := ⟨b, o, none⟩) (k.blk b h1 h2 p1)).trans (p2 o)⟩
theorem PosO.frs {u v : World} {B b1 b2 n1 n2 lo hi : Nat} {a1 a2 : Option Addr} {xs ys : List Int} (h : PosO u B a1 a2 b1 b2 n1 n2 xs ys) (k : Fr lo hi u v) (h1 : lo ≤ b1) (h2 : b1 < hi) (h3 : lo ≤ b2) (h4 : b2 < hi) : PosO v B a1 a2 b1 b2 n1 n2 xs ys :=
  ⟨h.o1.frs k h1 h2, h.o2.frs k h3 h4, h.ne, h.l1, h.l2⟩
/-- A game of GameFrom over a valid position: four rows of its own. -/
def Gd (p s c l : Int) (st sk re fe ag : Bool) (n1 n2 : Nat) (qp : Int) (sx sy nx ny : List Int) (lo hi : Nat) (cs : List Value) (u : World) : Prop :=
  ∃ g1 c1 g2 c2 g4 c4 g5 c5 : Nat, cs = [.int .i64 p, .int .i64 s, .bool st, .bool sk, .bool re, .bool fe, .bool ag, .int .i64 c, .int .i64 l, .slice (some ⟨g1, 0, none⟩) n1 c1, .slice (some ⟨g2, 0, none⟩) n2 c2, .int .i64 qp, .slice none 0 0, .slice (some ⟨g4, 0, none⟩) n1 c4, .slice (some ⟨g5, 0, none⟩) n2 c5, .int .i64 qp, .int .i64 (-1)] ∧ PosO u lo (some ⟨g1, 0, none⟩) (some ⟨g2, 0, none⟩) g1 g2 n1 n2 sx sy ∧ PosO u lo (some ⟨g4, 0, none⟩) (some ⟨g5, 0, none⟩) g4 g5 n1 n2 nx ny ∧ (g1 < hi ∧ g2 < hi ∧ g4 < hi ∧ g5 < hi) ∧ (g1 ≠ g4 ∧ g1 ≠ g5 ∧ g2 ≠ g4 ∧ g2 ≠ g5) ∧ (lo < g1 ∧ lo < g2 ∧ lo < g4 ∧ lo < g5)
theorem gd_ok (p s c l : Int) (st sk re fe ag : Bool) (n1 n2 : Nat) (qp : Int) (sx sy nx ny : List Int) : GfOk (Gd p s c l st sk re fe ag n1 n2 qp sx sy nx ny) := by
  refine ⟨?_, ?_⟩
  · rintro lo hi cs u ⟨g1, c1, g2, c2, g4, c4, g5, c5, rfl, -⟩
    exact ⟨rfl, by simp [Value.oneCell']⟩
  · rintro lo hi cs u v ⟨g1, c1, g2, c2, g4, c4, g5, c5, rfl, o1, o2, hl, hd, hg⟩ k
    exact ⟨g1, c1, g2, c2, g4, c4, g5, c5, rfl, o1.frs k (by omega) (by omega) (by omega) (by omega), o2.frs k (by omega) (by omega) (by omega) (by omega), hl, hd, hg⟩
/-- The zero game, with room for three blocks. -/
def Gz (m lo hi : Nat) (cs : List Value) (u : World) : Prop := cs = [.int .i64 0, .int .i64 0, .bool false, .bool false, .bool false, .bool false, .bool false, .int .i64 0, .int .i64 0, .slice none 0 0, .slice none 0 0, .int .i64 0, .slice none 0 0, .slice none 0 0, .slice none 0 0, .int .i64 0, .int .i64 0] ∧ lo + m ≤ hi
theorem gz_ok (m : Nat) : GfOk (Gz m) := by
  refine ⟨?_, ?_⟩
  · rintro lo hi cs u ⟨rfl, -⟩
    exact ⟨rfl, by simp [Value.oneCell']⟩
  · rintro lo hi cs u v h -
    exact h
theorem eq_gd (p s c l : Int) (st sk re fe ag : Bool) (n1 n2 : Nat) (qp : Int) (sx sy nx ny : List Int) (l1 h1 l2 h2 : Nat) (c1 c2 : List Value) (w : World) (ha : Gd p s c l st sk re fe ag n1 n2 qp sx sy nx ny l1 h1 c1 w) (hb : Gd p s c l st sk re fe ag n1 n2 qp sx sy nx ny l2 h2 c2 w) : Calls Try.prog 12 #[.agg c1.toArray, .agg c2.toArray] w fun e w' => e = .returned (.bool true) ∧ Below w.heap.size w w' := by
  obtain ⟨g1, c1, g2, c2, g4, c4, g5, c5, rfl, o1, o2, -⟩ := ha
  obtain ⟨k1, d1, k2, d2, k4, d4, k5, d5, rfl, q1, q2, -⟩ := hb
  exact eqG_same p s c l st sk re fe ag (some ⟨g1, 0, none⟩) (some ⟨g2, 0, none⟩) n1 c1 n2 c2 qp none 0 0 (some ⟨g4, 0, none⟩) (some ⟨g5, 0, none⟩) n1 c4 n2 c5 qp (-1) (some ⟨k1, 0, none⟩) (some ⟨k2, 0, none⟩) d1 d2 none 0 (some ⟨k4, 0, none⟩) (some ⟨k5, 0, none⟩) d4 d5 sx sy [] nx ny w ⟨o1.r, rowN_nil _ _, rfl, o2.r⟩ ⟨q1.r, rowN_nil _ _, rfl, q2.r⟩
theorem eq_gz (m1 m2 l1 h1 l2 h2 : Nat) (c1 c2 : List Value) (w : World) (ha : Gz m1 l1 h1 c1 w) (hb : Gz m2 l2 h2 c2 w) : Calls Try.prog 12 #[.agg c1.toArray, .agg c2.toArray] w fun e w' => e = .returned (.bool true) ∧ Below w.heap.size w w' := by
  obtain ⟨rfl, -⟩ := ha
  obtain ⟨rfl, -⟩ := hb
  exact eqG_same 0 0 0 0 false false false false false none none 0 0 0 0 0 none 0 0 none none 0 0 0 0 0 0 none none 0 0 none 0 none none 0 0 [] [] [] [] [] w ⟨⟨rowN_nil _ _, rowN_nil _ _, rfl, rfl⟩, rowN_nil _ _, rfl, ⟨rowN_nil _ _, rowN_nil _ _, rfl, rfl⟩⟩ ⟨⟨rowN_nil _ _, rowN_nil _ _, rfl, rfl⟩, rowN_nil _ _, rfl, ⟨rowN_nil _ _, rowN_nil _ _, rfl, rfl⟩⟩
theorem mark_gd (p s c l : Int) (st sk re fe ag : Bool) (n1 n2 : Nat) (qp : Int) (sx sy nx ny : List Int) (hn1 : n1 ≤ 16) (hn2 : n2 ≤ 2) (lo hi z1 z2 : Nat) (cs : List Value) (w : World) (ha : Gd p s c l st sk re fe ag n1 n2 qp sx sy nx ny lo hi cs w) (hw : hi ≤ w.heap.size) : Calls Try.prog 20 #[.agg cs.toArray, .int .i64 1] w fun e w' => e = .returned (.int .i64 ((1 + n1 + n2 + 0 + n1 + n2 : Nat) : Int)) ∧ MkR (Gd p s c l st sk re fe ag n1 n2 qp (marksN 1 n1) (marksN (1 + n1) n2) (marksN (1 + n1 + n2 + 0) n1) (marksN (1 + n1 + n2 + 0 + n1) n2)) lo hi z1 z2 cs w w' := by
  obtain ⟨g1, c1, g2, c2, g4, c4, g5, c5, rfl, o1, o2, hl, hd, hg⟩ := ha
  refine (markG_any lo g1 g2 lo g4 g5 1 p s c l st sk re fe ag (some ⟨g1, 0, none⟩) (some ⟨g2, 0, none⟩) n1 c1 n2 c2 qp none 0 0 (some ⟨g4, 0, none⟩) (some ⟨g5, 0, none⟩) n1 c4 n2 c5 qp (-1) sx sy [] nx ny w ⟨o1, outN_noneG _ _ _ (Nat.le_refl _), rfl, o2⟩ ⟨by omega, by omega, by omega, by omega, by omega, by omega, by omega, by omega, by omega, by omega, by omega, by omega, by omega⟩ (by omega) (by omega) (by omega)).mono ?_
  rintro e w' ⟨rfl, k, q⟩
  exact ⟨rfl, ⟨g1, c1, g2, c2, g4, c4, g5, c5, rfl, q.s, q.n, hl, hd, hg⟩, k.os, k.tape, k.output, k.size, fun i hi _ _ h => k.block i hi (by omega) (by omega) (by omega) (by omega) (by omega)⟩
theorem mark_gz (lo hi z1 z2 : Nat) (cs : List Value) (w : World) (ha : Gz 3 lo hi cs w) (hw : hi ≤ w.heap.size) (h1 : z1 < lo) (h2 : z2 < lo) (hz : z1 ≠ z2) : Calls Try.prog 20 #[.agg cs.toArray, .int .i64 1] w fun e w' => e = .returned (.int .i64 ((1 + 0 + 0 + 0 + 0 + 0 : Nat) : Int)) ∧ MkR (Gz 3) lo hi z1 z2 cs w w' := by
  obtain ⟨rfl, hs⟩ := ha
  refine (markG_any 0 z1 z2 lo (lo + 1) (lo + 2) 1 0 0 0 0 false false false false false none none 0 0 0 0 0 none 0 0 none none 0 0 0 0 0 0 [] [] [] [] [] w ⟨⟨outN_noneG _ _ _ (Nat.zero_le _), outN_noneG _ _ _ (Nat.zero_le _), hz, rfl, rfl⟩, outN_noneG _ _ _ (Nat.zero_le _), rfl, ⟨outN_noneG _ _ _ (Nat.zero_le _), outN_noneG _ _ _ (Nat.zero_le _), by omega, rfl, rfl⟩⟩ ⟨by omega, by omega, by omega, by omega, by omega, by omega, by omega, by omega, by omega, by omega, by omega, by omega, by omega⟩ (by omega) (by omega) (by omega)).mono ?_
  rintro e w' ⟨rfl, k, -⟩
  exact ⟨rfl, ⟨rfl, hs⟩, k.os, k.tape, k.output, k.size, fun i hi p1 p2 h => k.block i hi p1 p2 (by omega) (by omega) (by omega)⟩
theorem held_gd (p s c l : Int) (st sk re fe ag : Bool) (n1 n2 : Nat) (qp : Int) (hn1 : n1 ≤ 16) (hn2 : n2 ≤ 2) (lo hi : Nat) (cs : List Value) (w : World) (ha : Gd p s c l st sk re fe ag n1 n2 qp (marksN 1 n1) (marksN (1 + n1) n2) (marksN (1 + n1 + n2 + 0) n1) (marksN (1 + n1 + n2 + 0 + n1) n2) lo hi cs w) : Calls Try.prog 21 #[.agg cs.toArray, .int .i64 1] w fun e w' => e = .returned (.int .i64 ((1 + n1 + n2 + 0 + n1 + n2 : Nat) : Int)) ∧ Below w.heap.size w w' := by
  obtain ⟨g1, c1, g2, c2, g4, c4, g5, c5, rfl, o1, o2, -⟩ := ha
  exact heldG_any 1 p s c l st sk re fe ag (some ⟨g1, 0, none⟩) (some ⟨g2, 0, none⟩) n1 c1 n2 c2 qp none 0 0 (some ⟨g4, 0, none⟩) (some ⟨g5, 0, none⟩) n1 c4 n2 c5 qp (-1) w ⟨o1.r, rowN_nil _ _, marksN_len _ _, o2.r⟩ (by omega) (by omega)
theorem held_gz (lo hi : Nat) (cs : List Value) (w : World) (ha : Gz 3 lo hi cs w) : Calls Try.prog 21 #[.agg cs.toArray, .int .i64 1] w fun e w' => e = .returned (.int .i64 ((1 + 0 + 0 + 0 + 0 + 0 : Nat) : Int)) ∧ Below w.heap.size w w' := by
  obtain ⟨rfl, -⟩ := ha
  exact heldG_any 1 0 0 0 0 false false false false false none none 0 0 0 0 0 none 0 0 none none 0 0 0 0 0 0 w ⟨⟨rowN_nil _ _, rowN_nil _ _, rfl, rfl⟩, rowN_nil _ _, rfl, ⟨rowN_nil _ _, rowN_nil _ _, rfl, rfl⟩⟩ (by omega) (by omega)
set_option maxHeartbeats 4000000 in
set_option maxRecDepth 100000 in
theorem implGF_no3 (p s c l : Int) (st sk re fe ag : Bool) (q1 q2 : Option Addr) (qn1 qc1 qn2 qc2 : Nat) (qp : Int) (xs ys : List Int) (w : World) (h : PosR w q1 q2 qn1 qn2 xs ys) (hk : okP (okR p s c l st ag) p qn1 qn2 qp xs ys = false) : Calls Try.prog 17 #[.agg #[.int .i64 p, .int .i64 s, .bool st, .bool sk, .bool re, .bool fe, .bool ag, .int .i64 c, .int .i64 l], .agg #[.slice q1 qn1 qc1, .slice q2 qn2 qc2, .int .i64 qp]] w (fun e w' => NewNo w e w' ∧ w.heap.size + 3 ≤ w'.heap.size) := by
  have H := Lib.hid h
  have HK := Lib.hid hk
  have HX := Lib.hid (rp_g17 p s c l st sk re fe ag q1 q2 qn1 qc1 qn2 qc2 qp w 31 32 34)
  clear h hk
  go_enter Try.func17, Try.ntmps17
  go_wp2_with fail
  refine (implValid_b p s c l st sk re fe ag q1 q2 qn1 qc1 qn2 qc2 qp xs ys _ (H.out.below HX.out.2.2) false HK.out).mono ?_
  rintro e u1 ⟨rfl, hb⟩
  have HRP := Lib.hid (rpo_below HX.out.1 hb)
  have HG := Lib.hid (HX.out.2.1.below hb)
  have HB := Lib.hid (HX.out.2.2.trans (hb.mono HX.out.2.2.size))
  have hlt := HG.out.lt
  clear hb
  go_wp2_with (refine wpList_store_mid rfl 34 _ _ rfl (w.heap.size + 1 + 1) 0 (List.toArray [.int .i64 0, .int .i64 0, .bool false, .bool false, .bool false, .bool false, .bool false, .int .i64 0, .int .i64 0, .slice none 0 0, .slice none 0 0, .int .i64 0, .slice none 0 0, .slice none 0 0, .slice none 0 0, .int .i64 0, .int .i64 0]) rfl rfl HG.out.there (by kernel_rfl) zero17_one ?_)
  have hrun := run_loadVar_mid (P := Try.prog) _ (w.heap.size + 1 + 1) 0 34 [.int .i64 0, .int .i64 0, .bool false, .bool false, .bool false, .bool false, .bool false, .int .i64 0, .int .i64 0, .slice none 0 0, .slice none 0 0, .int .i64 0, .slice none 0 0, .slice none 0 0, .slice none 0 0, .int .i64 0, .int .i64 0] _ (World.rangeAt_setCells_same _ (w.heap.size + 1 + 1) 0 [.int .i64 0, .int .i64 0, .bool false, .bool false, .bool false, .bool false, .bool false, .int .i64 0, .int .i64 0, .slice none 0 0, .slice none 0 0, .int .i64 0, .slice none 0 0, .slice none 0 0, .slice none 0 0, .int .i64 0, .int .i64 0] HG.out.there) Try.underlying34 rfl (by kernel_rfl)
  refine bodyPost_ret (v := .tuple #[.agg (List.toArray [.int .i64 0, .int .i64 0, .bool false, .bool false, .bool false, .bool false, .bool false, .int .i64 0, .int .i64 0, .slice none 0 0, .slice none 0 0, .int .i64 0, .slice none 0 0, .slice none 0 0, .slice none 0 0, .int .i64 0, .int .i64 0]), .int .i64 1]) ?_ rfl ⟨⟨rfl, below_scg (w.heap.size + 1 + 1) (by omega) _ 0 HB.out⟩, by rw [size_scg]; omega⟩
  simp [results, Try.results17, Result.andThen_ok, asAddr, hrun]
theorem walk0_FnExactGameFrom (p s c l : Int) (st sk re fe ag : Bool) (q1 q2 : Option Addr) (qn1 qc1 qn2 qc2 : Nat) (qp : Int) (xs ys : List Int) (w : World) (h : PosW w q1 q2 qn1 qn2 xs ys) : Calls Try.prog 4 #[.agg #[.int .i64 p, .int .i64 s, .bool st, .bool sk, .bool re, .bool fe, .bool ag, .int .i64 c, .int .i64 l], .agg #[.slice q1 qn1 qc1, .slice q2 qn2 qc2, .int .i64 qp]] w fun e w' => e = .returned (.bool true) ∧ Below w.heap.size w w' := by
  cases hk : okP (okR p s c l st ag) p qn1 qn2 qp xs ys
  · refine walkG_FnExactGameFrom p s c l st sk re fe ag q1 q2 qn1 qc1 qn2 qc2 qp xs ys (Gz 0) (Gz 3) (Gz 3) (gz_ok 0) (gz_ok 3) (gz_ok 3) 1 ((1 + 0 + 0 + 0 + 0 + 0 : Nat) : Int) (by omega) w h ?_ ?_ (fun _ _ _ _ _ _ w a b => eq_gz _ _ _ _ _ _ _ _ w a b) (fun _ _ _ _ _ w a b c d e => mark_gz _ _ _ _ _ w a b c d e) (fun _ _ _ w a => held_gz _ _ _ w a)
    · intro a1 a2 c1 c2 w hr
      refine (specGF_no p s c l st sk re fe ag a1 a2 qn1 c1 qn2 c2 qp xs ys w hr hk).mono ?_
      rintro e w' ⟨rfl, hb⟩
      exact ⟨_, rfl, ⟨rfl, hb.size⟩, hb⟩
    · intro a1 a2 c1 c2 w hr
      refine (implGF_no3 p s c l st sk re fe ag a1 a2 qn1 c1 qn2 c2 qp xs ys w hr hk).mono ?_
      rintro e w' ⟨⟨rfl, hb⟩, h3⟩
      exact ⟨_, rfl, ⟨rfl, h3⟩, hb⟩
  · have hp := okR_bd (okP_parts hk).1
    have h1 := (okP_parts hk).2.1
    have h2 := (okP_parts hk).2.2.1
    have hn1 : qn1 ≤ 16 := by omega
    have hn2 : qn2 ≤ 2 := by omega
    have hx : xs ≠ [] := by intro e; have := h.l1; rw [e] at this; simp at this; omega
    have hy : ys ≠ [] := by intro e; have := h.l2; rw [e] at this; simp at this; omega
    refine walkG_FnExactGameFrom p s c l st sk re fe ag q1 q2 qn1 qc1 qn2 qc2 qp xs ys (Gd p s c l st sk re fe ag qn1 qn2 qp xs ys xs ys) (Gd p s c l st sk re fe ag qn1 qn2 qp xs ys xs ys) (Gd p s c l st sk re fe ag qn1 qn2 qp (marksN 1 qn1) (marksN (1 + qn1) qn2) (marksN (1 + qn1 + qn2 + 0) qn1) (marksN (1 + qn1 + qn2 + 0 + qn1) qn2)) (gd_ok p s c l st sk re fe ag _ _ _ _ _ _ _) (gd_ok p s c l st sk re fe ag _ _ _ _ _ _ _) (gd_ok p s c l st sk re fe ag _ _ _ _ _ _ _) 0 ((1 + qn1 + qn2 + 0 + qn1 + qn2 : Nat) : Int) (by omega) w h ?_ ?_ (fun _ _ _ _ _ _ w a b => eq_gd p s c l st sk re fe ag _ _ _ _ _ _ _ _ _ _ _ _ _ w a b) (fun _ _ _ _ _ w a b _ _ _ => mark_gd p s c l st sk re fe ag _ _ _ _ _ _ _ hn1 hn2 _ _ _ _ _ w a b) (fun _ _ _ w a => held_gd p s c l st sk re fe ag _ _ _ hn1 hn2 _ _ _ w a)
    · intro a1 a2 c1 c2 w hr
      refine (specGF_yes p s c l st sk re fe ag a1 a2 qn1 c1 qn2 c2 qp xs ys w hr hx hy hk).mono ?_
      rintro e w' ⟨g1, c1, g2, c2, g4, c4, g5, c5, rfl, hn, hg⟩
      exact ⟨_, rfl, ⟨g1, c1, g2, c2, g4, c4, g5, c5, rfl, hn.s, hn.n, ⟨hn.l1, hn.l2, hn.l4, hn.l5⟩, ⟨hn.n14, hn.n15, hn.n24, hn.n25⟩, hg⟩, hn.be⟩
    · intro a1 a2 c1 c2 w hr
      refine (implGF_yes p s c l st sk re fe ag a1 a2 qn1 c1 qn2 c2 qp xs ys w hr hx hy hk).mono ?_
      rintro e w' ⟨g1, c1, g2, c2, g4, c4, g5, c5, rfl, hn, hg⟩
      exact ⟨_, rfl, ⟨g1, c1, g2, c2, g4, c4, g5, c5, rfl, hn.s, hn.n, ⟨hn.l1, hn.l2, hn.l4, hn.l5⟩, ⟨hn.n14, hn.n15, hn.n24, hn.n25⟩, hg⟩, hn.be⟩
theorem walk_FnExactGameFrom (x : RV) (hx : x.Fit) (q : PV) {w : World} (hq : q.In w) : Calls Try.prog 4 #[x.val, q.val] w fun e w' => e = .returned (.bool true) ∧ Below w.heap.size w w' :=
  walk0_FnExactGameFrom _ _ _ _ _ _ _ _ _ _ _ _ _ _ _ _ _ _ w hq.2
namespace fnExactGameFrom
set_option maxHeartbeats 2000000 in
set_option maxRecDepth 100000 in
theorem lifted (os : Os) (started : os.Started) (H : Type) (enc : TypeId × Value → H) :
    ReturnsInHanded {} Try.checked os 4 .any (Rows.fnExactGameFromSpec.pre6 enc Try.prog Try.f4 Rows.fnExactGameFromRow.domain false) (Rows.fnExactGameFromSpec.post enc Try.prog Try.f4 false true false false) := by
  refine returnsInHanded_of_change (C := Try.checked) own started (by kernel_rfl) Try.func4
    (ChangeSpec.witness6 (enc := enc) (C := Try.checked) false ⟨#[], #[.agg #[.int .i64 0, .int .i64 0, .bool false, .bool false, .bool false, .bool false, .bool false, .int .i64 0, .int .i64 0], .agg #[.slice none 0 0, .slice none 0 0, .int .i64 0]], []⟩ 8 (by kernel_rfl) (by kernel_rfl) (by kernel_rfl) (by kernel_rfl)) ?_
  intro W base args ds gs before hval0 hW hcnd _
  have hval : ∀ (j : Nat) t v, Try.f4.params[j]? = some t → args[j]? = some v → Value.okWide Try.prog W .any base t v := hval0
  have hW' := hW
  obtain ⟨p, q, hA0, hV, rfl, hfz, hnd⟩ := hW
  have hA : DataW.TrodAll enc Try.prog W 0 (fun _ => true) true Try.f4.params.toList args.toList ds p := hA0
  rw [Try.params4] at hA hval
  obtain ⟨v0, vs0, d0, ds0, p0, q0, hargs, rfl, rfl, h0, r0⟩ := trodAll_cons hA
  obtain ⟨v1, vs1, d1, ds1, p1, q1, rfl, rfl, rfl, h1, r1⟩ := trodAll_cons r0
  obtain ⟨rfl, rfl, rfl⟩ := trodAll_nil r1
  obtain rfl : args = #[v0, v1] := by cases args; simp_all
  obtain ⟨rfl, rfl⟩ := trodVars_none hV
  have k0 := h0
  have lt0 : ∀ x ∈ p0, x.block < W.heap.size := by obtain ⟨m, hm⟩ := k0; exact DataW.trod_lt m _ _ _ hm
  obtain ⟨x0, rfl, w0⟩ := open_rules Try.underlying23 Try.underlying2 Try.underlying4 (by kernel_rfl) (by kernel_rfl) (hval 0 23 v0 rfl rfl) h0
  have k1 := h1
  have lt1 : ∀ x ∈ p1, x.block < W.heap.size := by obtain ⟨m, hm⟩ := k1; exact DataW.trod_lt m _ _ _ hm
  obtain ⟨x1, rfl, w1⟩ := open_pos Try.underlying26 Try.underlying24 Try.underlying2 (by kernel_rfl) (by kernel_rfl) (by kernel_rfl) (hval 1 26 v1 rfl rfl) h1
  clear hA0 hval0
  refine (walk_FnExactGameFrom x0 w0 x1 w1 (w := W)).mono fun e W' ⟨he, bel⟩ => ?_
  subst he
  exact ⟨_, rfl, _, _, _, [], _, [], hW', trodAll_mk1 (shut_bool Try.underlying4 _), (trodAll_cons_mk (Below.trod laidOut (by kernel_rfl) (of_decide_eq_true (by kernel_rfl)) k0 bel lt0) (trodAll_cons_mk (Below.trod laidOut (by kernel_rfl) (of_decide_eq_true (by kernel_rfl)) k1 bel lt1) trodAll_mk0)), rfl, bel.frame _, fun h => by cases h⟩

theorem proved : Rows.FnExactGameFromSaid :=
  OpenClaim.holds_of_wide 4 Try.f4 rfl rfl rfl rfl rfl rfl rfl ⟨rfl, rfl, rfl, rfl, rfl⟩ rfl rfl rfl rfl rfl (by kernel_rfl) Try.func4 (by kernel_rfl)
    (of_decide_eq_true (by kernel_rfl)) (by unfold Func.isWrapper; first | (rw [if_pos (by decide +kernel)]; kernel_rfl) | (rw [if_neg (by decide +kernel)]; exact ⟨rfl, rfl⟩))
    (fun os started H enc _ => lifted os started H enc)
end fnExactGameFrom

end Go.Proofs.Ytmngmbpdiaocjaa
