/- NewGame: the reference's and the program's. No conditions. -/
import Derived.Test.YthbkdlidpdliaabGame7
import Derived.Test.YthbkdlidpdliaabStart5
namespace Go.Proofs.Ythbkdlidpdliaab
open Go.Joins Go.ChangeShapes Go.WideShapes Go.ChangeAt Go.RowKit Go.Deep
set_option linter.unusedVariables false

section
variable {P : Program}
/-- The first field of a struct: a struct of 17 cells. -/
theorem run_field0 {xt T : TypeId} {fs : Array Field} {f : Field} {d : TypeDesc} (hu : P.underlying xt = some (.struct fs)) (hf : fs[0]? = some f) (ht : f.type = T) (ho : f.offset = 0) (hua : P.underlying T = some d) (hd : d.isRow = true) (hc : (P.info? T).map (·.size) = some 17) (xs : Array Value) (w : World) :
    (Instr.field xt (.agg xs) 0).run P w = .ok (.agg (xs.extract 0 17)) w := by
  cases hq : P.info? T with
  | none => simp [hq] at hc
  | some i =>
    have hagg : (isAgg T).run P w = .ok true w := by
      unfold isAgg
      rw [Sem.run_bind, run_underlying hua w]
      cases d <;> simp_all [TypeDesc.isRow]
    have hsz : (sizeOf T).run P w = .ok 17 w := by
      have h17 : i.size = 17 := by simpa [hq] using hc
      simp [sizeOf, run_typeInfo w hq, h17]
    unfold Instr.field
    rw [Sem.run_bind, run_underlying hu w]
    simp only [Result.andThen_ok, hf, ht, ho, asAgg, Sem.run_bind, Sem.run_pure, part, hagg, if_true, hsz, Nat.zero_add]
theorem wpList_field {ops : Array Oper} {rest : List Oper} {op : Oper} {a : Act} {w : World} {Q : Exit → Act → World → Prop} (hgd : op.guard = none) (xt : TypeId) (x : Operand) (n : Nat) (ho : op.op = .field xt x n) (xs : Array Value) (hx : a.eval x = .agg xs) (v : Value) (hr : (Instr.field xt (.agg xs) n).run P w = .ok v w)
    (h : wpList P ops Q rest (a.put op.dst v) w) : wpList P ops Q (op :: rest) a w :=
  wpList_plain hgd fun _ hK => by
    unfold Oper.wp execOp
    simp only [ho, hx, Sem.run_bind, Sem.run_pure, Result.andThen_ok, hr]
    exact hK _ _ h
end
theorem zero17_one : (List.toArray ([.int .i64 0, .int .i64 0, .bool false, .bool false, .bool false, .bool false, .bool false, .int .i64 0, .int .i64 0, .slice none 0 0, .slice none 0 0, .int .i64 0, .slice none 0 0, .slice none 0 0, .slice none 0 0, .int .i64 0, .int .i64 0] : List Value)).all (·.oneCell') = true := all_oneCell_toArray (by simp [Value.oneCell'])
theorem ru_g17 (p s c l : Int) (st sk re fe ag : Bool) (w : World) (T U : TypeId) : RuAt ((w.alloc (.cells #[.int .i64 p, .int .i64 s, .bool st, .bool sk, .bool re, .bool fe, .bool ag, .int .i64 c, .int .i64 l] T)).alloc (.cells #[.int .i64 0, .int .i64 0, .bool false, .bool false, .bool false, .bool false, .bool false, .int .i64 0, .int .i64 0, .slice none 0 0, .slice none 0 0, .int .i64 0, .slice none 0 0, .slice none 0 0, .slice none 0 0, .int .i64 0, .int .i64 0] U)) w.heap.size p s c l st sk re fe ag ∧ G17 ((w.alloc (.cells #[.int .i64 p, .int .i64 s, .bool st, .bool sk, .bool re, .bool fe, .bool ag, .int .i64 c, .int .i64 l] T)).alloc (.cells #[.int .i64 0, .int .i64 0, .bool false, .bool false, .bool false, .bool false, .bool false, .int .i64 0, .int .i64 0, .slice none 0 0, .slice none 0 0, .int .i64 0, .slice none 0 0, .slice none 0 0, .slice none 0 0, .int .i64 0, .int .i64 0] U)) (w.heap.size + 1) (.int .i64 0) (.int .i64 0) (.bool false) (.bool false) (.bool false) (.bool false) (.bool false) (.int .i64 0) (.int .i64 0) (.slice none 0 0) (.slice none 0 0) (.int .i64 0) (.slice none 0 0) (.slice none 0 0) (.slice none 0 0) (.int .i64 0) (.int .i64 0) ∧ Below w.heap.size w ((w.alloc (.cells #[.int .i64 p, .int .i64 s, .bool st, .bool sk, .bool re, .bool fe, .bool ag, .int .i64 c, .int .i64 l] T)).alloc (.cells #[.int .i64 0, .int .i64 0, .bool false, .bool false, .bool false, .bool false, .bool false, .int .i64 0, .int .i64 0, .slice none 0 0, .slice none 0 0, .int .i64 0, .slice none 0 0, .slice none 0 0, .slice none 0 0, .int .i64 0, .int .i64 0] U)) := by
  have r := ro_new p s c l st sk re fe ag w T
  have g := g17_new (w.alloc (.cells #[.int .i64 p, .int .i64 s, .bool st, .bool sk, .bool re, .bool fe, .bool ag, .int .i64 c, .int .i64 l] T)) U
  rw [show (w.alloc (.cells #[.int .i64 p, .int .i64 s, .bool st, .bool sk, .bool re, .bool fe, .bool ag, .int .i64 c, .int .i64 l] T)).heap.size = w.heap.size + 1 by simp] at g
  exact ⟨r.1.below (al1 _ _), g, al2 w _ _⟩
theorem NewR.base {w v u : World} {g1 g2 g4 g5 qn1 qn2 : Nat} {xs ys : List Int} (h : NewR v u g1 g2 g4 g5 qn1 qn2 xs ys) (k : Below w.heap.size w v) : NewR w u g1 g2 g4 g5 qn1 qn2 xs ys :=
  ⟨h.s.lower k.size, h.n.lower k.size, h.l1, h.l2, h.l4, h.l5, h.n14, h.n15, h.n24, h.n25, k.trans (h.be.mono k.size)⟩
theorem NewR.news {w u : World} {g1 g2 g4 g5 qn1 qn2 : Nat} {xs ys : List Int} (h : NewR w u g1 g2 g4 g5 qn1 qn2 xs ys) : w.heap.size ≤ g1 ∧ w.heap.size ≤ g2 ∧ w.heap.size ≤ g4 ∧ w.heap.size ≤ g5 :=
  ⟨h.s.o1.new, h.s.o2.new, h.n.o1.new, h.n.o2.new⟩
/-- The answer of NewGame over rules that are not valid. -/
def NewNo (w : World) (e : Ending) (w' : World) : Prop := e = .returned (.tuple #[.agg #[.int .i64 0, .int .i64 0, .bool false, .bool false, .bool false, .bool false, .bool false, .int .i64 0, .int .i64 0, .slice none 0 0, .slice none 0 0, .int .i64 0, .slice none 0 0, .slice none 0 0, .slice none 0 0, .int .i64 0, .int .i64 0], .int .i64 1]) ∧ Below w.heap.size w w'
/-- The answer of NewGame over valid rules. -/
def NewYes (p s c l : Int) (st sk re fe ag : Bool) (qn1 qn2 : Nat) (xs ys : List Int) (w : World) (e : Ending) (w' : World) : Prop :=
  ∃ g1 c1 g2 c2 g4 c4 g5 c5 : Nat, e = .returned (.tuple #[.agg #[.int .i64 p, .int .i64 s, .bool st, .bool sk, .bool re, .bool fe, .bool ag, .int .i64 c, .int .i64 l, .slice (some ⟨g1, 0, none⟩) qn1 c1, .slice (some ⟨g2, 0, none⟩) qn2 c2, .int .i64 0, .slice none 0 0, .slice (some ⟨g4, 0, none⟩) qn1 c4, .slice (some ⟨g5, 0, none⟩) qn2 c5, .int .i64 0, .int .i64 (-1)], .int .i64 0]) ∧ NewR w w' g1 g2 g4 g5 qn1 qn2 xs ys ∧ (w.heap.size < g1 ∧ w.heap.size < g2 ∧ w.heap.size < g4 ∧ w.heap.size < g5)
set_option maxHeartbeats 4000000 in
set_option maxRecDepth 100000 in
theorem specNG_no (p s c l : Int) (st sk re fe ag : Bool) (w : World) (hk : okR p s c l st ag = false) : Calls Try.prog 16 #[.agg #[.int .i64 p, .int .i64 s, .bool st, .bool sk, .bool re, .bool fe, .bool ag, .int .i64 c, .int .i64 l]] w (NewNo w) := by
  have HK := Lib.hid hk
  have HX := Lib.hid (ru_g17 p s c l st sk re fe ag w 31 34)
  clear hk
  go_enter Try.func16, Try.ntmps16
  go_wp2_with fail
  refine (l02Ok_any p s c l st sk re fe ag w.heap.size _ (by go_simp) (by go_simp) (by go_simp) (by go_simp) (by go_simp) (by go_simp) (by go_simp) (by go_simp) (by go_simp)).mono ?_
  rintro e w' ⟨rfl, rfl⟩
  rw [HK.out]
  go_wp2_with (refine wpList_store_mid rfl 34 _ _ rfl (w.heap.size + 1) 0 (List.toArray [.int .i64 0, .int .i64 0, .bool false, .bool false, .bool false, .bool false, .bool false, .int .i64 0, .int .i64 0, .slice none 0 0, .slice none 0 0, .int .i64 0, .slice none 0 0, .slice none 0 0, .slice none 0 0, .int .i64 0, .int .i64 0]) rfl rfl HX.out.2.1.there (by kernel_rfl) zero17_one ?_)
  have hrun := run_loadVar_mid (P := Try.prog) _ (w.heap.size + 1) 0 34 [.int .i64 0, .int .i64 0, .bool false, .bool false, .bool false, .bool false, .bool false, .int .i64 0, .int .i64 0, .slice none 0 0, .slice none 0 0, .int .i64 0, .slice none 0 0, .slice none 0 0, .slice none 0 0, .int .i64 0, .int .i64 0] _ (World.rangeAt_setCells_same _ (w.heap.size + 1) 0 [.int .i64 0, .int .i64 0, .bool false, .bool false, .bool false, .bool false, .bool false, .int .i64 0, .int .i64 0, .slice none 0 0, .slice none 0 0, .int .i64 0, .slice none 0 0, .slice none 0 0, .slice none 0 0, .int .i64 0, .int .i64 0] HX.out.2.1.there) Try.underlying34 rfl (by kernel_rfl)
  refine bodyPost_ret (v := .tuple #[.agg (List.toArray [.int .i64 0, .int .i64 0, .bool false, .bool false, .bool false, .bool false, .bool false, .int .i64 0, .int .i64 0, .slice none 0 0, .slice none 0 0, .int .i64 0, .slice none 0 0, .slice none 0 0, .slice none 0 0, .int .i64 0, .int .i64 0]), .int .i64 1]) ?_ rfl ⟨rfl, below_scg (w.heap.size + 1) (by omega) _ 0 HX.out.2.2⟩
  simp [results, Try.results16, Result.andThen_ok, asAddr, hrun]
set_option maxHeartbeats 4000000 in
set_option maxRecDepth 100000 in
theorem specNG_yes (P : Nat) (s c l : Int) (st sk re fe ag : Bool) (w : World) (hP : 2 ≤ P) (hP2 : P ≤ 8) (hk : okR (P : Int) s c l st ag = true) : Calls Try.prog 16 #[.agg #[.int .i64 (P : Int), .int .i64 s, .bool st, .bool sk, .bool re, .bool fe, .bool ag, .int .i64 c, .int .i64 l]] w (NewYes (P : Int) s c l st sk re fe ag (2 * P) 2 (List.replicate (2 * P) s) [0, 0] w) := by
  have HK := Lib.hid hk
  have HX := Lib.hid (ru_g17 (P : Int) s c l st sk re fe ag w 31 34)
  clear hk
  go_enter Try.func16, Try.ntmps16
  go_wp2_with fail
  refine (l02Ok_any (P : Int) s c l st sk re fe ag w.heap.size _ (by go_simp) (by go_simp) (by go_simp) (by go_simp) (by go_simp) (by go_simp) (by go_simp) (by go_simp) (by go_simp)).mono ?_
  rintro e w' ⟨rfl, rfl⟩
  rw [HK.out]
  go_wp2_with fail
  refine (l04Start_any P s c l st sk re fe ag w.heap.size _ HX.out.1 hP hP2).mono ?_
  rintro e u1 ⟨g1, c1, g2, c2, rfl, ho, lg, lh, lc, ld, hb⟩
  have HR := Lib.hid (HX.out.1.below hb)
  have HG := Lib.hid (HX.out.2.1.below hb)
  have HB := Lib.hid (HX.out.2.2.trans (hb.mono HX.out.2.2.size))
  have HO := Lib.hid ho.r
  have HL1 := Lib.hid (HX.out.2.1.below hb).lt
  clear hb ho
  go_wp2_with fail
  refine (l08New_any (P : Int) s c l st sk re fe ag (some ⟨g1, 0, none⟩) (some ⟨g2, 0, none⟩) (2 * P) c1 2 c2 0 w.heap.size u1.heap.size (List.replicate (2 * P) s) [0, 0] _ (HR.out.below (al1 _ _)) (po_new (some ⟨g1, 0, none⟩) (some ⟨g2, 0, none⟩) (2 * P) c1 2 c2 0 u1 32) (HO.out.alloc _) (by intro e; have := congrArg List.length e; simp at this; omega) (by simp)).mono ?_
  rintro e u2 ⟨h1, e1, h2, e2, h4, e4, h5, e5, rfl, hN⟩
  have HG := Lib.hid ((HG.out.below (al1 u1 (.cells #[.slice (some ⟨g1, 0, none⟩) (2 * P) c1, .slice (some ⟨g2, 0, none⟩) 2 c2, .int .i64 0] 32))).below hN.be)
  have hnw := hN.news
  have hu1 := HB.out.size
  have hg1 := HX.out.2.1.lt
  simp at hnw hg1
  have HN := Lib.hid (hN.base (HB.out.trans ((al1 u1 (.cells #[.slice (some ⟨g1, 0, none⟩) (2 * P) c1, .slice (some ⟨g2, 0, none⟩) 2 c2, .int .i64 0] 32)).mono HB.out.size)))
  have hb1 : w.heap.size + 1 < u1.heap.size := HL1.out
  clear hN
  go_wp2_with (refine wpList_store_mid rfl 34 _ _ rfl (w.heap.size + 1) 0 (List.toArray [.int .i64 (P : Int), .int .i64 s, .bool st, .bool sk, .bool re, .bool fe, .bool ag, .int .i64 c, .int .i64 l, .slice (some ⟨h1, 0, none⟩) (2 * P) e1, .slice (some ⟨h2, 0, none⟩) 2 e2, .int .i64 0, .slice none 0 0, .slice (some ⟨h4, 0, none⟩) (2 * P) e4, .slice (some ⟨h5, 0, none⟩) 2 e5, .int .i64 0, .int .i64 (-1)]) rfl rfl HG.out.there (by kernel_rfl) (new_one (P : Int) s c l 0 st sk re fe ag h1 e1 h2 e2 h4 e4 h5 e5 (2 * P) 2) ?_)
  have hrun := run_loadVar_mid (P := Try.prog) _ (w.heap.size + 1) 0 34 [.int .i64 (P : Int), .int .i64 s, .bool st, .bool sk, .bool re, .bool fe, .bool ag, .int .i64 c, .int .i64 l, .slice (some ⟨h1, 0, none⟩) (2 * P) e1, .slice (some ⟨h2, 0, none⟩) 2 e2, .int .i64 0, .slice none 0 0, .slice (some ⟨h4, 0, none⟩) (2 * P) e4, .slice (some ⟨h5, 0, none⟩) 2 e5, .int .i64 0, .int .i64 (-1)] _ (World.rangeAt_setCells_same _ (w.heap.size + 1) 0 [.int .i64 (P : Int), .int .i64 s, .bool st, .bool sk, .bool re, .bool fe, .bool ag, .int .i64 c, .int .i64 l, .slice (some ⟨h1, 0, none⟩) (2 * P) e1, .slice (some ⟨h2, 0, none⟩) 2 e2, .int .i64 0, .slice none 0 0, .slice (some ⟨h4, 0, none⟩) (2 * P) e4, .slice (some ⟨h5, 0, none⟩) 2 e5, .int .i64 0, .int .i64 (-1)] HG.out.there) Try.underlying34 rfl (by kernel_rfl)
  refine bodyPost_ret (v := .tuple #[.agg (List.toArray [.int .i64 (P : Int), .int .i64 s, .bool st, .bool sk, .bool re, .bool fe, .bool ag, .int .i64 c, .int .i64 l, .slice (some ⟨h1, 0, none⟩) (2 * P) e1, .slice (some ⟨h2, 0, none⟩) 2 e2, .int .i64 0, .slice none 0 0, .slice (some ⟨h4, 0, none⟩) (2 * P) e4, .slice (some ⟨h5, 0, none⟩) 2 e5, .int .i64 0, .int .i64 (-1)]), .int .i64 0]) ?_ rfl ⟨h1, e1, h2, e2, h4, e4, h5, e5, rfl, NewR.sc (w.heap.size + 1) _ 0 HN.out (by omega) (by omega) (by omega) (by omega) (by omega), by omega, by omega, by omega, by omega⟩
  simp [results, Try.results16, Result.andThen_ok, asAddr, hrun]
set_option maxHeartbeats 4000000 in
set_option maxRecDepth 100000 in
theorem implNG_no (p s c l : Int) (st sk re fe ag : Bool) (w : World) (hk : okR p s c l st ag = false) : Calls Try.prog 18 #[.agg #[.int .i64 p, .int .i64 s, .bool st, .bool sk, .bool re, .bool fe, .bool ag, .int .i64 c, .int .i64 l]] w (fun e w' => NewNo w e w' ∧ w.heap.size + 5 ≤ w'.heap.size) := by
  have HK := Lib.hid hk
  have HX := Lib.hid (ru_g17 p s c l st sk re fe ag w 31 34)
  clear hk
  go_enter Try.func18, Try.ntmps18
  go_wp2_with fail
  refine (implStart_no p s c l st sk re fe ag _ HK.out).mono ?_
  rintro e u1 ⟨a1, c1, b1, a2, c2, b2, rfl, ho, l1, l2, -, -, hb⟩
  have hne := ho.ne
  have hn1 := ho.o1.new
  have hn2 := ho.o2.new
  simp at hn1 hn2
  have HG := Lib.hid ((HX.out.2.1.below hb).below (al1 u1 (.cells #[.slice a1 0 c1, .slice a2 0 c2, .int .i64 0] 32)))
  have HB := Lib.hid (HX.out.2.2.trans (hb.mono HX.out.2.2.size))
  have hsz : w.heap.size + 4 ≤ u1.heap.size := by omega
  have HB2 := Lib.hid (HB.out.trans ((al1 u1 (.cells #[.slice a1 0 c1, .slice a2 0 c2, .int .i64 0] 32)).mono HB.out.size))
  clear hb ho l1 l2 hne hn1 hn2
  go_wp2_with (refine wpList_store_mid rfl 34 _ _ rfl (w.heap.size + 1) 0 (List.toArray [.int .i64 0, .int .i64 0, .bool false, .bool false, .bool false, .bool false, .bool false, .int .i64 0, .int .i64 0, .slice none 0 0, .slice none 0 0, .int .i64 0, .slice none 0 0, .slice none 0 0, .slice none 0 0, .int .i64 0, .int .i64 0]) rfl rfl HG.out.there (by kernel_rfl) zero17_one ?_)
  have hrun := run_loadVar_mid (P := Try.prog) _ (w.heap.size + 1) 0 34 [.int .i64 0, .int .i64 0, .bool false, .bool false, .bool false, .bool false, .bool false, .int .i64 0, .int .i64 0, .slice none 0 0, .slice none 0 0, .int .i64 0, .slice none 0 0, .slice none 0 0, .slice none 0 0, .int .i64 0, .int .i64 0] _ (World.rangeAt_setCells_same _ (w.heap.size + 1) 0 [.int .i64 0, .int .i64 0, .bool false, .bool false, .bool false, .bool false, .bool false, .int .i64 0, .int .i64 0, .slice none 0 0, .slice none 0 0, .int .i64 0, .slice none 0 0, .slice none 0 0, .slice none 0 0, .int .i64 0, .int .i64 0] HG.out.there) Try.underlying34 rfl (by kernel_rfl)
  refine bodyPost_ret (v := .tuple #[.agg (List.toArray [.int .i64 0, .int .i64 0, .bool false, .bool false, .bool false, .bool false, .bool false, .int .i64 0, .int .i64 0, .slice none 0 0, .slice none 0 0, .int .i64 0, .slice none 0 0, .slice none 0 0, .slice none 0 0, .int .i64 0, .int .i64 0]), .int .i64 1]) ?_ rfl (And.intro (show NewNo w _ _ from ⟨rfl, below_scg (w.heap.size + 1) (by omega) _ 0 HB2.out⟩) (by rw [size_scg]; simp; omega))
  simp [results, Try.results18, Result.andThen_ok, asAddr, hrun]
set_option maxHeartbeats 4000000 in
set_option maxRecDepth 100000 in
theorem implNG_yes (P : Nat) (s c l : Int) (st sk re fe ag : Bool) (w : World) (hP : 2 ≤ P) (hP2 : P ≤ 8) (hk : okR (P : Int) s c l st ag = true) : Calls Try.prog 18 #[.agg #[.int .i64 (P : Int), .int .i64 s, .bool st, .bool sk, .bool re, .bool fe, .bool ag, .int .i64 c, .int .i64 l]] w (NewYes (P : Int) s c l st sk re fe ag (2 * P) 2 (List.replicate (2 * P) s) [0, 0] w) := by
  have HK := Lib.hid hk
  have HX := Lib.hid (ru_g17 (P : Int) s c l st sk re fe ag w 31 34)
  clear hk
  go_enter Try.func18, Try.ntmps18
  go_wp2_with fail
  refine (implStart_yes P s c l st sk re fe ag _ hP hP2 HK.out).mono ?_
  rintro e u1 ⟨a1, c1, b1, a2, c2, b2, rfl, ho, -, -, -, -, hb⟩
  have hd := HX.out.1.below hb
  have HG := Lib.hid ((HX.out.2.1.below hb).below (al1 u1 (.cells #[.slice a1 (2 * P) c1, .slice a2 2 c2, .int .i64 0] 32)))
  have HB := Lib.hid (HX.out.2.2.trans (hb.mono HX.out.2.2.size))
  have HB2 := Lib.hid (HB.out.trans ((al1 u1 (.cells #[.slice a1 (2 * P) c1, .slice a2 2 c2, .int .i64 0] 32)).mono HB.out.size))
  have HO := Lib.hid (ho.r.alloc (.cells #[.slice a1 (2 * P) c1, .slice a2 2 c2, .int .i64 0] 32))
  have HL1 := Lib.hid (HX.out.2.1.below hb).lt
  obtain ⟨_, d0, d1, d2, d3, d4, d5, d6, d7, d8⟩ := hd
  clear hb ho
  go_wp2_with fail
  refine (beginPlay_any (P : Int) s c l st sk re fe ag a1 a2 (2 * P) c1 2 c2 0 (List.replicate (2 * P) s) [0, 0] _ HO.out (by intro e; have := congrArg List.length e; simp at this; omega) (by simp)).mono ?_
  rintro e u2 ⟨h1, e1, h2, e2, h4, e4, h5, e5, rfl, hN⟩
  have HG := Lib.hid (HG.out.below hN.be)
  have hnw := hN.news
  have hu1 : w.heap.size + 1 < u1.heap.size := HL1.out
  simp at hnw
  have HN := Lib.hid (hN.base HB2.out)
  clear hN d0 d1 d2 d3 d4 d5 d6 d7 d8
  have hfld := (run_field0 (P := Try.prog) (xt := 60) (T := 34) Try.underlying60 rfl rfl rfl Try.underlying34 rfl (by kernel_rfl) (List.toArray [.int .i64 (P : Int), .int .i64 s, .bool st, .bool sk, .bool re, .bool fe, .bool ag, .int .i64 c, .int .i64 l, .slice (some ⟨h1, 0, none⟩) (2 * P) e1, .slice (some ⟨h2, 0, none⟩) 2 e2, .int .i64 0, .slice none 0 0, .slice (some ⟨h4, 0, none⟩) (2 * P) e4, .slice (some ⟨h5, 0, none⟩) 2 e5, .int .i64 0, .int .i64 (-1), .slice none 0 0]) u2).trans (show _ = Result.ok (.agg (List.toArray [.int .i64 (P : Int), .int .i64 s, .bool st, .bool sk, .bool re, .bool fe, .bool ag, .int .i64 c, .int .i64 l, .slice (some ⟨h1, 0, none⟩) (2 * P) e1, .slice (some ⟨h2, 0, none⟩) 2 e2, .int .i64 0, .slice none 0 0, .slice (some ⟨h4, 0, none⟩) (2 * P) e4, .slice (some ⟨h5, 0, none⟩) 2 e5, .int .i64 0, .int .i64 (-1)])) u2 from rfl)
  go_wp2_with (first | (refine wpList_field rfl 60 _ 0 rfl _ rfl _ hfld ?_) | (refine wpList_store_mid rfl 34 _ _ rfl (w.heap.size + 1) 0 (List.toArray [.int .i64 (P : Int), .int .i64 s, .bool st, .bool sk, .bool re, .bool fe, .bool ag, .int .i64 c, .int .i64 l, .slice (some ⟨h1, 0, none⟩) (2 * P) e1, .slice (some ⟨h2, 0, none⟩) 2 e2, .int .i64 0, .slice none 0 0, .slice (some ⟨h4, 0, none⟩) (2 * P) e4, .slice (some ⟨h5, 0, none⟩) 2 e5, .int .i64 0, .int .i64 (-1)]) rfl rfl HG.out.there (by kernel_rfl) (new_one (P : Int) s c l 0 st sk re fe ag h1 e1 h2 e2 h4 e4 h5 e5 (2 * P) 2) ?_))
  have hrun := run_loadVar_mid (P := Try.prog) _ (w.heap.size + 1) 0 34 [.int .i64 (P : Int), .int .i64 s, .bool st, .bool sk, .bool re, .bool fe, .bool ag, .int .i64 c, .int .i64 l, .slice (some ⟨h1, 0, none⟩) (2 * P) e1, .slice (some ⟨h2, 0, none⟩) 2 e2, .int .i64 0, .slice none 0 0, .slice (some ⟨h4, 0, none⟩) (2 * P) e4, .slice (some ⟨h5, 0, none⟩) 2 e5, .int .i64 0, .int .i64 (-1)] _ (World.rangeAt_setCells_same _ (w.heap.size + 1) 0 [.int .i64 (P : Int), .int .i64 s, .bool st, .bool sk, .bool re, .bool fe, .bool ag, .int .i64 c, .int .i64 l, .slice (some ⟨h1, 0, none⟩) (2 * P) e1, .slice (some ⟨h2, 0, none⟩) 2 e2, .int .i64 0, .slice none 0 0, .slice (some ⟨h4, 0, none⟩) (2 * P) e4, .slice (some ⟨h5, 0, none⟩) 2 e5, .int .i64 0, .int .i64 (-1)] HG.out.there) Try.underlying34 rfl (by kernel_rfl)
  refine bodyPost_ret (v := .tuple #[.agg (List.toArray [.int .i64 (P : Int), .int .i64 s, .bool st, .bool sk, .bool re, .bool fe, .bool ag, .int .i64 c, .int .i64 l, .slice (some ⟨h1, 0, none⟩) (2 * P) e1, .slice (some ⟨h2, 0, none⟩) 2 e2, .int .i64 0, .slice none 0 0, .slice (some ⟨h4, 0, none⟩) (2 * P) e4, .slice (some ⟨h5, 0, none⟩) 2 e5, .int .i64 0, .int .i64 (-1)]), .int .i64 0]) ?_ rfl ⟨h1, e1, h2, e2, h4, e4, h5, e5, rfl, NewR.sc (w.heap.size + 1) _ 0 HN.out (by omega) (by omega) (by omega) (by omega) (by omega), by omega, by omega, by omega, by omega⟩
  simp [results, Try.results18, Result.andThen_ok, asAddr, hrun]
end Go.Proofs.Ythbkdlidpdliaab
