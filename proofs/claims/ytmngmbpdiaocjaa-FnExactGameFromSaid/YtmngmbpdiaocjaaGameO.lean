/- A game among a law's arguments, opened. No conditions. -/
import Derived.Test.YtmngmbpdiaocjaaOpenP
namespace Go.Proofs.Ytmngmbpdiaocjaa
open Go.Joins Go.ChangeShapes Go.WideShapes Go.ChangeAt Go.RowKit Go.Deep
set_option linter.unusedVariables false

/-- The rows of a game that came in: of whatever length. -/
structure GamW (w : World) (a1 a2 : Option Addr) (an1 an2 : Nat) (mm : Option Addr) (mn : Nat) (b1 b2 : Option Addr) (bn1 bn2 : Nat) (sx sy ms nx ny : List Int) : Prop where
  s : PosW w a1 a2 an1 an2 sx sy
  m : ms.length ≤ 1000000000000 → RowN w mm ms
  lm : ms.length = mn
  mn : mn ≤ 9223372036854775807
  n : PosW w b1 b2 bn1 bn2 nx ny
structure GV where
  x : RV
  q : PV
  mm : Option Addr
  mn : Nat
  mc : Nat
  ms : List Int
  r : PV
  rg : Int
def RV.cells (x : RV) : List Value := [.int .i64 x.p, .int .i64 x.s, .bool x.st, .bool x.sk, .bool x.re, .bool x.fe, .bool x.ag, .int .i64 x.c, .int .i64 x.l]
def PV.cells (q : PV) : List Value := [.slice q.a1 q.n1 q.c1, .slice q.a2 q.n2 q.c2, .int .i64 q.pl]
def GV.cells (g : GV) : List Value := [.int .i64 g.x.p, .int .i64 g.x.s, .bool g.x.st, .bool g.x.sk, .bool g.x.re, .bool g.x.fe, .bool g.x.ag, .int .i64 g.x.c, .int .i64 g.x.l, .slice g.q.a1 g.q.n1 g.q.c1, .slice g.q.a2 g.q.n2 g.q.c2, .int .i64 g.q.pl, .slice g.mm g.mn g.mc, .slice g.r.a1 g.r.n1 g.r.c1, .slice g.r.a2 g.r.n2 g.r.c2, .int .i64 g.r.pl, .int .i64 g.rg]
def GV.val (g : GV) : Value := .agg g.cells.toArray
def GV.In (g : GV) (w : World) : Prop := g.x.Fit ∧ I64 g.q.pl ∧ I64 g.r.pl ∧ I64 g.rg ∧ GamW w g.q.a1 g.q.a2 g.q.n1 g.q.n2 g.mm g.mn g.r.a1 g.r.a2 g.r.n1 g.r.n2 g.q.xs g.q.ys g.ms g.r.xs g.r.ys

section
variable {H : Type} {enc : TypeId × Value → H} {P : Program} {w : World} {base : Nat}
theorem rules_cells {t i b : TypeId} {f0 f1 f2 f3 f4 f5 f6 f7 f8 : Field} {fuel : Nat} {cs : List Value} {d : DataW H × List MemPlace} (hs : P.underlying t = some (.struct #[f0, f1, f2, f3, f4, f5, f6, f7, f8]))
    (hi : P.underlying i = some (.int .i64)) (hb : P.underlying b = some .bool)
    (hone : (oneCellFields P #[f0, f1, f2, f3, f4, f5, f6, f7, f8] && decide (f0.type = i) && decide (f1.type = i) && decide (f2.type = b) && decide (f3.type = b) && decide (f4.type = b) && decide (f5.type = b) && decide (f6.type = b) && decide (f7.type = i) && decide (f8.type = i)) = true) (hC : P.cellsOf t = 9)
    (hf : DataW.trod enc P w base (fun _ => true) true fuel t cs = some d) : ∃ x : RV, cs = x.cells ∧ x.Fit := by
  simp only [Bool.and_eq_true, decide_eq_true_eq] at hone
  obtain ⟨⟨⟨⟨⟨⟨⟨⟨⟨hone, t0⟩, t1⟩, t2⟩, t3⟩, t4⟩, t5⟩, t6⟩, t7⟩, t8⟩ := hone
  obtain ⟨xs, n, _, hx, hsz, hlen, hg⟩ := DataW.trod_struct hs hf
  match cs, hsz.trans hC with
  | [c0, c1, c2, c3, c4, c5, c6, c7, c8], _ =>
    obtain ⟨o0, k0⟩ := hone_of hone 0 f0 rfl
    obtain ⟨o1, k1⟩ := hone_of hone 1 f1 rfl
    obtain ⟨o2, k2⟩ := hone_of hone 2 f2 rfl
    obtain ⟨o3, k3⟩ := hone_of hone 3 f3 rfl
    obtain ⟨o4, k4⟩ := hone_of hone 4 f4 rfl
    obtain ⟨o5, k5⟩ := hone_of hone 5 f5 rfl
    obtain ⟨o6, k6⟩ := hone_of hone 6 f6 rfl
    obtain ⟨o7, k7⟩ := hone_of hone 7 f7 rfl
    obtain ⟨o8, k8⟩ := hone_of hone 8 f8 rfl
    match xs, hlen with
    | [y0, y1, y2, y3, y4, y5, y6, y7, y8], _ =>
      have g0 : DataW.trod enc P w base (fun _ => true) true n f0.type [c0] = some y0 := by simpa [o0, k0] using hg 0 f0 rfl
      rw [t0] at g0
      have g1 : DataW.trod enc P w base (fun _ => true) true n f1.type [c1] = some y1 := by simpa [o1, k1] using hg 1 f1 rfl
      rw [t1] at g1
      have g2 : DataW.trod enc P w base (fun _ => true) true n f2.type [c2] = some y2 := by simpa [o2, k2] using hg 2 f2 rfl
      rw [t2] at g2
      have g3 : DataW.trod enc P w base (fun _ => true) true n f3.type [c3] = some y3 := by simpa [o3, k3] using hg 3 f3 rfl
      rw [t3] at g3
      have g4 : DataW.trod enc P w base (fun _ => true) true n f4.type [c4] = some y4 := by simpa [o4, k4] using hg 4 f4 rfl
      rw [t4] at g4
      have g5 : DataW.trod enc P w base (fun _ => true) true n f5.type [c5] = some y5 := by simpa [o5, k5] using hg 5 f5 rfl
      rw [t5] at g5
      have g6 : DataW.trod enc P w base (fun _ => true) true n f6.type [c6] = some y6 := by simpa [o6, k6] using hg 6 f6 rfl
      rw [t6] at g6
      have g7 : DataW.trod enc P w base (fun _ => true) true n f7.type [c7] = some y7 := by simpa [o7, k7] using hg 7 f7 rfl
      rw [t7] at g7
      have g8 : DataW.trod enc P w base (fun _ => true) true n f8.type [c8] = some y8 := by simpa [o8, k8] using hg 8 f8 rfl
      rw [t8] at g8
      obtain ⟨m0, rfl, w0⟩ := cell_int hi g0
      obtain ⟨m1, rfl, w1⟩ := cell_int hi g1
      obtain ⟨m2, rfl⟩ := cell_bool hb g2
      obtain ⟨m3, rfl⟩ := cell_bool hb g3
      obtain ⟨m4, rfl⟩ := cell_bool hb g4
      obtain ⟨m5, rfl⟩ := cell_bool hb g5
      obtain ⟨m6, rfl⟩ := cell_bool hb g6
      obtain ⟨m7, rfl, w7⟩ := cell_int hi g7
      obtain ⟨m8, rfl, w8⟩ := cell_int hi g8
      exact ⟨⟨m0, m1, m2, m3, m4, m5, m6, m7, m8⟩, rfl, w0, w1, w7, w8⟩
theorem pos_cells {t s i : TypeId} {f0 f1 f2 : Field} {fuel : Nat} {cs : List Value} {d : DataW H × List MemPlace} (ht : P.underlying t = some (.struct #[f0, f1, f2])) (hs : P.underlying s = some (.slice i)) (hi : P.underlying i = some (.int .i64)) (hci : P.cellsOf i = 1)
    (hone : (oneCellFields P #[f0, f1, f2] && decide (f0.type = s) && decide (f1.type = s) && decide (f2.type = i)) = true) (hC : P.cellsOf t = 3)
    (hf : DataW.trod enc P w base (fun _ => true) true fuel t cs = some d) : ∃ q : PV, cs = q.cells ∧ q.In w := by
  simp only [Bool.and_eq_true, decide_eq_true_eq] at hone
  obtain ⟨⟨⟨hone, t0⟩, t1⟩, t2⟩ := hone
  obtain ⟨xs, n, _, hx, hsz, hlen, hg⟩ := DataW.trod_struct ht hf
  match cs, hsz.trans hC with
  | [c0, c1, c2], _ =>
    obtain ⟨o0, k0⟩ := hone_of hone 0 f0 rfl
    obtain ⟨o1, k1⟩ := hone_of hone 1 f1 rfl
    obtain ⟨o2, k2⟩ := hone_of hone 2 f2 rfl
    match xs, hlen with
    | [y0, y1, y2], _ =>
      have g0 : DataW.trod enc P w base (fun _ => true) true n f0.type [c0] = some y0 := by simpa [o0, k0] using hg 0 f0 rfl
      rw [t0] at g0
      have g1 : DataW.trod enc P w base (fun _ => true) true n f1.type [c1] = some y1 := by simpa [o1, k1] using hg 1 f1 rfl
      rw [t1] at g1
      have g2 : DataW.trod enc P w base (fun _ => true) true n f2.type [c2] = some y2 := by simpa [o2, k2] using hg 2 f2 rfl
      rw [t2] at g2
      obtain ⟨a1, n1, e1, us, rfl, l1, m1, r1⟩ := cell_row hs hi hci g0
      obtain ⟨a2, n2, e2, vs, rfl, l2, m2, r2⟩ := cell_row hs hi hci g1
      obtain ⟨m, rfl, hw⟩ := cell_int hi g2
      exact ⟨⟨a1, a2, n1, e1, n2, e2, m, us, vs⟩, rfl, hw, ⟨r1, r2, l1, l2, m1, m2⟩⟩
theorem open_game {r : Reach} {b0 : Nat} {t R Q s i b : TypeId} {h0 h1 h2 h3 h4 f0 f1 f2 f3 f4 f5 f6 f7 f8 e0 e1 e2 : Field} {v : Value} {d : DataW H} {ps : List MemPlace} (hG : P.underlying t = some (.struct #[h0, h1, h2, h3, h4])) (hR : P.underlying R = some (.struct #[f0, f1, f2, f3, f4, f5, f6, f7, f8])) (hQ : P.underlying Q = some (.struct #[e0, e1, e2]))
    (hs : P.underlying s = some (.slice i)) (hi : P.underlying i = some (.int .i64)) (hb : P.underlying b = some .bool) (hci : P.cellsOf i = 1)
    (hk : (decide (h0.type = R) && decide (h1.type = Q) && decide (h2.type = s) && decide (h3.type = Q) && decide (h4.type = i) && decide (h0.offset = 0) && decide (h1.offset = 9) && decide (h2.offset = 12) && decide (h3.offset = 13) && decide (h4.offset = 16) && decide (P.cellsOf R = 9) && decide (P.cellsOf Q = 3) && decide (P.cellsOf s = 1)) = true) (hC : P.cellsOf t = 17)
    (hone : (oneCellFields P #[f0, f1, f2, f3, f4, f5, f6, f7, f8] && decide (f0.type = i) && decide (f1.type = i) && decide (f2.type = b) && decide (f3.type = b) && decide (f4.type = b) && decide (f5.type = b) && decide (f6.type = b) && decide (f7.type = i) && decide (f8.type = i)) = true)
    (hone2 : (oneCellFields P #[e0, e1, e2] && decide (e0.type = s) && decide (e1.type = s) && decide (e2.type = i)) = true)
    (hv : Value.okWide P w r b0 t v) (h : DataW.Trod enc P w base (fun _ => true) true t v d ps) : ∃ g : GV, v = g.val ∧ g.In w := by
  simp only [Bool.and_eq_true, decide_eq_true_eq] at hk
  obtain ⟨⟨⟨⟨⟨⟨⟨⟨⟨⟨⟨⟨t0, t1⟩, t2⟩, t3⟩, t4⟩, o0⟩, o1⟩, o2⟩, o3⟩, o4⟩, kR⟩, kQ⟩, ks⟩ := hk
  obtain ⟨cs, rfl, hsz⟩ := okWide_struct hG hv
  obtain ⟨l⟩ := cs
  match l, hsz.trans hC with
  | [c0, c1, c2, c3, c4, c5, c6, c7, c8, c9, c10, c11, c12, c13, c14, c15, c16], _ =>
    obtain ⟨fuel, hf⟩ := h
    obtain ⟨xs, n, _, hx, _, hlen, hg⟩ := DataW.trod_struct hG hf
    match xs, hlen with
    | [y0, y1, y2, y3, y4], _ =>
      have g0 : DataW.trod enc P w base (fun _ => true) true n R [c0, c1, c2, c3, c4, c5, c6, c7, c8] = some y0 := by simpa [Value.cells, o0, t0, kR] using hg 0 h0 rfl
      have g1 : DataW.trod enc P w base (fun _ => true) true n Q [c9, c10, c11] = some y1 := by simpa [Value.cells, o1, t1, kQ] using hg 1 h1 rfl
      have g2 : DataW.trod enc P w base (fun _ => true) true n s [c12] = some y2 := by simpa [Value.cells, o2, t2, ks] using hg 2 h2 rfl
      have g3 : DataW.trod enc P w base (fun _ => true) true n Q [c13, c14, c15] = some y3 := by simpa [Value.cells, o3, t3, kQ] using hg 3 h3 rfl
      have g4 : DataW.trod enc P w base (fun _ => true) true n i [c16] = some y4 := by simpa [Value.cells, o4, t4, hci] using hg 4 h4 rfl
      obtain ⟨x, ex, hx⟩ := rules_cells hR hi hb hone kR g0
      obtain ⟨q, eq, hq⟩ := pos_cells hQ hs hi hci hone2 kQ g1
      obtain ⟨mm, mn, mc, ms, rfl, lm, hm, rm⟩ := cell_row hs hi hci g2
      obtain ⟨r, er, hr⟩ := pos_cells hQ hs hi hci hone2 kQ g3
      obtain ⟨rg, rfl, hrg⟩ := cell_int hi g4
      simp only [RV.cells, List.cons.injEq, and_true] at ex
      obtain ⟨rfl, rfl, rfl, rfl, rfl, rfl, rfl, rfl, rfl⟩ := ex
      simp only [PV.cells, List.cons.injEq, and_true] at eq er
      obtain ⟨rfl, rfl, rfl⟩ := eq
      obtain ⟨rfl, rfl, rfl⟩ := er
      exact ⟨⟨x, q, mm, mn, mc, ms, r, rg⟩, rfl, hx, hq.1, hr.1, hrg, ⟨hq.2, rm, lm, hm, hr.2⟩⟩
end
end Go.Proofs.Ytmngmbpdiaocjaa
