/- Small lemmas that open the arguments of a law: numbers, rules given by value, rows of bytes. No conditions. -/
import Derived.Test.YtkfflhhnaohhaaaRows
import Derived.WalkKit
import Derived.ProofKit
import Derived.OpenShut
import Derived.ShutString
import Derived.ChangeOld
import Derived.Below
import Derived.Lib.SmallJoins
import Derived.Lib.Hide
import Derived.Deep.Slices
import Derived.Deep.Fields
namespace Go.Proofs.Ytkfflhhnaohhaaa
open Go.Joins Go.ChangeShapes Go.WideShapes Go.ChangeAt Go.RowKit Go.Deep
open Go.ChangeMaps (open_string shut_string)

theorem own : ownKnob Try.prog.godebug = none := by kernel_rfl
theorem laidOut : laidOutB Try.prog = true := by kernel_rfl

theorem bcell {W w1 : World} (hb : Below W.heap.size W w1) : (∀ b o, b < W.heap.size → w1.cell? ⟨b, o, none⟩ = W.cell? ⟨b, o, none⟩) ∧ (∀ b o, b < W.heap.size → w1.frozen? ⟨b, o, none⟩ = W.frozen? ⟨b, o, none⟩) :=
  ⟨fun b o h => hb.cell (p := ⟨b, o, none⟩) h, fun b o h => hb.frozen (p := ⟨b, o, none⟩) h⟩

def I64 (n : Int) : Prop := -9223372036854775808 ≤ n ∧ n ≤ 9223372036854775807
theorem wf_i64 {n : Int} (h : (Lit.int .i64 n).wf = true) : I64 n := by
  simp [Lit.wf, IntKind.min, IntKind.max, IntKind.signed, IntKind.bits] at h
  unfold I64
  omega

/-- The nine fields of rules. -/
structure RV where
  p : Int
  s : Int
  st : Bool
  sk : Bool
  re : Bool
  fe : Bool
  ag : Bool
  c : Int
  l : Int
def RV.val (x : RV) : Value := .agg #[.int .i64 x.p, .int .i64 x.s, .bool x.st, .bool x.sk, .bool x.re, .bool x.fe, .bool x.ag, .int .i64 x.c, .int .i64 x.l]
def RV.Fit (x : RV) : Prop := I64 x.p ∧ I64 x.s ∧ I64 x.c ∧ I64 x.l

section
variable {H : Type} {enc : TypeId × Value → H} {P : Program} {w : World} {base : Nat} {spare : Nat → Bool} {held : Bool}
theorem cell_int {i : TypeId} {n : Nat} {c : Value} {y : DataW H × List MemPlace} (hi : P.underlying i = some (.int .i64)) (h : DataW.trod enc P w base spare held n i [c] = some y) : ∃ m : Int, c = .int .i64 m ∧ I64 m := by
  obtain ⟨m, e, -, hw⟩ := DataW.trod_int hi h
  simp at e
  exact ⟨m, e, wf_i64 hw⟩
theorem cell_bool {b : TypeId} {n : Nat} {c : Value} {y : DataW H × List MemPlace} (hb : P.underlying b = some .bool) (h : DataW.trod enc P w base spare held n b [c] = some y) : ∃ m : Bool, c = .bool m := by
  obtain ⟨m, e, -⟩ := DataW.trod_bool hb h
  simp at e
  exact ⟨m, e⟩
theorem open_rules {r : Reach} {b0 : Nat} {t i b : TypeId} {f0 f1 f2 f3 f4 f5 f6 f7 f8 : Field} {v : Value} {d : DataW H} {ps : List MemPlace} (hs : P.underlying t = some (.struct #[f0, f1, f2, f3, f4, f5, f6, f7, f8]))
    (hi : P.underlying i = some (.int .i64)) (hb : P.underlying b = some .bool)
    (hone : (oneCellFields P #[f0, f1, f2, f3, f4, f5, f6, f7, f8] && decide (f0.type = i) && decide (f1.type = i) && decide (f2.type = b) && decide (f3.type = b) && decide (f4.type = b) && decide (f5.type = b) && decide (f6.type = b) && decide (f7.type = i) && decide (f8.type = i)) = true) (hC : P.cellsOf t = 9)
    (hv : Value.okWide P w r b0 t v) (h : DataW.Trod enc P w base spare held t v d ps) : ∃ x : RV, v = x.val ∧ x.Fit := by
  simp only [Bool.and_eq_true, decide_eq_true_eq] at hone
  obtain ⟨⟨⟨⟨⟨⟨⟨⟨⟨hone, t0⟩, t1⟩, t2⟩, t3⟩, t4⟩, t5⟩, t6⟩, t7⟩, t8⟩ := hone
  obtain ⟨cs, rfl, hsz⟩ := okWide_struct hs hv
  obtain ⟨l⟩ := cs
  match l, hsz.trans hC with
  | [c0, c1, c2, c3, c4, c5, c6, c7, c8], _ =>
    obtain ⟨fuel, hf⟩ := h
    obtain ⟨xs, n, _, hx, _, hlen, hg⟩ := DataW.trod_struct hs hf
    obtain ⟨o0, k0⟩ := hone_of hone 0 f0 rfl
    obtain ⟨o1, k1⟩ := hone_of hone 1 f1 rfl
    obtain ⟨o2, k2⟩ := hone_of hone 2 f2 rfl
    obtain ⟨o3, k3⟩ := hone_of hone 3 f3 rfl
    obtain ⟨o4, k4⟩ := hone_of hone 4 f4 rfl
    obtain ⟨o5, k5⟩ := hone_of hone 5 f5 rfl
    obtain ⟨o6, k6⟩ := hone_of hone 6 f6 rfl
    obtain ⟨o7, k7⟩ := hone_of hone 7 f7 rfl
    obtain ⟨o8, k8⟩ := hone_of hone 8 f8 rfl
    match xs, hlen with
    | [y0, y1, y2, y3, y4, y5, y6, y7, y8], _ =>
      have g0 : DataW.trod enc P w base spare held n f0.type [c0] = some y0 := by simpa [Value.cells, o0, k0] using hg 0 f0 rfl
      rw [t0] at g0
      have g1 : DataW.trod enc P w base spare held n f1.type [c1] = some y1 := by simpa [Value.cells, o1, k1] using hg 1 f1 rfl
      rw [t1] at g1
      have g2 : DataW.trod enc P w base spare held n f2.type [c2] = some y2 := by simpa [Value.cells, o2, k2] using hg 2 f2 rfl
      rw [t2] at g2
      have g3 : DataW.trod enc P w base spare held n f3.type [c3] = some y3 := by simpa [Value.cells, o3, k3] using hg 3 f3 rfl
      rw [t3] at g3
      have g4 : DataW.trod enc P w base spare held n f4.type [c4] = some y4 := by simpa [Value.cells, o4, k4] using hg 4 f4 rfl
      rw [t4] at g4
      have g5 : DataW.trod enc P w base spare held n f5.type [c5] = some y5 := by simpa [Value.cells, o5, k5] using hg 5 f5 rfl
      rw [t5] at g5
      have g6 : DataW.trod enc P w base spare held n f6.type [c6] = some y6 := by simpa [Value.cells, o6, k6] using hg 6 f6 rfl
      rw [t6] at g6
      have g7 : DataW.trod enc P w base spare held n f7.type [c7] = some y7 := by simpa [Value.cells, o7, k7] using hg 7 f7 rfl
      rw [t7] at g7
      have g8 : DataW.trod enc P w base spare held n f8.type [c8] = some y8 := by simpa [Value.cells, o8, k8] using hg 8 f8 rfl
      rw [t8] at g8
      obtain ⟨m0, rfl, w0⟩ := cell_int hi g0
      obtain ⟨m1, rfl, w1⟩ := cell_int hi g1
      obtain ⟨m2, rfl⟩ := cell_bool hb g2
      obtain ⟨m3, rfl⟩ := cell_bool hb g3
      obtain ⟨m4, rfl⟩ := cell_bool hb g4
      obtain ⟨m5, rfl⟩ := cell_bool hb g5
      obtain ⟨m6, rfl⟩ := cell_bool hb g6
      obtain ⟨m7, rfl, w7⟩ := cell_int hi g7
      obtain ⟨m8, rfl, w8⟩ := cell_int hi g8
      exact ⟨⟨m0, m1, m2, m3, m4, m5, m6, m7, m8⟩, rfl, w0, w1, w7, w8⟩

theorem vars_len {m : Nat → Bool} : ∀ {ns : List String} {gs : List (DataW H)} {ps : List MemPlace}, DataW.TrodVars enc P w m ns gs ps → gs.length = ns.length
  | [], [], _, _ => rfl
  | [], _ :: _, _, h => h.elim
  | _ :: _, [], _, h => h.elim
  | _ :: _, _ :: _, _, h => by
    obtain ⟨_, _, _, _, _, _, _, _, _, _, hs, _⟩ := h
    simp only [List.length_cons]
    rw [vars_len hs]
theorem vars_1 {m : Nat → Bool} {n1 : String} {gs : List (DataW H)} {ps : List MemPlace} (h : DataW.TrodVars enc P w m [n1] gs ps) : ∃ g1, gs = [g1] := by
  match gs, vars_len h with
  | [g1], _ => exact ⟨g1, rfl⟩
theorem vars_2 {m : Nat → Bool} {n1 n2 : String} {gs : List (DataW H)} {ps : List MemPlace} (h : DataW.TrodVars enc P w m [n1, n2] gs ps) : ∃ g1 g2, gs = [g1, g2] := by
  match gs, vars_len h with
  | [g1, g2], _ => exact ⟨g1, g2, rfl⟩
theorem vars_6 {m : Nat → Bool} {n1 n2 n3 n4 n5 n6 : String} {gs : List (DataW H)} {ps : List MemPlace} (h : DataW.TrodVars enc P w m [n1, n2, n3, n4, n5, n6] gs ps) : ∃ g1 g2 g3 g4 g5 g6, gs = [g1, g2, g3, g4, g5, g6] := by
  match gs, vars_len h with
  | [g1, g2, g3, g4, g5, g6], _ => exact ⟨g1, g2, g3, g4, g5, g6, rfl⟩

/-- A slice of bytes that came in: nil, or a row of cells. -/
def IsRow (w : World) (a : Option Addr) (len cap : Nat) (zs : List Int) : Prop :=
  (a = none ∧ len = 0 ∧ cap = 0 ∧ zs = []) ∨
  ∃ b off, a = some ⟨b, off, none⟩ ∧ 0 < cap ∧ len ≤ cap ∧ cap ≤ maxLen ∧ zs.length = cap ∧ b < w.heap.size ∧ (∀ i, i < zs.length → w.cell? ⟨b, off + i, none⟩ = some (.int .u8 (zs.getD i 0))) ∧ ∀ i, 0 ≤ zs.getD i 0 ∧ zs.getD i 0 ≤ 255
end
end Go.Proofs.Ytkfflhhnaohhaaa
