/- Res7, Mk7, Mk8, Mk9, Mk10, Mk11, Mk12, Rm8, Mk13, Rall7, Ri7, Rm9, Lm7, LmS, RinP, one after the other. No conditions. -/
import Derived.Test.YthbkdlidpdliaaaBunD
import Derived.Test.YthbkdlidpdliaaaOwn4
import Derived.Test.YthbkdlidpdliaaaWat
import Derived.Deep.AppendLies
import Derived.Test.YthbkdlidpdliaaaBunC
import Derived.Deep.MidRow
import Derived.Test.YthbkdlidpdliaaaStep
import Derived.BigFrame
import Derived.Deep.CutRange
import Derived.StillTailTactics
/- Res7: Rows of results of moves. -/
namespace Go.Proofs.Ythbkdlidpdliaaa
open Go.Joins Go.ChangeShapes Go.WideShapes Go.ChangeAt Go.RowKit Go.Deep
set_option linter.unusedVariables false

/-- A result as numbers. -/
structure R7 where
  mv : Int
  gn : Int
  ag : Bool
  nx : Int
  xs : List Int
  ys : List Int
/-- Where the rows of a result lie. -/
structure Q7 where
  g1 : Nat
  g2 : Nat
  n1 : Nat
  k1 : Nat
  k2 : Nat
def cells7 (x : R7 × Q7) : List Value := [.int .i64 x.1.mv, .int .i64 x.1.gn, .bool x.1.ag, .slice (some ⟨x.2.g1, 0, none⟩) x.2.n1 x.2.k1, .slice (some ⟨x.2.g2, 0, none⟩) 2 x.2.k2, .int .i64 x.1.nx]
def flat7 (L : List (R7 × Q7)) : List Value := L.flatMap cells7
theorem cells7_one (x : R7 × Q7) : ∀ u ∈ cells7 x, u.oneCell' = true := by
  intro u hu
  simp only [cells7, List.mem_cons, List.not_mem_nil, or_false] at hu
  rcases hu with rfl | rfl | rfl | rfl | rfl | rfl <;> rfl
theorem flat7_len (L : List (R7 × Q7)) : (flat7 L).length = L.length * 6 := by
  induction L with
  | nil => rfl
  | cons x r ih =>
    have e : flat7 (x :: r) = cells7 x ++ flat7 r := by simp [flat7]
    rw [e, List.length_append, ih, List.length_cons]
    have : (cells7 x).length = 6 := rfl
    omega
theorem flat7_snoc (L : List (R7 × Q7)) (x : R7 × Q7) : flat7 (L ++ [x]) = flat7 L ++ cells7 x := by simp [flat7]
theorem flat7_at : ∀ (L : List (R7 × Q7)) (i : Nat) (x : R7 × Q7), L[i]? = some x → ∀ o, o < 6 → (flat7 L)[i * 6 + o]? = (cells7 x)[o]?
  | [], _, _, h, _, _ => by cases h
  | y :: r, 0, x, h, o, ho => by
    cases h
    have e : flat7 (y :: r) = cells7 y ++ flat7 r := by simp [flat7]
    rw [e, Nat.zero_mul, Nat.zero_add, List.getElem?_append_left (by show o < 6; exact ho)]
  | y :: r, i + 1, x, h, o, ho => by
    have e : flat7 (y :: r) = cells7 y ++ flat7 r := by simp [flat7]
    rw [e, List.getElem?_append_right (by show 6 ≤ _; omega)]
    have := flat7_at r i x (by simpa using h) o ho
    rw [← this]
    congr 1
    show (i + 1) * 6 + o - 6 = _
    omega
/-- A result's rows in blocks of their own. -/
structure It7 (u : World) (B : Nat) (x : R7 × Q7) : Prop where
  o : PosO u B (some ⟨x.2.g1, 0, none⟩) (some ⟨x.2.g2, 0, none⟩) x.2.g1 x.2.g2 x.2.n1 2 x.1.xs x.1.ys
  l1 : x.2.g1 < u.heap.size
  l2 : x.2.g2 < u.heap.size
  k1 : x.2.n1 ≤ x.2.k1
  k2 : 2 ≤ x.2.k2
def Far7 (x y : R7 × Q7) : Prop := x.2.g1 ≠ y.2.g1 ∧ x.2.g1 ≠ y.2.g2 ∧ x.2.g2 ≠ y.2.g1 ∧ x.2.g2 ≠ y.2.g2
/-- A row of results that a call owns. -/
structure Rs7 (u : World) (B : Nat) (v : Value) (L : List (R7 × Q7)) : Prop where
  own : u.ownsRow B 68 6 v L.length (flat7 L)
  it : ∀ x ∈ L, It7 u B x
  ne : ∀ x ∈ L, ∀ k, v.ownBlock = some k → k ≠ x.2.g1 ∧ k ≠ x.2.g2
  pw : L.Pairwise Far7
theorem own_keepS {w w' : World} {B e s n : Nat} {v : Value} {xs : List Value} (h : w.ownsRow B e s v n xs) (k : Below w.heap.size w w') : w'.ownsRow B e s v n xs := by
  obtain ⟨h1, h2 | ⟨g, cap, cur, hv, hb, hg, hr⟩⟩ := h
  · exact ⟨h1, .inl h2⟩
  · exact ⟨h1, .inr ⟨g, cap, cur, hv, hb, by rw [k.block g (Array.getElem?_eq_some_iff.1 hg).1]; exact hg, hr⟩⟩
theorem own_lt {w : World} {B e s n : Nat} {v : Value} {xs : List Value} (h : w.ownsRow B e s v n xs) (k : Nat) (hk : v.ownBlock = some k) : B ≤ k ∧ k < w.heap.size := by
  obtain ⟨h1, ⟨rfl, -⟩ | ⟨g, cap, cur, rfl, hb, hg, hr⟩⟩ := h
  · cases hk
  · simp only [Value.ownBlock, Option.some.injEq] at hk
    subst hk
    exact ⟨hb, (Array.getElem?_eq_some_iff.1 hg).1⟩
theorem PosO.grown {u v : World} {B b1 b2 n1 n2 : Nat} {a1 a2 : Option Addr} {xs ys : List Int} {row : Option Nat} (h : PosO u B a1 a2 b1 b2 n1 n2 xs ys) (hg : u.grownBy v row) (h1 : ∀ k, row = some k → k ≠ b1) (h2 : ∀ k, row = some k → k ≠ b2) : PosO v B a1 a2 b1 b2 n1 n2 xs ys :=
  ⟨h.o1.grown hg h1, h.o2.grown hg h2, h.ne, h.l1, h.l2⟩
theorem It7.below {u v : World} {B : Nat} {x : R7 × Q7} (h : It7 u B x) (k : Below u.heap.size u v) : It7 v B x :=
  ⟨h.o.below k, Nat.lt_of_lt_of_le h.l1 k.size, Nat.lt_of_lt_of_le h.l2 k.size, h.k1, h.k2⟩
theorem It7.grown {u v : World} {B : Nat} {x : R7 × Q7} {row : Option Nat} (h : It7 u B x) (hg : u.grownBy v row) (hr : ∀ k, row = some k → k ≠ x.2.g1 ∧ k ≠ x.2.g2) : It7 v B x :=
  ⟨h.o.grown hg (fun k hk => (hr k hk).1) (fun k hk => (hr k hk).2), Nat.lt_of_lt_of_le h.l1 hg.size, Nat.lt_of_lt_of_le h.l2 hg.size, h.k1, h.k2⟩
theorem Rs7.below {u v : World} {B : Nat} {x : Value} {L : List (R7 × Q7)} (h : Rs7 u B x L) (k : Below u.heap.size u v) : Rs7 v B x L :=
  ⟨own_keepS h.own k, fun y hy => (h.it y hy).below k, h.ne, h.pw⟩
theorem Rs7.drew {u : World} {B : Nat} {x : Value} {L : List (R7 × Q7)} (h : Rs7 u B x L) : Rs7 u.drew B x L := h.below (Below.refl _ _).drew
theorem rs7_nil (u : World) (B : Nat) : Rs7 u B (.slice none 0 0) [] :=
  ⟨World.ownsRow_nil _ _ _ _, (fun _ h => by cases h), (fun _ h => by cases h), List.Pairwise.nil⟩
theorem Rs7.snoc {u u' w1 : World} {B H0 g cap : Nat} {v : Value} {L : List (R7 × Q7)} {x : R7 × Q7} (h : Rs7 u B v L) (hx : It7 u B x) (hf : ∀ y ∈ L, y.2.g1 < H0 ∧ y.2.g2 < H0) (hv : ∀ k, v.ownBlock = some k → k < H0) (hx1 : H0 ≤ x.2.g1) (hx2 : H0 ≤ x.2.g2) (hu : Below u.heap.size u u')
    (hown : w1.ownsRow B 68 6 (.slice (some ⟨g, 0, none⟩) (L.length + 1) cap) (L.length + 1) (flat7 L ++ cells7 x)) (hg : u'.grownBy w1 v.ownBlock) (hat : v.ownBlock = some g ∨ g = u'.heap.size) :
    Rs7 w1 B (.slice (some ⟨g, 0, none⟩) (L.length + 1) cap) (L ++ [x]) := by
  have hgx : g ≠ x.2.g1 ∧ g ≠ x.2.g2 := by
    rcases hat with e | e
    · have := hv _ e
      omega
    · have h1 := Nat.lt_of_lt_of_le hx.l1 hu.size
      have h2 := Nat.lt_of_lt_of_le hx.l2 hu.size
      omega
  have hgy : ∀ y ∈ L, g ≠ y.2.g1 ∧ g ≠ y.2.g2 := by
    intro y hy
    rcases hat with e | e
    · exact h.ne y hy g e
    · have h1 := Nat.lt_of_lt_of_le (h.it y hy).l1 hu.size
      have h2 := Nat.lt_of_lt_of_le (h.it y hy).l2 hu.size
      omega
  refine ⟨by rw [List.length_append, List.length_singleton, flat7_snoc]; exact hown, fun y hy => ?_, fun y hy k hk => ?_, ?_⟩
  · rcases List.mem_append.1 hy with hy | hy
    · exact ((h.it y hy).below hu).grown hg (fun k hk => h.ne y hy k hk)
    · rw [List.mem_singleton] at hy
      subst hy
      exact (hx.below hu).grown hg (fun k hk => by have := hv k hk; omega)
  · have hk' : g = k := by simpa [Value.ownBlock] using hk
    subst hk'
    rcases List.mem_append.1 hy with hy | hy
    · exact hgy y hy
    · rw [List.mem_singleton] at hy
      subst hy
      exact hgx
  · rw [List.pairwise_append]
    refine ⟨h.pw, List.pairwise_singleton _ _, fun y hy z hz => ?_⟩
    rw [List.mem_singleton] at hz
    subst hz
    have := hf y hy
    unfold Far7
    omega
/-- A cell of a row of results. -/
theorem Rs7.cell {u : World} {B g n cap : Nat} {L : List (R7 × Q7)} (h : Rs7 u B (.slice (some ⟨g, 0, none⟩) n cap) L) {i : Nat} {x : R7 × Q7} (hi : L[i]? = some x) {o : Nat} (ho : o < 6) : u.cell? ⟨g, i * 6 + o, none⟩ = (cells7 x)[o]? := by
  obtain ⟨h1, ⟨e, -⟩ | ⟨g', cap', cur, hv, hb, hg, hn, hc, hs, ht⟩⟩ := h.own
  · cases e
  · simp only [Value.slice.injEq, Option.some.injEq, Addr.mk.injEq] at hv
    obtain ⟨⟨rfl, -⟩, -, rfl⟩ := hv
    have e := flat7_at L i x hi o ho
    rw [← ht, List.getElem?_take] at e
    have hL : i < L.length := (List.getElem?_eq_some_iff.1 hi).1
    rw [if_pos (by omega)] at e
    rw [← e]
    simp [World.cell?, hg]
/-- The results of the moves below n. -/
def rsF (f : Nat → Option R7) : Nat → List R7
  | 0 => []
  | n + 1 => rsF f n ++ (f n).toList
theorem rsF_len (f : Nat → Option R7) : ∀ n, (rsF f n).length ≤ n
  | 0 => Nat.le_refl _
  | n + 1 => by
    have h1 := rsF_len f n
    have h2 : (f n).toList.length ≤ 1 := by cases f n <;> simp
    simp only [rsF, List.length_append]
    omega
/-- A legal move's result. -/
def r7V (c l p pp : Int) (ag : Bool) (ys : List Int) (move : Int) (m : Res) : R7 := ⟨move, gnV c l p pp ys m, agV ag m, nxV ag pp m, tkX c l p pp m.last m.xs, tkY c l p pp m.last m.xs m.ys⟩
def f7 (p c l pp : Int) (st sk re fe ag : Bool) (xs ys : List Int) (j : Nat) : Option R7 :=
  (lgV c l p pp fe xs (mvV true p pp st sk re xs ys (j : Int))).map (r7V c l p pp ag ys (j : Int))
def agL (ag : Bool) (LV : Option Res) : Bool := match LV with | none => false | some m => agV ag m
theorem lg_none {p s c l pp : Int} {st sk re fe ag : Bool} {n1 n2 : Nat} {xs ys : List Int} {k : Bool} (hk : okP (okR p s c l st ag) p n1 n2 pp xs ys = k) (l1 : xs.length = n1) {move : Int} (h : lgV c l p pp fe xs (mvV k p pp st sk re xs ys move) = none) :
    (lgC c l p pp fe xs (mvCd k p pp st sk re xs ys move) (mvV k p pp st sk re xs ys move) == 0) = false := by
  cases hm : mvV k p pp st sk re xs ys move with
  | none =>
    show (mvCd k p pp st sk re xs ys move == 0) = false
    rcases mvV_none hk l1 hm with e | e | e | e <;> rw [e] <;> rfl
  | some m =>
    rw [hm] at h
    unfold lgV at h
    unfold lgC
    simp only at h ⊢
    split at h
    · rename_i hb
      rw [if_pos hb]
      rfl
    · cases h
theorem lg_some {p c l pp : Int} {fe : Bool} {xs : List Int} {cd : Int} {MV : Option Res} {m : Res} (h : lgV c l p pp fe xs MV = some m) : MV = some m ∧ lgC c l p pp fe xs cd MV = 0 := by
  cases MV with
  | none => cases h
  | some m0 =>
    unfold lgV at h
    unfold lgC
    simp only at h ⊢
    split at h
    · cases h
    · rename_i hb
      rw [if_neg hb]
      exact ⟨h, rfl⟩
theorem infoR : (Try.prog.info? 68).map (fun i => (i.zero, i.size, i.bytes)) = some (some (.agg #[.int .i64 0, .int .i64 0, .bool false, .slice none 0 0, .slice none 0 0, .int .i64 0]), 6, 80) := by kernel_rfl
/-- What a function that makes results leaves. -/
def RsP (rs : List R7) (w : World) (e : Ending) (w' : World) : Prop := ∃ v L, e = .returned v ∧ Rs7 w' w.heap.size v L ∧ L.map Prod.fst = rs ∧ Below w.heap.size w w'
end Go.Proofs.Ythbkdlidpdliaaa

/- Mk7: A move that has been sown and captured, as the program looks at it. -/
namespace Go.Proofs.Ythbkdlidpdliaaa
open Go.Joins Go.ChangeShapes Go.WideShapes Go.ChangeAt Go.RowKit Go.Deep
set_option linter.unusedVariables false

/-- A made move, boxed at a call's start. -/
def MmAt (w : World) (p s c l : Int) (st sk re fe ag : Bool) (player : Int) (s1 s2 : Option Addr) (sn1 sc1 sn2 sc2 : Nat) (sp sq : Int) (p1 p2 : Option Addr) (pn1 pc1 pn2 pc2 : Nat) (pp : Int) (t1 t2 : Option Addr) (tn1 tc1 tn2 tc2 : Nat) (tp tq : Int) (u : World) : Prop := (w.heap.size < u.heap.size ∧ u.cell? ⟨w.heap.size, 0, none⟩ = some (.int .i64 p) ∧ u.cell? ⟨w.heap.size, 1, none⟩ = some (.int .i64 s) ∧ u.cell? ⟨w.heap.size, 2, none⟩ = some (.bool st) ∧ u.cell? ⟨w.heap.size, 3, none⟩ = some (.bool sk) ∧ u.cell? ⟨w.heap.size, 4, none⟩ = some (.bool re) ∧ u.cell? ⟨w.heap.size, 5, none⟩ = some (.bool fe) ∧ u.cell? ⟨w.heap.size, 6, none⟩ = some (.bool ag) ∧ u.cell? ⟨w.heap.size, 7, none⟩ = some (.int .i64 c) ∧ u.cell? ⟨w.heap.size, 8, none⟩ = some (.int .i64 l) ∧ u.cell? ⟨w.heap.size, 9, none⟩ = some (.int .i64 player) ∧ u.cell? ⟨w.heap.size, 10, none⟩ = some (.slice s1 sn1 sc1) ∧ u.cell? ⟨w.heap.size, 11, none⟩ = some (.slice s2 sn2 sc2) ∧ u.cell? ⟨w.heap.size, 12, none⟩ = some (.int .i64 sp) ∧ u.cell? ⟨w.heap.size, 13, none⟩ = some (.int .i64 sq) ∧ u.cell? ⟨w.heap.size, 14, none⟩ = some (.slice p1 pn1 pc1) ∧ u.cell? ⟨w.heap.size, 15, none⟩ = some (.slice p2 pn2 pc2) ∧ u.cell? ⟨w.heap.size, 16, none⟩ = some (.int .i64 pp) ∧ u.cell? ⟨w.heap.size, 17, none⟩ = some (.slice t1 tn1 tc1) ∧ u.cell? ⟨w.heap.size, 18, none⟩ = some (.slice t2 tn2 tc2) ∧ u.cell? ⟨w.heap.size, 19, none⟩ = some (.int .i64 tp) ∧ u.cell? ⟨w.heap.size, 20, none⟩ = some (.int .i64 tq)) ∧ Below w.heap.size w u
section
variable {w u v : World} {p s c l player : Int} {st sk re fe ag : Bool} {s1 s2 : Option Addr} {sn1 sc1 sn2 sc2 : Nat} {sp sq : Int} {p1 p2 : Option Addr} {pn1 pc1 pn2 pc2 : Nat} {pp : Int} {t1 t2 : Option Addr} {tn1 tc1 tn2 tc2 : Nat} {tp tq : Int}
theorem MmAt.below (h : MmAt w p s c l st sk re fe ag player s1 s2 sn1 sc1 sn2 sc2 sp sq p1 p2 pn1 pc1 pn2 pc2 pp t1 t2 tn1 tc1 tn2 tc2 tp tq u) (k : Below u.heap.size u v) : MmAt w p s c l st sk re fe ag player s1 s2 sn1 sc1 sn2 sc2 sp sq p1 p2 pn1 pc1 pn2 pc2 pp t1 t2 tn1 tc1 tn2 tc2 tp tq v := by
  obtain ⟨⟨hb, h⟩, hw⟩ := h
  have e := fun o => k.cell (p := ⟨w.heap.size, o, none⟩) hb
  exact ⟨⟨Nat.lt_of_lt_of_le hb k.size, by rw [e, e, e, e, e, e, e, e, e, e, e, e, e, e, e, e, e, e, e, e, e]; exact h⟩, hw.trans (k.mono hw.size)⟩
theorem MmAt.drew (h : MmAt w p s c l st sk re fe ag player s1 s2 sn1 sc1 sn2 sc2 sp sq p1 p2 pn1 pc1 pn2 pc2 pp t1 t2 tn1 tc1 tn2 tc2 tp tq u) : MmAt w p s c l st sk re fe ag player s1 s2 sn1 sc1 sn2 sc2 sp sq p1 p2 pn1 pc1 pn2 pc2 pp t1 t2 tn1 tc1 tn2 tc2 tp tq u.drew := ⟨h.1, h.2.drew⟩
theorem MmAt.range (h : MmAt w p s c l st sk re fe ag player s1 s2 sn1 sc1 sn2 sc2 sp sq p1 p2 pn1 pc1 pn2 pc2 pp t1 t2 tn1 tc1 tn2 tc2 tp tq u) : u.rangeAt w.heap.size 0 [.int .i64 p, .int .i64 s, .bool st, .bool sk, .bool re, .bool fe, .bool ag, .int .i64 c, .int .i64 l, .int .i64 player, .slice s1 sn1 sc1, .slice s2 sn2 sc2, .int .i64 sp, .int .i64 sq, .slice p1 pn1 pc1, .slice p2 pn2 pc2, .int .i64 pp, .slice t1 tn1 tc1, .slice t2 tn2 tc2, .int .i64 tp, .int .i64 tq] := by
  obtain ⟨⟨_, m0, m1, m2, m3, m4, m5, m6, m7, m8, m9, m10, m11, m12, m13, m14, m15, m16, m17, m18, m19, m20⟩, -⟩ := h
  intro j v hj
  match j, hj with
  | 0, hj => cases hj; exact m0
  | 1, hj => cases hj; exact m1
  | 2, hj => cases hj; exact m2
  | 3, hj => cases hj; exact m3
  | 4, hj => cases hj; exact m4
  | 5, hj => cases hj; exact m5
  | 6, hj => cases hj; exact m6
  | 7, hj => cases hj; exact m7
  | 8, hj => cases hj; exact m8
  | 9, hj => cases hj; exact m9
  | 10, hj => cases hj; exact m10
  | 11, hj => cases hj; exact m11
  | 12, hj => cases hj; exact m12
  | 13, hj => cases hj; exact m13
  | 14, hj => cases hj; exact m14
  | 15, hj => cases hj; exact m15
  | 16, hj => cases hj; exact m16
  | 17, hj => cases hj; exact m17
  | 18, hj => cases hj; exact m18
  | 19, hj => cases hj; exact m19
  | 20, hj => cases hj; exact m20
  | n + 21, hj => simp at hj
theorem MmAt.be (h : MmAt w p s c l st sk re fe ag player s1 s2 sn1 sc1 sn2 sc2 sp sq p1 p2 pn1 pc1 pn2 pc2 pp t1 t2 tn1 tc1 tn2 tc2 tp tq u) : Below w.heap.size w u := h.2
end
theorem mm_new (p s c l : Int) (st sk re fe ag : Bool) (player : Int) (s1 s2 : Option Addr) (sn1 sc1 sn2 sc2 : Nat) (sp sq : Int) (p1 p2 : Option Addr) (pn1 pc1 pn2 pc2 : Nat) (pp : Int) (t1 t2 : Option Addr) (tn1 tc1 tn2 tc2 : Nat) (tp tq : Int) (w : World) (T : TypeId) : MmAt w p s c l st sk re fe ag player s1 s2 sn1 sc1 sn2 sc2 sp sq p1 p2 pn1 pc1 pn2 pc2 pp t1 t2 tn1 tc1 tn2 tc2 tp tq (w.alloc (.cells #[.int .i64 p, .int .i64 s, .bool st, .bool sk, .bool re, .bool fe, .bool ag, .int .i64 c, .int .i64 l, .int .i64 player, .slice s1 sn1 sc1, .slice s2 sn2 sc2, .int .i64 sp, .int .i64 sq, .slice p1 pn1 pc1, .slice p2 pn2 pc2, .int .i64 pp, .slice t1 tn1 tc1, .slice t2 tn2 tc2, .int .i64 tp, .int .i64 tq] T)) :=
  ⟨⟨by simp, by go_simp, by go_simp, by go_simp, by go_simp, by go_simp, by go_simp, by go_simp, by go_simp, by go_simp, by go_simp, by go_simp, by go_simp, by go_simp, by go_simp, by go_simp, by go_simp, by go_simp, by go_simp, by go_simp, by go_simp, by go_simp⟩, (Below.refl _ _).alloc (Nat.le_refl _) _⟩
set_option maxHeartbeats 2000000 in
set_option maxRecDepth 100000 in
theorem again_any (p s c l : Int) (st sk re fe ag : Bool) (player : Int) (s1 s2 : Option Addr) (sn1 sc1 sn2 sc2 : Nat) (sp sq : Int) (p1 p2 : Option Addr) (pn1 pc1 pn2 pc2 : Nat) (pp : Int) (t1 t2 : Option Addr) (tn1 tc1 tn2 tc2 : Nat) (tp tq : Int) (w : World) :
    Calls Try.prog 49 #[.agg #[.int .i64 p, .int .i64 s, .bool st, .bool sk, .bool re, .bool fe, .bool ag, .int .i64 c, .int .i64 l, .int .i64 player, .slice s1 sn1 sc1, .slice s2 sn2 sc2, .int .i64 sp, .int .i64 sq, .slice p1 pn1 pc1, .slice p2 pn2 pc2, .int .i64 pp, .slice t1 tn1 tc1, .slice t2 tn2 tc2, .int .i64 tp, .int .i64 tq]] w fun e w' => e = .returned (.bool (ag && decide (sp = -1))) ∧ Below w.heap.size w w' := by
  have HX := Lib.hid (mm_new p s c l st sk re fe ag player s1 s2 sn1 sc1 sn2 sc2 sp sq p1 p2 pn1 pc1 pn2 pc2 pp t1 t2 tn1 tc1 tn2 tc2 tp tq w 73)
  by_cases h : sp = -1
  · have d : (sp == -1) = true := by simpa using h
    rw [decide_eq_true h]
    clear h
    cases ag
    all_goals
      go_enter Try.func49, Try.ntmps49
      go_wp2_with fail
      go_ret
      exact ⟨rfl, HX.out.be⟩
  · have d : (sp == -1) = false := by simpa using h
    rw [decide_eq_false h]
    clear h
    cases ag
    all_goals
      go_enter Try.func49, Try.ntmps49
      go_wp2_with fail
      go_ret
      exact ⟨rfl, HX.out.be⟩
set_option maxHeartbeats 2000000 in
set_option maxRecDepth 100000 in
theorem nextM_any (p s c l : Int) (st sk re fe ag : Bool) (player : Int) (s1 s2 : Option Addr) (sn1 sc1 sn2 sc2 : Nat) (sp sq : Int) (p1 p2 : Option Addr) (pn1 pc1 pn2 pc2 : Nat) (pp : Int) (t1 t2 : Option Addr) (tn1 tc1 tn2 tc2 : Nat) (tp tq : Int) (w : World) (hpl : player = 0 ∨ player = 1) :
    Calls Try.prog 50 #[.agg #[.int .i64 p, .int .i64 s, .bool st, .bool sk, .bool re, .bool fe, .bool ag, .int .i64 c, .int .i64 l, .int .i64 player, .slice s1 sn1 sc1, .slice s2 sn2 sc2, .int .i64 sp, .int .i64 sq, .slice p1 pn1 pc1, .slice p2 pn2 pc2, .int .i64 pp, .slice t1 tn1 tc1, .slice t2 tn2 tc2, .int .i64 tp, .int .i64 tq]] w fun e w' => e = .returned (.agg #[.slice t1 tn1 tc1, .slice t2 tn2 tc2, .int .i64 (if ag && decide (sp = -1) then player else 1 - player)]) ∧ Below w.heap.size w w' := by
  have HX := Lib.hid ((mm_new p s c l st sk re fe ag player s1 s2 sn1 sc1 sn2 sc2 sp sq p1 p2 pn1 pc1 pn2 pc2 pp t1 t2 tn1 tc1 tn2 tc2 tp tq w 73).below (al1 _ (.cells #[.slice none 0 0, .slice none 0 0, .int .i64 0] 41)))
  have HZ := Lib.hid (show ZeroP _ (w.heap.size + 1) from by have := zero_new (w.alloc (.cells #[.int .i64 p, .int .i64 s, .bool st, .bool sk, .bool re, .bool fe, .bool ag, .int .i64 c, .int .i64 l, .int .i64 player, .slice s1 sn1 sc1, .slice s2 sn2 sc2, .int .i64 sp, .int .i64 sq, .slice p1 pn1 pc1, .slice p2 pn2 pc2, .int .i64 pp, .slice t1 tn1 tc1, .slice t2 tn2 tc2, .int .i64 tp, .int .i64 tq] 73)) 41; simpa using this)
  have HAg : Hid (∀ u, Calls Try.prog 49 #[.agg #[.int .i64 p, .int .i64 s, .bool st, .bool sk, .bool re, .bool fe, .bool ag, .int .i64 c, .int .i64 l, .int .i64 player, .slice s1 sn1 sc1, .slice s2 sn2 sc2, .int .i64 sp, .int .i64 sq, .slice p1 pn1 pc1, .slice p2 pn2 pc2, .int .i64 pp, .slice t1 tn1 tc1, .slice t2 tn2 tc2, .int .i64 tp, .int .i64 tq]] u fun e w' => e = .returned (.bool (ag && decide (sp = -1))) ∧ Below u.heap.size u w') := Lib.hid (fun u => again_any p s c l st sk re fe ag player s1 s2 sn1 sc1 sn2 sc2 sp sq p1 p2 pn1 pc1 pn2 pc2 pp t1 t2 tn1 tc1 tn2 tc2 tp tq u)
  have hw1 : IntKind.i64.wrap (1 - player) = 1 - player := IntWalk.i64_in _ ⟨by omega, by omega⟩
  generalize (ag && decide (sp = -1)) = b at *
  cases b
  all_goals
    go_enter Try.func50, Try.ntmps50
    go_upto_region 1 with fail
    generalize (w.alloc (.cells #[.int .i64 p, .int .i64 s, .bool st, .bool sk, .bool re, .bool fe, .bool ag, .int .i64 c, .int .i64 l, .int .i64 player, .slice s1 sn1 sc1, .slice s2 sn2 sc2, .int .i64 sp, .int .i64 sq, .slice p1 pn1 pc1, .slice p2 pn2 pc2, .int .i64 pp, .slice t1 tn1 tc1, .slice t2 tn2 tc2, .int .i64 tp, .int .i64 tq] 73)).alloc (.cells #[.slice none 0 0, .slice none 0 0, .int .i64 0] 41) = u0 at *
    go_wp2_with (refine wpList_load_mid rfl 73 _ rfl w.heap.size 0 rfl _ _ (MmAt.range HX.out) Try.underlying73 rfl (by kernel_rfl) ?_)
    refine (HAg.out _).mono ?_
    rintro e u ⟨rfl, hb⟩
    have HX := Lib.hid (HX.out.below hb)
    have HZ := Lib.hid (HZ.out.below hb)
    clear hb
    obtain ⟨⟨_, -, -, -, -, -, -, -, -, -, m9, -, -, -, -, -, -, -, m17, m18, m19, m20⟩, -⟩ := HX.out
    go_wp2_with fail
    refine (position_any t1 t2 tn1 tc1 tn2 tc2 tp tq _ _).mono ?_
    rintro e u2 ⟨rfl, hb⟩
    have HX := Lib.hid (HX.out.below hb)
    have HZ := Lib.hid (HZ.out.below hb)
    obtain ⟨zl, z0, z1, z2, zf⟩ := HZ.out
    have f0 := zf 0
    have f1 := zf 1
    have f2 := zf 2
    clear hb zf m9 m17 m18 m19 m20
    go_wp2_with fail
    refine bodyPost_ret (v := .agg #[.slice t1 tn1 tc1, .slice t2 tn2 tc2, .int .i64 _]) (by simp [results, Try.results50, go_sem, z0, z1, z2]) rfl ⟨rfl, ?_⟩
    exact (((HX.out.be.setCell (p := ⟨w.heap.size + 1, 0, none⟩) (Nat.le_succ _) _).setCell (p := ⟨w.heap.size + 1, 1, none⟩) (Nat.le_succ _) _).setCell (p := ⟨w.heap.size + 1, 2, none⟩) (Nat.le_succ _) _)
set_option maxHeartbeats 2000000 in
set_option maxRecDepth 100000 in
theorem gain_any (p s c l : Int) (st sk re fe ag : Bool) (player : Int) (s1 s2 : Option Addr) (sn1 sc1 sn2 sc2 : Nat) (sp sq : Int) (p1 p2 : Option Addr) (pn1 pc1 pn2 pc2 : Nat) (pp : Int) (t1 t2 : Option Addr) (tn1 tc1 tn2 tc2 : Nat) (tp tq : Int) (vs ys : List Int) (w : World) (hpl : player = 0 ∨ player = 1) (ht : RowN w t2 vs) (hp : RowN w p2 ys) (lt : vs.length = tn2) (lp : ys.length = pn2) (ht2 : tn2 = 2) (hp2 : pn2 = 2)
    (hv : 0 ≤ vs.getD player.toNat 0 ∧ vs.getD player.toNat 0 ≤ 1000000) (hy : 0 ≤ ys.getD player.toNat 0 ∧ ys.getD player.toNat 0 ≤ 1000000) :
    Calls Try.prog 51 #[.agg #[.int .i64 p, .int .i64 s, .bool st, .bool sk, .bool re, .bool fe, .bool ag, .int .i64 c, .int .i64 l, .int .i64 player, .slice s1 sn1 sc1, .slice s2 sn2 sc2, .int .i64 sp, .int .i64 sq, .slice p1 pn1 pc1, .slice p2 pn2 pc2, .int .i64 pp, .slice t1 tn1 tc1, .slice t2 tn2 tc2, .int .i64 tp, .int .i64 tq]] w fun e w' => e = .returned (.int .i64 (vs.getD player.toNat 0 - ys.getD player.toNat 0)) ∧ Below w.heap.size w w' := by
  obtain ⟨P, rfl⟩ : ∃ P : Nat, player = (P : Int) := ⟨player.toNat, by omega⟩
  rw [Int.toNat_natCast] at *
  subst ht2
  subst hp2
  have HX := Lib.hid (mm_new p s c l st sk re fe ag (P : Int) s1 s2 sn1 sc1 sn2 sc2 sp sq p1 p2 pn1 pc1 2 pc2 pp t1 t2 tn1 tc1 2 tc2 tp tq w 73)
  have hx : vs[P]? = some (vs.getD P 0) := getD_at (by omega)
  have hz : ys[P]? = some (ys.getD P 0) := getD_at (by omega)
  obtain ⟨g, o, rfl, hgl, hcs⟩ := ht.2.resolve_left (by intro e; subst e; cases hx)
  obtain ⟨g', o', rfl, hgl', hcs'⟩ := hp.2.resolve_left (by intro e; subst e; cases hz)
  have hc0 := hcs _ _ hx
  have hc1 := hcs' _ _ hz
  clear hcs hcs'
  have z0 : (0 : Int) ≤ (P : Int) := by omega
  have z1 : (P : Int) < 2 := by omega
  generalize vs.getD P 0 = v at *
  generalize ys.getD P 0 = y at *
  obtain ⟨hv0, hv1⟩ := hv
  obtain ⟨hy0, hy1⟩ := hy
  have hw1 : IntKind.i64.wrap (v - y) = v - y := IntWalk.i64_in _ ⟨by omega, by omega⟩
  clear hx hz ht hp hpl
  have Hc0 : Hid (∀ u, Below w.heap.size w u → u.cell? ⟨g, o + P, none⟩ = some (.int .i64 v)) := Lib.hid (fun u hu => (hu.cell (p := ⟨g, o + P, none⟩) hgl).trans hc0)
  have Hc1 : Hid (∀ u, Below w.heap.size w u → u.cell? ⟨g', o' + P, none⟩ = some (.int .i64 y)) := Lib.hid (fun u hu => (hu.cell (p := ⟨g', o' + P, none⟩) hgl').trans hc1)
  clear hc0 hc1
  go_enter Try.func51, Try.ntmps51
  go_upto_region 1 with fail
  generalize w.alloc (.cells #[.int .i64 p, .int .i64 s, .bool st, .bool sk, .bool re, .bool fe, .bool ag, .int .i64 c, .int .i64 l, .int .i64 P, .slice s1 sn1 sc1, .slice s2 sn2 sc2, .int .i64 sp, .int .i64 sq, .slice p1 pn1 pc1, .slice (some ⟨g', o', none⟩) 2 pc2, .int .i64 pp, .slice t1 tn1 tc1, .slice (some ⟨g, o, none⟩) 2 tc2, .int .i64 tp, .int .i64 tq] 73) = u0 at *
  obtain ⟨⟨_, -, -, -, -, -, -, -, -, -, m9, -, -, -, -, -, m15, -, -, m18, -, -⟩, -⟩ := HX.out
  have q0 := Hc0.out _ HX.out.be
  have q1 := Hc1.out _ HX.out.be
  go_wp2_with fail
  go_quiet (fail)
  go_wp2_with fail
  go_ret
  exact ⟨rfl, below_dn HX.out.be _⟩
set_option maxHeartbeats 4000000 in
set_option maxRecDepth 100000 in
theorem fbS_any (p s c l : Int) (st sk re fe ag : Bool) (player : Int) (s1 s2 : Option Addr) (sn1 sc1 sn2 sc2 : Nat) (sp sq : Int) (p1 p2 : Option Addr) (pn1 pc1 pn2 pc2 : Nat) (pp : Int) (t1 t2 : Option Addr) (tn1 tc1 tn2 tc2 : Nat) (tp tq : Int) (xs ys : List Int) (w : World) (h : PosR w s1 s2 sn1 sn2 xs ys) (g : Good p s c l st sk re fe ag player sn1 sn2 sp xs ys) (hcap : sn1 ≤ sc1) :
    Calls Try.prog 72 #[.agg #[.int .i64 p, .int .i64 s, .bool st, .bool sk, .bool re, .bool fe, .bool ag, .int .i64 c, .int .i64 l, .int .i64 player, .slice s1 sn1 sc1, .slice s2 sn2 sc2, .int .i64 sp, .int .i64 sq, .slice p1 pn1 pc1, .slice p2 pn2 pc2, .int .i64 pp, .slice t1 tn1 tc1, .slice t2 tn2 tc2, .int .i64 tp, .int .i64 tq]] w fun e w' => e = .returned (.bool (decide (l = 1) && slamF c p player sp xs)) ∧ Below w.heap.size w w' := by
  have HX := Lib.hid (mm_new p s c l st sk re fe ag player s1 s2 sn1 sc1 sn2 sc2 sp sq p1 p2 pn1 pc1 pn2 pc2 pp t1 t2 tn1 tc1 tn2 tc2 tp tq w 73)
  have H0 := Lib.hid h
  have G := Lib.hid g
  have Hcap := Lib.hid hcap
  have HRaw : Hid (∀ u, Below w.heap.size w u → Calls Try.prog 86 #[.agg #[.int .i64 p, .int .i64 s, .bool st, .bool sk, .bool re, .bool fe, .bool ag, .int .i64 c, .int .i64 l, .int .i64 player, .slice s1 sn1 sc1, .slice s2 sn2 sc2, .int .i64 sp, .int .i64 sq]] u (OwnP (rawF c p player sp xs) (rawF c p player sp xs).length u)) := Lib.hid (fun u hu => rawI_any p s c l st sk re fe ag player _ _ _ _ _ _ _ _ xs ys u (h.below hu) g)
  have HLn : Hid ((rawF c p player sp xs).length ≤ 1000) := Lib.hid (by have := raw_len (cp := c) (pl := player) (xs := xs) g.p2.2 g.p2.1 g.l2; omega)
  have HRin := Lib.hid (g.raw c)
  have hsf : slamF c p player sp xs = slamB p player xs (rawF c p player sp xs) := rfl
  rw [hsf]
  generalize rawF c p player sp xs = L at *
  clear h g hcap hsf
  by_cases hl : l = 1
  · subst hl
    rw [decide_eq_true rfl]
    go_enter Try.func72, Try.ntmps72
    go_upto_region 1 with fail
    generalize w.alloc (.cells #[.int .i64 p, .int .i64 s, .bool st, .bool sk, .bool re, .bool fe, .bool ag, .int .i64 c, .int .i64 1, .int .i64 player, .slice s1 sn1 sc1, .slice s2 sn2 sc2, .int .i64 sp, .int .i64 sq, .slice p1 pn1 pc1, .slice p2 pn2 pc2, .int .i64 pp, .slice t1 tn1 tc1, .slice t2 tn2 tc2, .int .i64 tp, .int .i64 tq] 73) = u0 at *
    have HT : Hid (∀ u : World, MmAt w p s c 1 st sk re fe ag player s1 s2 sn1 sc1 sn2 sc2 sp sq p1 p2 pn1 pc1 pn2 pc2 pp t1 t2 tn1 tc1 tn2 tc2 tp tq u → (w.heap.size < u.heap.size ∧ u.cell? ⟨w.heap.size, 0, none⟩ = some (.int .i64 p) ∧ u.cell? ⟨w.heap.size, 1, none⟩ = some (.int .i64 s) ∧ u.cell? ⟨w.heap.size, 2, none⟩ = some (.bool st) ∧ u.cell? ⟨w.heap.size, 3, none⟩ = some (.bool sk) ∧ u.cell? ⟨w.heap.size, 4, none⟩ = some (.bool re) ∧ u.cell? ⟨w.heap.size, 5, none⟩ = some (.bool fe) ∧ u.cell? ⟨w.heap.size, 6, none⟩ = some (.bool ag) ∧ u.cell? ⟨w.heap.size, 7, none⟩ = some (.int .i64 c) ∧ u.cell? ⟨w.heap.size, 8, none⟩ = some (.int .i64 1) ∧ u.cell? ⟨w.heap.size, 9, none⟩ = some (.int .i64 player) ∧ u.cell? ⟨w.heap.size, 10, none⟩ = some (.slice s1 sn1 sc1) ∧ u.cell? ⟨w.heap.size, 11, none⟩ = some (.slice s2 sn2 sc2) ∧ u.cell? ⟨w.heap.size, 12, none⟩ = some (.int .i64 sp) ∧ u.cell? ⟨w.heap.size, 13, none⟩ = some (.int .i64 sq)) ∧ Below w.heap.size w u) := Lib.hid (fun u h => ⟨⟨h.1.1, h.1.2.1, h.1.2.2.1, h.1.2.2.2.1, h.1.2.2.2.2.1, h.1.2.2.2.2.2.1, h.1.2.2.2.2.2.2.1, h.1.2.2.2.2.2.2.2.1, h.1.2.2.2.2.2.2.2.2.1, h.1.2.2.2.2.2.2.2.2.2.1, h.1.2.2.2.2.2.2.2.2.2.2.1, h.1.2.2.2.2.2.2.2.2.2.2.2.1, h.1.2.2.2.2.2.2.2.2.2.2.2.2.1, h.1.2.2.2.2.2.2.2.2.2.2.2.2.2.1, h.1.2.2.2.2.2.2.2.2.2.2.2.2.2.2.1⟩, h.2⟩)
    go_wp2_with fail
    go_region_held3 (fun u => (w.heap.size < u.heap.size ∧ u.cell? ⟨w.heap.size, 0, none⟩ = some (.int .i64 p) ∧ u.cell? ⟨w.heap.size, 1, none⟩ = some (.int .i64 s) ∧ u.cell? ⟨w.heap.size, 2, none⟩ = some (.bool st) ∧ u.cell? ⟨w.heap.size, 3, none⟩ = some (.bool sk) ∧ u.cell? ⟨w.heap.size, 4, none⟩ = some (.bool re) ∧ u.cell? ⟨w.heap.size, 5, none⟩ = some (.bool fe) ∧ u.cell? ⟨w.heap.size, 6, none⟩ = some (.bool ag) ∧ u.cell? ⟨w.heap.size, 7, none⟩ = some (.int .i64 c) ∧ u.cell? ⟨w.heap.size, 8, none⟩ = some (.int .i64 1) ∧ u.cell? ⟨w.heap.size, 9, none⟩ = some (.int .i64 player) ∧ u.cell? ⟨w.heap.size, 10, none⟩ = some (.slice s1 sn1 sc1) ∧ u.cell? ⟨w.heap.size, 11, none⟩ = some (.slice s2 sn2 sc2) ∧ u.cell? ⟨w.heap.size, 12, none⟩ = some (.int .i64 sp) ∧ u.cell? ⟨w.heap.size, 13, none⟩ = some (.int .i64 sq)) ∧ Below w.heap.size w u) (first | with_reducible exact HT.out _ HX.out | with_reducible exact HT.out _ HX.out.drew)
      (first
      | (go_at_call 86; (with_reducible refine (HRaw.out _ ?_).mono ?_); (first | with_reducible exact HX.out.be | with_reducible exact HX.out.drew.be); rintro e w5 ⟨v5, rfl, hown, hb5⟩; obtain ⟨a5, cc5, rfl, hr5⟩ := own_slice hown rfl HLn.out; have HR5 := Lib.hid hr5; (first | with_reducible have HX := Lib.hid (HX.out.below hb5) | with_reducible have HX := Lib.hid (HX.out.drew.below hb5)); clear hown hr5 hb5)
      | (go_at_call 87; refine (isSlam_any p s c 1 st sk re fe ag player s1 s2 sn1 sc1 sn2 sc2 sp sq xs ys _ a5 cc5 _ _ (H0.out.below (by first | exact HX.out.be | exact HX.out.drew.be)) G.out.q1 G.out.t1 G.out.p2 G.out.n1 G.out.pl HRin.out rfl HLn.out (by first | exact HR5.out | exact HR5.out.drewN 1) Hcap.out).mono ?_; rintro e w6 ⟨rfl, hb6⟩; have HX := Lib.hid (by first | exact HX.out.below hb6 | exact HX.out.drew.below hb6 : MmAt w p s c 1 st sk re fe ag player s1 s2 sn1 sc1 sn2 sc2 sp sq p1 p2 pn1 pc1 pn2 pc2 pp t1 t2 tn1 tc1 tn2 tc2 tp tq w6); clear hb6))
    go_wp2_with fail
    go_ret
    exact ⟨rfl, HX.out.be⟩
  · have d : (l == 1) = false := by simpa using hl
    rw [decide_eq_false hl]
    clear hl
    go_enter Try.func72, Try.ntmps72
    go_upto_region 1 with fail
    generalize w.alloc (.cells #[.int .i64 p, .int .i64 s, .bool st, .bool sk, .bool re, .bool fe, .bool ag, .int .i64 c, .int .i64 l, .int .i64 player, .slice s1 sn1 sc1, .slice s2 sn2 sc2, .int .i64 sp, .int .i64 sq, .slice p1 pn1 pc1, .slice p2 pn2 pc2, .int .i64 pp, .slice t1 tn1 tc1, .slice t2 tn2 tc2, .int .i64 tp, .int .i64 tq] 73) = u0 at *
    obtain ⟨⟨_, -, -, -, -, -, -, -, -, m8, -, -, -, -, -, -, -, -, -, -, -, -⟩, -⟩ := HX.out
    go_wp2_with fail
    go_quiet (fail)
    go_wp2_with fail
    go_ret
    exact ⟨rfl, below_dn HX.out.be _⟩
end Go.Proofs.Ythbkdlidpdliaaa

/- Mk8: A made move that fails to feed. -/
namespace Go.Proofs.Ythbkdlidpdliaaa
open Go.Joins Go.ChangeShapes Go.WideShapes Go.ChangeAt Go.RowKit Go.Deep
set_option linter.unusedVariables false

set_option maxHeartbeats 4000000 in
set_option maxRecDepth 100000 in
theorem fbF_any (p s c l : Int) (st sk re fe ag : Bool) (player : Int) (s1 s2 : Option Addr) (sn1 sc1 sn2 sc2 : Nat) (sp sq : Int) (p1 p2 : Option Addr) (pn1 pc1 pn2 pc2 : Nat) (pp : Int) (t1 t2 : Option Addr) (tn1 tc1 tn2 tc2 : Nat) (tp tq : Int) (xs ys txs : List Int) (w : World) (h : PosR w p1 p2 pn1 pn2 xs ys) (hk : okP (okR p s c l st ag) p pn1 pn2 pp xs ys = true) (hcap : pn1 ≤ pc1) (ht : RowN w t1 txs) (hl : txs.length = tn1) (hn : (tn1 : Int) = 2 * p) (hq : posB txs = true) (hs : tot txs ≤ 96) (hc2 : tn1 ≤ tc1) (hpl : player = pp) :
    Calls Try.prog 73 #[.agg #[.int .i64 p, .int .i64 s, .bool st, .bool sk, .bool re, .bool fe, .bool ag, .int .i64 c, .int .i64 l, .int .i64 player, .slice s1 sn1 sc1, .slice s2 sn2 sc2, .int .i64 sp, .int .i64 sq, .slice p1 pn1 pc1, .slice p2 pn2 pc2, .int .i64 pp, .slice t1 tn1 tc1, .slice t2 tn2 tc2, .int .i64 tp, .int .i64 tq]] w fun e w' => e = .returned (.bool ((fe && noneO p pp xs) && noneO p player txs)) ∧ Below w.heap.size w w' := by
  have HX := Lib.hid (mm_new p s c l st sk re fe ag player s1 s2 sn1 sc1 sn2 sc2 sp sq p1 p2 pn1 pc1 pn2 pc2 pp t1 t2 tn1 tc1 tn2 tc2 tp tq w 73)
  have HF : Hid (∀ u, Below w.heap.size w u → Calls Try.prog 89 #[.agg #[.int .i64 p, .int .i64 s, .bool st, .bool sk, .bool re, .bool fe, .bool ag, .int .i64 c, .int .i64 l], .agg #[.slice p1 pn1 pc1, .slice p2 pn2 pc2, .int .i64 pp]] u fun e w' => e = .returned (.bool (fe && noneO p pp xs)) ∧ Below u.heap.size u w') := Lib.hid (fun u hu => implFeed_any p s c l st sk re fe ag p1 p2 pn1 pc1 pn2 pc2 pp xs ys u (h.below hu) hcap true hk)
  obtain ⟨f1, -, f3, -, -⟩ := feed_parts p s c l st sk re fe ag hk
  have HO : Hid (∀ u, Below w.heap.size w u → Calls Try.prog 90 #[.agg #[.slice t1 tn1 tc1, .slice t2 tn2 tc2, .int .i64 player], .agg #[.int .i64 p, .int .i64 s, .bool st, .bool sk, .bool re, .bool fe, .bool ag, .int .i64 c, .int .i64 l]] u fun e w' => e = .returned (.bool (noneO p player txs)) ∧ Below u.heap.size u w') := Lib.hid (fun u hu => other_any p s c l st sk re fe ag t1 t2 tn1 tc1 tn2 tc2 player txs u hl (ht.below hu) f1 hn (by rw [hpl]; exact f3) hq hs hc2)
  generalize hb1 : (fe && noneO p pp xs) = b1 at *
  generalize hb2 : noneO p player txs = b2 at *
  clear h hk hcap ht hl hn hq hs hc2 hpl f1 f3 hb1 hb2
  cases b1
  all_goals
    go_enter Try.func73, Try.ntmps73
    go_upto_region 1 with fail
    generalize w.alloc (.cells #[.int .i64 p, .int .i64 s, .bool st, .bool sk, .bool re, .bool fe, .bool ag, .int .i64 c, .int .i64 l, .int .i64 player, .slice s1 sn1 sc1, .slice s2 sn2 sc2, .int .i64 sp, .int .i64 sq, .slice p1 pn1 pc1, .slice p2 pn2 pc2, .int .i64 pp, .slice t1 tn1 tc1, .slice t2 tn2 tc2, .int .i64 tp, .int .i64 tq] 73) = u0 at *
    go_wp2_with fail
    apply region_class (MmAt w p s c l st sk re fe ag player s1 s2 sn1 sc1 sn2 sc2 sp sq p1 p2 pn1 pc1 pn2 pc2 pp t1 t2 tn1 tc1 tn2 tc2 tp tq) (by kernel_rfl) (by kernel_rfl) (HX.out.drew)
    repeat (first
      | (apply step_skip (by rfl)
         simp only [Act.put, List.setIfInBounds_toArray, List.set_cons_zero, List.set_cons_succ])
      | (apply step_val (by rfl)
         · intro u hu
           obtain ⟨⟨_, m0, m1, m2, m3, m4, m5, m6, m7, m8, m9, m10, m11, m12, m13, m14, m15, m16, m17, m18, m19, m20⟩, _⟩ := hu
           go_simp
           try with_reducible rfl
         simp only [Act.put, List.setIfInBounds_toArray, List.set_cons_zero, List.set_cons_succ])
      | (apply step_call (by rfl)
         · intro u
           go_simp
           exact ⟨rfl, rfl⟩
         · intro u hu
           (with_reducible refine (HF.out _ hu.be).mono ?_); (rintro e u' ⟨rfl, hb5⟩; exact ⟨rfl, hu.below hb5⟩)
         simp only [Act.put, List.setIfInBounds_toArray, List.set_cons_zero, List.set_cons_succ])
      | (apply step_call (by rfl)
         · intro u
           go_simp
           exact ⟨rfl, rfl⟩
         · intro u hu
           (with_reducible refine (position_any t1 t2 tn1 tc1 tn2 tc2 tp tq player _).mono ?_); (rintro e u' ⟨rfl, hb5⟩; exact ⟨rfl, hu.below hb5⟩)
         simp only [Act.put, List.setIfInBounds_toArray, List.set_cons_zero, List.set_cons_succ])
      | (apply step_call (by rfl)
         · intro u
           go_simp
           exact ⟨rfl, rfl⟩
         · intro u hu
           (with_reducible refine (HO.out _ hu.be).mono ?_); (rintro e u' ⟨rfl, hb5⟩; exact ⟨rfl, hu.below hb5⟩)
         simp only [Act.put, List.setIfInBounds_toArray, List.set_cons_zero, List.set_cons_succ]))
    apply step_nil
    intro w5 hs5
    have HS5 := Lib.hid hs5
    clear hs5
    go_wp2_with fail
    go_ret
    exact ⟨rfl, HS5.out.be⟩
end Go.Proofs.Ythbkdlidpdliaaa

/- Mk9: A legal move, as the program makes it. -/
namespace Go.Proofs.Ythbkdlidpdliaaa
open Go.Joins Go.ChangeShapes Go.WideShapes Go.ChangeAt Go.RowKit Go.Deep
set_option linter.unusedVariables false

/-- A variable of n cells that may be written. -/
structure ThN (n : Nat) (u : World) (b : Nat) : Prop where
  lt : b < u.heap.size
  th : u.there b 0 n
theorem ThN.below {n : Nat} {u v : World} {b : Nat} (h : ThN n u b) (k : Below u.heap.size u v) : ThN n v b := by
  refine ⟨Nat.lt_of_lt_of_le h.lt k.size, fun j hj => ?_⟩
  have := h.th j hj
  rw [k.cell (p := ⟨b, 0 + j, none⟩) h.lt, k.frozen (p := ⟨b, 0 + j, none⟩) h.lt]
  exact this
theorem below_sc {B : Nat} {a : World} (b : Nat) (hb : B ≤ b) : ∀ (vs : List Value) (o : Nat) {w : World}, Below B a w → Below B a (w.setCells b o vs)
  | [], _, _, h => h
  | v :: r, o, _, h => below_sc b hb r (o + 1) (h.setCell (p := ⟨b, o, none⟩) hb v)
/-- The made move of a move that is not legal. -/
def zero21 : List Value := [.int .i64 0, .int .i64 0, .bool false, .bool false, .bool false, .bool false, .bool false, .int .i64 0, .int .i64 0, .int .i64 0, .slice none 0 0, .slice none 0 0, .int .i64 0, .int .i64 0, .slice none 0 0, .slice none 0 0, .int .i64 0, .slice none 0 0, .slice none 0 0, .int .i64 0, .int .i64 0]
theorem zero21_one : zero21.toArray.all (·.oneCell') = true := all_oneCell_toArray (by unfold zero21; decide)
theorem thN_new (w : World) (T : TypeId) : ThN 21 (w.alloc (.cells zero21.toArray T)) w.heap.size := by
  refine ⟨by simp, fun j hj => ?_⟩
  match j, hj with
  | 0, _ => exact ⟨by unfold zero21; go_simp, by go_simp⟩
  | 1, _ => exact ⟨by unfold zero21; go_simp, by go_simp⟩
  | 2, _ => exact ⟨by unfold zero21; go_simp, by go_simp⟩
  | 3, _ => exact ⟨by unfold zero21; go_simp, by go_simp⟩
  | 4, _ => exact ⟨by unfold zero21; go_simp, by go_simp⟩
  | 5, _ => exact ⟨by unfold zero21; go_simp, by go_simp⟩
  | 6, _ => exact ⟨by unfold zero21; go_simp, by go_simp⟩
  | 7, _ => exact ⟨by unfold zero21; go_simp, by go_simp⟩
  | 8, _ => exact ⟨by unfold zero21; go_simp, by go_simp⟩
  | 9, _ => exact ⟨by unfold zero21; go_simp, by go_simp⟩
  | 10, _ => exact ⟨by unfold zero21; go_simp, by go_simp⟩
  | 11, _ => exact ⟨by unfold zero21; go_simp, by go_simp⟩
  | 12, _ => exact ⟨by unfold zero21; go_simp, by go_simp⟩
  | 13, _ => exact ⟨by unfold zero21; go_simp, by go_simp⟩
  | 14, _ => exact ⟨by unfold zero21; go_simp, by go_simp⟩
  | 15, _ => exact ⟨by unfold zero21; go_simp, by go_simp⟩
  | 16, _ => exact ⟨by unfold zero21; go_simp, by go_simp⟩
  | 17, _ => exact ⟨by unfold zero21; go_simp, by go_simp⟩
  | 18, _ => exact ⟨by unfold zero21; go_simp, by go_simp⟩
  | 19, _ => exact ⟨by unfold zero21; go_simp, by go_simp⟩
  | 20, _ => exact ⟨by unfold zero21; go_simp, by go_simp⟩
  | n + 21, h => exact absurd h (by omega)
set_option maxHeartbeats 4000000 in
set_option maxRecDepth 100000 in
theorem makeL_err (p s c l : Int) (st sk re fe ag : Bool) (p1 p2 : Option Addr) (pn1 pc1 pn2 pc2 : Nat) (pp : Int) (move cd : Int) (hcd : (cd == 0) = false) (w : World)
    (hC : ∀ u, Below w.heap.size w u → Calls Try.prog 71 #[.agg #[.int .i64 p, .int .i64 s, .bool st, .bool sk, .bool re, .bool fe, .bool ag, .int .i64 c, .int .i64 l], .agg #[.slice p1 pn1 pc1, .slice p2 pn2 pc2, .int .i64 pp], .int .i64 move] u (SoZ 0 0 0 0 cd [] [] u)) :
    Calls Try.prog 48 #[.agg #[.int .i64 p, .int .i64 s, .bool st, .bool sk, .bool re, .bool fe, .bool ag, .int .i64 c, .int .i64 l], .agg #[.slice p1 pn1 pc1, .slice p2 pn2 pc2, .int .i64 pp], .int .i64 move] w fun e w' => e = .returned (.tuple #[.agg zero21.toArray, .int .i64 cd]) ∧ Below w.heap.size w w' := by
  have HC := Lib.hid hC
  have HS := Lib.hid ((rp_new p s c l st sk re fe ag p1 p2 pn1 pc1 pn2 pc2 pp w 31 41).below (al1 _ (.cells zero21.toArray 73)))
  have HZ := Lib.hid (show ThN 21 _ (w.heap.size + 1 + 1) from by have := thN_new ((w.alloc (.cells #[.int .i64 p, .int .i64 s, .bool st, .bool sk, .bool re, .bool fe, .bool ag, .int .i64 c, .int .i64 l] 31)).alloc (.cells #[.slice p1 pn1 pc1, .slice p2 pn2 pc2, .int .i64 pp] 41)) 73; simpa using this)
  have hcd2 : (cd != 0) = true := by simpa [bne] using hcd
  clear hC
  go_enter Try.func48, Try.ntmps48
  go_wp2_with fail
  change Calls _ _ _ (((w.alloc (.cells #[.int .i64 p, .int .i64 s, .bool st, .bool sk, .bool re, .bool fe, .bool ag, .int .i64 c, .int .i64 l] 31)).alloc (.cells #[.slice p1 pn1 pc1, .slice p2 pn2 pc2, .int .i64 pp] 41)).alloc (.cells zero21.toArray 73)) _
  refine (HC.out _ HS.out.2.2).mono ?_
  generalize ((w.alloc (.cells #[.int .i64 p, .int .i64 s, .bool st, .bool sk, .bool re, .bool fe, .bool ag, .int .i64 c, .int .i64 l] 31)).alloc (.cells #[.slice p1 pn1 pc1, .slice p2 pn2 pc2, .int .i64 pp] 41)).alloc (.cells zero21.toArray 73) = u at *
  rintro e u2 ⟨a1, c1, b1, a2, c2, b2, rfl, -, -, -, -, -, hb⟩
  have HS := Lib.hid (HS.out.below hb)
  have HZ := Lib.hid (HZ.out.below hb)
  clear hb
  have HZA := Lib.hid ((HZ.out.below (al1 _ (.cells #[.slice a1 0 c1, .slice a2 0 c2, .int .i64 0, .int .i64 0] 28))).th)
  go_wp2_with (refine wpList_store_mid rfl 73 _ _ rfl (w.heap.size + 1 + 1) 0 zero21.toArray rfl rfl HZA.out (by kernel_rfl) zero21_one ?_)
  have hrun := run_loadVar_mid (P := Try.prog) _ (w.heap.size + 1 + 1) 0 73 zero21 _ (World.rangeAt_setCells_same _ (w.heap.size + 1 + 1) 0 zero21 HZA.out) Try.underlying73 rfl (by kernel_rfl)
  refine bodyPost_ret (v := .tuple #[.agg zero21.toArray, .int .i64 cd]) ?_ rfl ⟨rfl, ?_⟩
  · simp [results, Try.results48, Result.andThen_ok, asAddr, hrun]
  · exact below_sc (w.heap.size + 1 + 1) (by omega) zero21 0 (HS.out.below (al1 _ _)).2.2
end Go.Proofs.Ythbkdlidpdliaaa

/- Mk10: A legal move, as the program makes it: sown. -/
namespace Go.Proofs.Ythbkdlidpdliaaa
open Go.Joins Go.ChangeShapes Go.WideShapes Go.ChangeAt Go.RowKit Go.Deep
set_option linter.unusedVariables false

/-- A variable for a made move, as it is made. -/
structure Z21 (u : World) (z : Nat) : Prop where
  lt : z < u.heap.size
  c0 : u.cell? ⟨z, 0, none⟩ = some (.int .i64 0)
  c1 : u.cell? ⟨z, 1, none⟩ = some (.int .i64 0)
  c2 : u.cell? ⟨z, 2, none⟩ = some (.bool false)
  c3 : u.cell? ⟨z, 3, none⟩ = some (.bool false)
  c4 : u.cell? ⟨z, 4, none⟩ = some (.bool false)
  c5 : u.cell? ⟨z, 5, none⟩ = some (.bool false)
  c6 : u.cell? ⟨z, 6, none⟩ = some (.bool false)
  c7 : u.cell? ⟨z, 7, none⟩ = some (.int .i64 0)
  c8 : u.cell? ⟨z, 8, none⟩ = some (.int .i64 0)
  c9 : u.cell? ⟨z, 9, none⟩ = some (.int .i64 0)
  c10 : u.cell? ⟨z, 10, none⟩ = some (.slice none 0 0)
  c11 : u.cell? ⟨z, 11, none⟩ = some (.slice none 0 0)
  c12 : u.cell? ⟨z, 12, none⟩ = some (.int .i64 0)
  c13 : u.cell? ⟨z, 13, none⟩ = some (.int .i64 0)
  c14 : u.cell? ⟨z, 14, none⟩ = some (.slice none 0 0)
  c15 : u.cell? ⟨z, 15, none⟩ = some (.slice none 0 0)
  c16 : u.cell? ⟨z, 16, none⟩ = some (.int .i64 0)
  c17 : u.cell? ⟨z, 17, none⟩ = some (.slice none 0 0)
  c18 : u.cell? ⟨z, 18, none⟩ = some (.slice none 0 0)
  c19 : u.cell? ⟨z, 19, none⟩ = some (.int .i64 0)
  c20 : u.cell? ⟨z, 20, none⟩ = some (.int .i64 0)
  fr : ∀ o, u.frozen? ⟨z, o, none⟩ = false
theorem Z21.below {u v : World} {z : Nat} (h : Z21 u z) (k : Below u.heap.size u v) : Z21 v z := by
  have e := fun o => k.cell (p := ⟨z, o, none⟩) h.lt
  exact ⟨Nat.lt_of_lt_of_le h.lt k.size, (e _).trans h.c0, (e _).trans h.c1, (e _).trans h.c2, (e _).trans h.c3, (e _).trans h.c4, (e _).trans h.c5, (e _).trans h.c6, (e _).trans h.c7, (e _).trans h.c8, (e _).trans h.c9, (e _).trans h.c10, (e _).trans h.c11, (e _).trans h.c12, (e _).trans h.c13, (e _).trans h.c14, (e _).trans h.c15, (e _).trans h.c16, (e _).trans h.c17, (e _).trans h.c18, (e _).trans h.c19, (e _).trans h.c20, fun o => (k.frozen (p := ⟨z, o, none⟩) h.lt).trans (h.fr o)⟩
theorem Z21.drew {u : World} {z : Nat} (h : Z21 u z) : Z21 u.drew z := h.below (Below.refl _ _).drew
theorem z21_new (w : World) (T : TypeId) : Z21 (w.alloc (.cells #[.int .i64 0, .int .i64 0, .bool false, .bool false, .bool false, .bool false, .bool false, .int .i64 0, .int .i64 0, .int .i64 0, .slice none 0 0, .slice none 0 0, .int .i64 0, .int .i64 0, .slice none 0 0, .slice none 0 0, .int .i64 0, .slice none 0 0, .slice none 0 0, .int .i64 0, .int .i64 0] T)) w.heap.size :=
  ⟨by simp, by go_simp, by go_simp, by go_simp, by go_simp, by go_simp, by go_simp, by go_simp, by go_simp, by go_simp, by go_simp, by go_simp, by go_simp, by go_simp, by go_simp, by go_simp, by go_simp, by go_simp, by go_simp, by go_simp, by go_simp, by go_simp, fun o => by go_simp⟩
theorem wpList_load_want {P : Program} {ops : Array Oper} {rest : List Oper} {op : Oper} {a : Act} {w : World} {Q : Exit → Act → World → Prop} (hw : Region.wanted op (yielded ops a.tmps) = true) (ty : TypeId) (x : Operand) (ho : op.op = .load ty x)
    (b o : Nat) (hx : a.eval x = .pointer (some ⟨b, o, none⟩)) (cs : List Value) (d : TypeDesc) (hc : w.rangeAt b o cs)
    (hu : P.underlying ty = some d) (hd : d.isRow = true) (hi : (P.info? ty).map (·.size) = some cs.length)
    (h : wpList P ops Q rest (a.put op.dst (.agg cs.toArray)) w) : wpList P ops Q (op :: rest) a w :=
  BigFrame.wpList_want hw fun K hK => wp_load_mid ty x ho b o hx cs d hc hu hd hi (hK _ _ h)
theorem but_sc (b : Nat) : ∀ (vs : List Value) (o : Nat) (u : World), But b u (u.setCells b o vs)
  | [], _, u => But.refl b u
  | v :: r, o, u => ((But.refl b u).setCell (p := ⟨b, o, none⟩) rfl v).trans (but_sc b r (o + 1) _)
theorem mm_one (p s c l : Int) (st sk re fe ag : Bool) (player : Int) (s1 s2 : Option Addr) (sn1 sc1 sn2 sc2 : Nat) (sp sq : Int) (p1 p2 : Option Addr) (pn1 pc1 pn2 pc2 : Nat) (pp : Int) (t1 t2 : Option Addr) (tn1 tc1 tn2 tc2 : Nat) (tp tq : Int) : (List.toArray ([.int .i64 p, .int .i64 s, .bool st, .bool sk, .bool re, .bool fe, .bool ag, .int .i64 c, .int .i64 l, .int .i64 player, .slice s1 sn1 sc1, .slice s2 sn2 sc2, .int .i64 sp, .int .i64 sq, .slice p1 pn1 pc1, .slice p2 pn2 pc2, .int .i64 pp, .slice t1 tn1 tc1, .slice t2 tn2 tc2, .int .i64 tp, .int .i64 tq] : List Value)).all (·.oneCell') = true := all_oneCell_toArray (by simp [Value.oneCell'])
theorem size_sc (b : Nat) : ∀ (vs : List Value) (o : Nat) (u : World), (u.setCells b o vs).heap.size = u.heap.size
  | [], _, _ => rfl
  | v :: r, o, u => by rw [World.setCells, size_sc b r]; simp
theorem range14 {u : World} {C : Nat} {x0 x1 x2 x3 x4 x5 x6 x7 x8 x9 x10 x11 x12 x13 : Value} (h : C < u.heap.size ∧ u.cell? ⟨C, 0, none⟩ = some x0 ∧ u.cell? ⟨C, 1, none⟩ = some x1 ∧ u.cell? ⟨C, 2, none⟩ = some x2 ∧ u.cell? ⟨C, 3, none⟩ = some x3 ∧ u.cell? ⟨C, 4, none⟩ = some x4 ∧ u.cell? ⟨C, 5, none⟩ = some x5 ∧ u.cell? ⟨C, 6, none⟩ = some x6 ∧ u.cell? ⟨C, 7, none⟩ = some x7 ∧ u.cell? ⟨C, 8, none⟩ = some x8 ∧ u.cell? ⟨C, 9, none⟩ = some x9 ∧ u.cell? ⟨C, 10, none⟩ = some x10 ∧ u.cell? ⟨C, 11, none⟩ = some x11 ∧ u.cell? ⟨C, 12, none⟩ = some x12 ∧ u.cell? ⟨C, 13, none⟩ = some x13) : u.rangeAt C 0 [x0, x1, x2, x3, x4, x5, x6, x7, x8, x9, x10, x11, x12, x13] := by
  obtain ⟨_, m0, m1, m2, m3, m4, m5, m6, m7, m8, m9, m10, m11, m12, m13⟩ := h
  intro j v hj
  match j, hj with
  | 0, hj => cases hj; exact m0
  | 1, hj => cases hj; exact m1
  | 2, hj => cases hj; exact m2
  | 3, hj => cases hj; exact m3
  | 4, hj => cases hj; exact m4
  | 5, hj => cases hj; exact m5
  | 6, hj => cases hj; exact m6
  | 7, hj => cases hj; exact m7
  | 8, hj => cases hj; exact m8
  | 9, hj => cases hj; exact m9
  | 10, hj => cases hj; exact m10
  | 11, hj => cases hj; exact m11
  | 12, hj => cases hj; exact m12
  | 13, hj => cases hj; exact m13
  | n + 14, hj => simp at hj
theorem range3 {u : World} {C : Nat} {x0 x1 x2 : Value} (h : C < u.heap.size ∧ u.cell? ⟨C, 0, none⟩ = some x0 ∧ u.cell? ⟨C, 1, none⟩ = some x1 ∧ u.cell? ⟨C, 2, none⟩ = some x2) : u.rangeAt C 0 [x0, x1, x2] := by
  obtain ⟨_, m0, m1, m2⟩ := h
  intro j v hj
  match j, hj with
  | 0, hj => cases hj; exact m0
  | 1, hj => cases hj; exact m1
  | 2, hj => cases hj; exact m2
  | n + 3, hj => simp at hj
/-- What a legal move's capture and position lie in. -/
def CkAt (w U : World) (C : Nat) (p s c l : Int) (st sk re fe ag : Bool) (player : Int) (s1 s2 : Option Addr) (sn1 sc1 sn2 sc2 : Nat) (sp sq : Int) (p1 p2 : Option Addr) (pn1 pc1 pn2 pc2 : Nat) (pp : Int) (u : World) : Prop := (C < u.heap.size ∧ u.cell? ⟨C, 0, none⟩ = some (.int .i64 p) ∧ u.cell? ⟨C, 1, none⟩ = some (.int .i64 s) ∧ u.cell? ⟨C, 2, none⟩ = some (.bool st) ∧ u.cell? ⟨C, 3, none⟩ = some (.bool sk) ∧ u.cell? ⟨C, 4, none⟩ = some (.bool re) ∧ u.cell? ⟨C, 5, none⟩ = some (.bool fe) ∧ u.cell? ⟨C, 6, none⟩ = some (.bool ag) ∧ u.cell? ⟨C, 7, none⟩ = some (.int .i64 c) ∧ u.cell? ⟨C, 8, none⟩ = some (.int .i64 l) ∧ u.cell? ⟨C, 9, none⟩ = some (.int .i64 player) ∧ u.cell? ⟨C, 10, none⟩ = some (.slice s1 sn1 sc1) ∧ u.cell? ⟨C, 11, none⟩ = some (.slice s2 sn2 sc2) ∧ u.cell? ⟨C, 12, none⟩ = some (.int .i64 sp) ∧ u.cell? ⟨C, 13, none⟩ = some (.int .i64 sq)) ∧ (w.heap.size + 1 < u.heap.size ∧ u.cell? ⟨w.heap.size + 1, 0, none⟩ = some (.slice p1 pn1 pc1) ∧ u.cell? ⟨w.heap.size + 1, 1, none⟩ = some (.slice p2 pn2 pc2) ∧ u.cell? ⟨w.heap.size + 1, 2, none⟩ = some (.int .i64 pp)) ∧ Below U.heap.size U u
section
variable {w U u v : World} {C : Nat} {p s c l player : Int} {st sk re fe ag : Bool} {s1 s2 : Option Addr} {sn1 sc1 sn2 sc2 : Nat} {sp sq : Int} {p1 p2 : Option Addr} {pn1 pc1 pn2 pc2 : Nat} {pp : Int}
theorem CkAt.below (h : CkAt w U C p s c l st sk re fe ag player s1 s2 sn1 sc1 sn2 sc2 sp sq p1 p2 pn1 pc1 pn2 pc2 pp u) (k : Below u.heap.size u v) : CkAt w U C p s c l st sk re fe ag player s1 s2 sn1 sc1 sn2 sc2 sp sq p1 p2 pn1 pc1 pn2 pc2 pp v := by
  obtain ⟨⟨hb, h⟩, h2, hw⟩ := h
  have e := fun o => k.cell (p := ⟨C, o, none⟩) hb
  exact ⟨⟨Nat.lt_of_lt_of_le hb k.size, by rw [e, e, e, e, e, e, e, e, e, e, e, e, e, e]; exact h⟩, PoAt.below (show PoAt u (w.heap.size + 1) p1 p2 pn1 pc1 pn2 pc2 pp from h2) k, hw.trans (k.mono hw.size)⟩
theorem CkAt.drew (h : CkAt w U C p s c l st sk re fe ag player s1 s2 sn1 sc1 sn2 sc2 sp sq p1 p2 pn1 pc1 pn2 pc2 pp u) : CkAt w U C p s c l st sk re fe ag player s1 s2 sn1 sc1 sn2 sc2 sp sq p1 p2 pn1 pc1 pn2 pc2 pp u.drew := h.below (Below.refl _ _).drew
theorem CkAt.sc {b : Nat} (h : CkAt w U C p s c l st sk re fe ag player s1 s2 sn1 sc1 sn2 sc2 sp sq p1 p2 pn1 pc1 pn2 pc2 pp u) (h1 : C ≠ b) (h2 : w.heap.size + 1 ≠ b) (hb : U.heap.size ≤ b) (vs : List Value) (o : Nat) : CkAt w U C p s c l st sk re fe ag player s1 s2 sn1 sc1 sn2 sc2 sp sq p1 p2 pn1 pc1 pn2 pc2 pp (u.setCells b o vs) := by
  obtain ⟨⟨hc, h⟩, h3, hw⟩ := h
  have k := but_sc b vs o u
  have e := fun o' => k.cell (c := C) (o := o') hc h1
  exact ⟨⟨Nat.lt_of_lt_of_le hc k.size, by rw [e, e, e, e, e, e, e, e, e, e, e, e, e, e]; exact h⟩, PoAt.but (show PoAt u (w.heap.size + 1) p1 p2 pn1 pc1 pn2 pc2 pp from h3) k h2, But.lift hw k hb⟩
theorem CkAt.be (h : CkAt w U C p s c l st sk re fe ag player s1 s2 sn1 sc1 sn2 sc2 sp sq p1 p2 pn1 pc1 pn2 pc2 pp u) : OnW U u := h.2.2
end
/-- The made move, as it lies. -/
structure MkF (w U : World) (p s c l : Int) (st sk re fe ag : Bool) (pp : Int) (s1 s2 : Option Addr) (pn1 sc1 sc2 : Nat) (p1 p2 : Option Addr) (pc1 pc2 : Nat) (m : Res) (M g1 k1 g2 k2 : Nat) (W : World) : Prop where
  rg : W.rangeAt M 0 [.int .i64 p, .int .i64 s, .bool st, .bool sk, .bool re, .bool fe, .bool ag, .int .i64 c, .int .i64 l, .int .i64 pp, .slice s1 pn1 sc1, .slice s2 2 sc2, .int .i64 m.last, .int .i64 m.laps, .slice p1 pn1 pc1, .slice p2 2 pc2, .int .i64 pp, .slice (some ⟨g1, 0, none⟩) pn1 k1, .slice (some ⟨g2, 0, none⟩) 2 k2, .int .i64 m.last, .int .i64 m.laps]
  lt : M < W.heap.size
  ge : U.heap.size ≤ M
  be : OnW U W
  ho : PosO W U.heap.size (some ⟨g1, 0, none⟩) (some ⟨g2, 0, none⟩) g1 g2 pn1 2 (tkX c l p pp m.last m.xs) (tkY c l p pp m.last m.xs m.ys)
  l1 : g1 < W.heap.size
  l2 : g2 < W.heap.size
  h1 : pn1 ≤ k1
  h2 : 2 ≤ k2
theorem range_below {u v : World} {b : Nat} {cs : List Value} (h : u.rangeAt b 0 cs) (hb : b < u.heap.size) (k : Below u.heap.size u v) : v.rangeAt b 0 cs := fun j x hj => (k.cell (p := ⟨b, 0 + j, none⟩) hb).trans (h j x hj)
theorem MkF.below {w U u v : World} {p s c l : Int} {st sk re fe ag : Bool} {pp : Int} {s1 s2 : Option Addr} {pn1 sc1 sc2 : Nat} {p1 p2 : Option Addr} {pc1 pc2 : Nat} {m : Res} {M g1 k1 g2 k2 : Nat} (h : MkF w U p s c l st sk re fe ag pp s1 s2 pn1 sc1 sc2 p1 p2 pc1 pc2 m M g1 k1 g2 k2 u) (k : Below u.heap.size u v) : MkF w U p s c l st sk re fe ag pp s1 s2 pn1 sc1 sc2 p1 p2 pc1 pc2 m M g1 k1 g2 k2 v :=
  ⟨range_below h.rg h.lt k, Nat.lt_of_lt_of_le h.lt k.size, h.ge, Below.trans h.be (k.mono h.be.size), h.ho.below k, Nat.lt_of_lt_of_le h.l1 k.size, Nat.lt_of_lt_of_le h.l2 k.size, h.h1, h.h2⟩
/-- What makeLegal answers about a move that has been sown. -/
def MkL (p s c l : Int) (st sk re fe ag : Bool) (pp : Int) (pn1 : Nat) (p1 p2 : Option Addr) (pc1 pc2 : Nat) (m : Res) (b : Bool) (w : World) (e : Ending) (w' : World) : Prop :=
  if b = true then e = .returned (.tuple #[.agg zero21.toArray, .int .i64 9]) ∧ Below w.heap.size w w' else
  ∃ s1 s2 sc1 sc2 g1 k1 g2 k2, e = .returned (.tuple #[.agg #[.int .i64 p, .int .i64 s, .bool st, .bool sk, .bool re, .bool fe, .bool ag, .int .i64 c, .int .i64 l, .int .i64 pp, .slice s1 pn1 sc1, .slice s2 2 sc2, .int .i64 m.last, .int .i64 m.laps, .slice p1 pn1 pc1, .slice p2 2 pc2, .int .i64 pp, .slice (some ⟨g1, 0, none⟩) pn1 k1, .slice (some ⟨g2, 0, none⟩) 2 k2, .int .i64 m.last, .int .i64 m.laps], .int .i64 0]) ∧
    PosO w' w.heap.size (some ⟨g1, 0, none⟩) (some ⟨g2, 0, none⟩) g1 g2 pn1 2 (tkX c l p pp m.last m.xs) (tkY c l p pp m.last m.xs m.ys) ∧ g1 < w'.heap.size ∧ g2 < w'.heap.size ∧ pn1 ≤ k1 ∧ 2 ≤ k2 ∧ Below w.heap.size w w'
section
variable {p s c l : Int} {st sk re fe ag : Bool} {pp : Int} {pn1 : Nat} {p1 p2 : Option Addr} {pc1 pc2 : Nat} {m : Res} {w u : World}
theorem mkL_ill (h : Below w.heap.size w u) : MkL p s c l st sk re fe ag pp pn1 p1 p2 pc1 pc2 m true w (.returned (.tuple #[.agg zero21.toArray, .int .i64 9])) u := by
  unfold MkL
  rw [if_pos rfl]
  exact ⟨rfl, h⟩
theorem mkL_leg {s1 s2 : Option Addr} {sc1 sc2 g1 k1 g2 k2 : Nat} (ho : PosO u w.heap.size (some ⟨g1, 0, none⟩) (some ⟨g2, 0, none⟩) g1 g2 pn1 2 (tkX c l p pp m.last m.xs) (tkY c l p pp m.last m.xs m.ys)) (h1 : g1 < u.heap.size) (h2 : g2 < u.heap.size) (h3 : pn1 ≤ k1) (h4 : 2 ≤ k2) (h : Below w.heap.size w u) :
    MkL p s c l st sk re fe ag pp pn1 p1 p2 pc1 pc2 m false w (.returned (.tuple #[.agg #[.int .i64 p, .int .i64 s, .bool st, .bool sk, .bool re, .bool fe, .bool ag, .int .i64 c, .int .i64 l, .int .i64 pp, .slice s1 pn1 sc1, .slice s2 2 sc2, .int .i64 m.last, .int .i64 m.laps, .slice p1 pn1 pc1, .slice p2 2 pc2, .int .i64 pp, .slice (some ⟨g1, 0, none⟩) pn1 k1, .slice (some ⟨g2, 0, none⟩) 2 k2, .int .i64 m.last, .int .i64 m.laps], .int .i64 0])) u := by
  unfold MkL
  rw [if_neg Bool.false_ne_true]
  exact ⟨s1, s2, sc1, sc2, g1, k1, g2, k2, rfl, ho, h1, h2, h3, h4, h⟩
end
set_option maxHeartbeats 4000000 in
set_option maxRecDepth 100000 in
theorem makeL_some (p s c l : Int) (st sk re fe ag : Bool) (p1 p2 : Option Addr) (pn1 pc1 pc2 : Nat) (pp move : Int) (xs ys : List Int) (m : Res) (w : World) (h : PosR w p1 p2 pn1 2 xs ys) (hk : okP (okR p s c l st ag) p pn1 2 pp xs ys = true) (hcap : pn1 ≤ pc1) (fin : Fin ⟨p, pp, st, sk, re⟩ (tot xs + tot ys) ys m)
    (hC : ∀ u, Below w.heap.size w u → Calls Try.prog 71 #[.agg #[.int .i64 p, .int .i64 s, .bool st, .bool sk, .bool re, .bool fe, .bool ag, .int .i64 c, .int .i64 l], .agg #[.slice p1 pn1 pc1, .slice p2 2 pc2, .int .i64 pp], .int .i64 move] u (SoZ pn1 2 m.last m.laps 0 m.xs m.ys u)) :
    Calls Try.prog 48 #[.agg #[.int .i64 p, .int .i64 s, .bool st, .bool sk, .bool re, .bool fe, .bool ag, .int .i64 c, .int .i64 l], .agg #[.slice p1 pn1 pc1, .slice p2 2 pc2, .int .i64 pp], .int .i64 move] w (MkL p s c l st sk re fe ag pp pn1 p1 p2 pc1 pc2 m (illB c l p pp fe xs m) w) := by
  have HC := Lib.hid hC
  have H0 := Lib.hid h
  have Hk := Lib.hid hk
  have Hfin := Lib.hid fin
  have HS := Lib.hid ((rp_new p s c l st sk re fe ag p1 p2 pn1 pc1 2 pc2 pp w 31 41).below (al1 _ (.cells zero21.toArray 73)))
  have HZ := Lib.hid (show ThN 21 _ (w.heap.size + 1 + 1) from by have := thN_new ((w.alloc (.cells #[.int .i64 p, .int .i64 s, .bool st, .bool sk, .bool re, .bool fe, .bool ag, .int .i64 c, .int .i64 l] 31)).alloc (.cells #[.slice p1 pn1 pc1, .slice p2 2 pc2, .int .i64 pp] 41)) 73; simpa using this)
  clear hC h hk fin
  go_enter Try.func48, Try.ntmps48
  go_wp2_with fail
  change Calls _ _ _ (((w.alloc (.cells #[.int .i64 p, .int .i64 s, .bool st, .bool sk, .bool re, .bool fe, .bool ag, .int .i64 c, .int .i64 l] 31)).alloc (.cells #[.slice p1 pn1 pc1, .slice p2 2 pc2, .int .i64 pp] 41)).alloc (.cells zero21.toArray 73)) _
  refine (HC.out _ HS.out.2.2).mono ?_
  generalize ((w.alloc (.cells #[.int .i64 p, .int .i64 s, .bool st, .bool sk, .bool re, .bool fe, .bool ag, .int .i64 c, .int .i64 l] 31)).alloc (.cells #[.slice p1 pn1 pc1, .slice p2 2 pc2, .int .i64 pp] 41)).alloc (.cells zero21.toArray 73) = u at *
  rintro e u2 ⟨s1, sc1, e1, s2, sc2, e2, rfl, ho, hl1, hl2, hc1, hc2, hb⟩
  have HS := Lib.hid (HS.out.below hb)
  have HZ := Lib.hid (HZ.out.below hb)
  have HR := Lib.hid ho.r
  obtain ⟨⟨_, r0, r1, r2, r3, r4, r5, r6, r7, r8⟩, ⟨_, g0, g1, g2⟩, -⟩ := HS.out
  clear hb
  go_wp2_with fail
  have HG := Lib.hid (good_fin (t := 0) p s c l st sk re fe ag Hk.out Hfin.out)
  have hu2 : w.heap.size + 1 + 1 < u2.heap.size := HZ.out.lt
  have HK := Lib.hid (show CkAt w ((u2.alloc (.cells #[.slice s1 pn1 sc1, .slice s2 2 sc2, .int .i64 m.last, .int .i64 m.laps] 28)).alloc (.cells #[.int .i64 p, .int .i64 s, .bool st, .bool sk, .bool re, .bool fe, .bool ag, .int .i64 c, .int .i64 l, .int .i64 pp, .slice s1 pn1 sc1, .slice s2 2 sc2, .int .i64 m.last, .int .i64 m.laps] 63)) (u2.heap.size + 1) p s c l st sk re fe ag pp s1 s2 pn1 sc1 2 sc2 m.last m.laps p1 p2 pn1 pc1 2 pc2 pp _ from ⟨⟨by simp, by go_simp, by go_simp, by go_simp, by go_simp, by go_simp, by go_simp, by go_simp, by go_simp, by go_simp, by go_simp, by go_simp, by go_simp, by go_simp, by go_simp⟩, (HS.out.2.1.below (al1 _ _)).below (al1 _ _), Below.refl _ _⟩)
  have HZ := Lib.hid ((HZ.out.below (al1 _ (.cells #[.slice s1 pn1 sc1, .slice s2 2 sc2, .int .i64 m.last, .int .i64 m.laps] 28))).below (al1 _ (.cells #[.int .i64 p, .int .i64 s, .bool st, .bool sk, .bool re, .bool fe, .bool ag, .int .i64 c, .int .i64 l, .int .i64 pp, .slice s1 pn1 sc1, .slice s2 2 sc2, .int .i64 m.last, .int .i64 m.laps] 63)))
  have HS := Lib.hid ((HS.out.below (al1 _ (.cells #[.slice s1 pn1 sc1, .slice s2 2 sc2, .int .i64 m.last, .int .i64 m.laps] 28))).below (al1 _ (.cells #[.int .i64 p, .int .i64 s, .bool st, .bool sk, .bool re, .bool fe, .bool ag, .int .i64 c, .int .i64 l, .int .i64 pp, .slice s1 pn1 sc1, .slice s2 2 sc2, .int .i64 m.last, .int .i64 m.laps] 63)))
  have HR := Lib.hid ((HR.out.alloc (.cells #[.slice s1 pn1 sc1, .slice s2 2 sc2, .int .i64 m.last, .int .i64 m.laps] 28)).alloc (.cells #[.int .i64 p, .int .i64 s, .bool st, .bool sk, .bool re, .bool fe, .bool ag, .int .i64 c, .int .i64 l, .int .i64 pp, .slice s1 pn1 sc1, .slice s2 2 sc2, .int .i64 m.last, .int .i64 m.laps] 63))
  generalize hC : u2.heap.size + 1 = C at *
  clear ho hl1 hl2 r0 r1 r2 r3 r4 r5 r6 r7 r8 g0 g1 g2
  generalize (u2.alloc (.cells #[.slice s1 pn1 sc1, .slice s2 2 sc2, .int .i64 m.last, .int .i64 m.laps] 28)).alloc (.cells #[.int .i64 p, .int .i64 s, .bool st, .bool sk, .bool re, .bool fe, .bool ag, .int .i64 c, .int .i64 l, .int .i64 pp, .slice s1 pn1 sc1, .slice s2 2 sc2, .int .i64 m.last, .int .i64 m.laps] 63) = U at *
  have HTk : Hid (∀ u, OnW U u → Calls Try.prog 46 #[.agg #[.int .i64 p, .int .i64 s, .bool st, .bool sk, .bool re, .bool fe, .bool ag, .int .i64 c, .int .i64 l, .int .i64 pp, .slice s1 pn1 sc1, .slice s2 2 sc2, .int .i64 m.last, .int .i64 m.laps]] u (SoP pn1 2 m.last m.laps (tkX c l p pp m.last m.xs) (tkY c l p pp m.last m.xs m.ys) u)) := Lib.hid (fun u hu => capTake_any p s c l st sk re fe ag pp s1 s2 pn1 sc1 sc2 m.last m.laps m.xs m.ys u (HR.out.below hu) HG.out.1 hc1)
  have HT : Hid (∀ u : World, CkAt w U C p s c l st sk re fe ag pp s1 s2 pn1 sc1 2 sc2 m.last m.laps p1 p2 pn1 pc1 2 pc2 pp u → (C < u.heap.size ∧ u.cell? ⟨C, 0, none⟩ = some (.int .i64 p) ∧ u.cell? ⟨C, 1, none⟩ = some (.int .i64 s) ∧ u.cell? ⟨C, 2, none⟩ = some (.bool st) ∧ u.cell? ⟨C, 3, none⟩ = some (.bool sk) ∧ u.cell? ⟨C, 4, none⟩ = some (.bool re) ∧ u.cell? ⟨C, 5, none⟩ = some (.bool fe) ∧ u.cell? ⟨C, 6, none⟩ = some (.bool ag) ∧ u.cell? ⟨C, 7, none⟩ = some (.int .i64 c) ∧ u.cell? ⟨C, 8, none⟩ = some (.int .i64 l) ∧ u.cell? ⟨C, 9, none⟩ = some (.int .i64 pp) ∧ u.cell? ⟨C, 10, none⟩ = some (.slice s1 pn1 sc1) ∧ u.cell? ⟨C, 11, none⟩ = some (.slice s2 2 sc2) ∧ u.cell? ⟨C, 12, none⟩ = some (.int .i64 m.last) ∧ u.cell? ⟨C, 13, none⟩ = some (.int .i64 m.laps)) ∧ (w.heap.size + 1 < u.heap.size ∧ u.cell? ⟨w.heap.size + 1, 0, none⟩ = some (.slice p1 pn1 pc1) ∧ u.cell? ⟨w.heap.size + 1, 1, none⟩ = some (.slice p2 2 pc2) ∧ u.cell? ⟨w.heap.size + 1, 2, none⟩ = some (.int .i64 pp)) ∧ Below U.heap.size U u) := Lib.hid (fun u h => h)
  have hCU := HK.out.1.1
  have HRgC : Hid (∀ u, ((C < u.heap.size ∧ u.cell? ⟨C, 0, none⟩ = some (.int .i64 p) ∧ u.cell? ⟨C, 1, none⟩ = some (.int .i64 s) ∧ u.cell? ⟨C, 2, none⟩ = some (.bool st) ∧ u.cell? ⟨C, 3, none⟩ = some (.bool sk) ∧ u.cell? ⟨C, 4, none⟩ = some (.bool re) ∧ u.cell? ⟨C, 5, none⟩ = some (.bool fe) ∧ u.cell? ⟨C, 6, none⟩ = some (.bool ag) ∧ u.cell? ⟨C, 7, none⟩ = some (.int .i64 c) ∧ u.cell? ⟨C, 8, none⟩ = some (.int .i64 l) ∧ u.cell? ⟨C, 9, none⟩ = some (.int .i64 pp) ∧ u.cell? ⟨C, 10, none⟩ = some (.slice s1 pn1 sc1) ∧ u.cell? ⟨C, 11, none⟩ = some (.slice s2 2 sc2) ∧ u.cell? ⟨C, 12, none⟩ = some (.int .i64 m.last) ∧ u.cell? ⟨C, 13, none⟩ = some (.int .i64 m.laps)) ∧ (w.heap.size + 1 < u.heap.size ∧ u.cell? ⟨w.heap.size + 1, 0, none⟩ = some (.slice p1 pn1 pc1) ∧ u.cell? ⟨w.heap.size + 1, 1, none⟩ = some (.slice p2 2 pc2) ∧ u.cell? ⟨w.heap.size + 1, 2, none⟩ = some (.int .i64 pp)) ∧ Below U.heap.size U u) → u.rangeAt C 0 [.int .i64 p, .int .i64 s, .bool st, .bool sk, .bool re, .bool fe, .bool ag, .int .i64 c, .int .i64 l, .int .i64 pp, .slice s1 pn1 sc1, .slice s2 2 sc2, .int .i64 m.last, .int .i64 m.laps]) := Lib.hid (fun u h => range14 h.1)
  have HRgP : Hid (∀ u, ((C < u.heap.size ∧ u.cell? ⟨C, 0, none⟩ = some (.int .i64 p) ∧ u.cell? ⟨C, 1, none⟩ = some (.int .i64 s) ∧ u.cell? ⟨C, 2, none⟩ = some (.bool st) ∧ u.cell? ⟨C, 3, none⟩ = some (.bool sk) ∧ u.cell? ⟨C, 4, none⟩ = some (.bool re) ∧ u.cell? ⟨C, 5, none⟩ = some (.bool fe) ∧ u.cell? ⟨C, 6, none⟩ = some (.bool ag) ∧ u.cell? ⟨C, 7, none⟩ = some (.int .i64 c) ∧ u.cell? ⟨C, 8, none⟩ = some (.int .i64 l) ∧ u.cell? ⟨C, 9, none⟩ = some (.int .i64 pp) ∧ u.cell? ⟨C, 10, none⟩ = some (.slice s1 pn1 sc1) ∧ u.cell? ⟨C, 11, none⟩ = some (.slice s2 2 sc2) ∧ u.cell? ⟨C, 12, none⟩ = some (.int .i64 m.last) ∧ u.cell? ⟨C, 13, none⟩ = some (.int .i64 m.laps)) ∧ (w.heap.size + 1 < u.heap.size ∧ u.cell? ⟨w.heap.size + 1, 0, none⟩ = some (.slice p1 pn1 pc1) ∧ u.cell? ⟨w.heap.size + 1, 1, none⟩ = some (.slice p2 2 pc2) ∧ u.cell? ⟨w.heap.size + 1, 2, none⟩ = some (.int .i64 pp)) ∧ Below U.heap.size U u) → u.rangeAt (w.heap.size + 1) 0 [.slice p1 pn1 pc1, .slice p2 2 pc2, .int .i64 pp]) := Lib.hid (fun u h => range3 h.2.1)
  have hU1 : C < U.heap.size := HK.out.1.1
  have hU2 : w.heap.size + 1 < U.heap.size := HK.out.2.1.1
  go_cut [11] (fun s11 wx => ∃ M g1 k1 g2 k2 : Nat, s11 = .pointer (some ⟨M, 0, none⟩) ∧ MkF w U p s c l st sk re fe ag pp s1 s2 pn1 sc1 sc2 p1 p2 pc1 pc2 m M g1 k1 g2 k2 wx)
  case first =>
    refine wp_region_held_drew (S := fun u => (C < u.heap.size ∧ u.cell? ⟨C, 0, none⟩ = some (.int .i64 p) ∧ u.cell? ⟨C, 1, none⟩ = some (.int .i64 s) ∧ u.cell? ⟨C, 2, none⟩ = some (.bool st) ∧ u.cell? ⟨C, 3, none⟩ = some (.bool sk) ∧ u.cell? ⟨C, 4, none⟩ = some (.bool re) ∧ u.cell? ⟨C, 5, none⟩ = some (.bool fe) ∧ u.cell? ⟨C, 6, none⟩ = some (.bool ag) ∧ u.cell? ⟨C, 7, none⟩ = some (.int .i64 c) ∧ u.cell? ⟨C, 8, none⟩ = some (.int .i64 l) ∧ u.cell? ⟨C, 9, none⟩ = some (.int .i64 pp) ∧ u.cell? ⟨C, 10, none⟩ = some (.slice s1 pn1 sc1) ∧ u.cell? ⟨C, 11, none⟩ = some (.slice s2 2 sc2) ∧ u.cell? ⟨C, 12, none⟩ = some (.int .i64 m.last) ∧ u.cell? ⟨C, 13, none⟩ = some (.int .i64 m.laps)) ∧ (w.heap.size + 1 < u.heap.size ∧ u.cell? ⟨w.heap.size + 1, 0, none⟩ = some (.slice p1 pn1 pc1) ∧ u.cell? ⟨w.heap.size + 1, 1, none⟩ = some (.slice p2 2 pc2) ∧ u.cell? ⟨w.heap.size + 1, 2, none⟩ = some (.int .i64 pp)) ∧ Below U.heap.size U u) (by kernel_rfl) (HT.out _ HK.out.drew) (fun hHeld => ?_)
    refine wpAnyH_take (i := 0) rfl (by kernel_rfl) (by kernel_rfl) (by kernel_rfl) (fun _ _ _ h => h) (yieldsIf_load_mid (by rfl) 63 _ rfl C 0 rfl [.int .i64 p, .int .i64 s, .bool st, .bool sk, .bool re, .bool fe, .bool ag, .int .i64 c, .int .i64 l, .int .i64 pp, .slice s1 pn1 sc1, .slice s2 2 sc2, .int .i64 m.last, .int .i64 m.laps] _ HRgC.out Try.underlying63 rfl (by kernel_rfl)) hHeld ?_
    simp only [Act.put, List.setIfInBounds_toArray]
    refine wpAnyH_take (i := 1) rfl (by kernel_rfl) (by kernel_rfl) (by kernel_rfl) (fun _ _ _ h => h) (yieldsIf_load_mid (by rfl) 41 _ rfl (w.heap.size + 1) 0 rfl [.slice p1 pn1 pc1, .slice p2 2 pc2, .int .i64 pp] _ HRgP.out Try.underlying41 rfl (by kernel_rfl)) hHeld ?_
    simp only [Act.put]
    refine wpAnyH_take (i := 2) rfl (by kernel_rfl) (by kernel_rfl) (by kernel_rfl) (fun _ _ _ h => h) (yieldsIf_load_mid (by rfl) 63 _ rfl C 0 rfl [.int .i64 p, .int .i64 s, .bool st, .bool sk, .bool re, .bool fe, .bool ag, .int .i64 c, .int .i64 l, .int .i64 pp, .slice s1 pn1 sc1, .slice s2 2 sc2, .int .i64 m.last, .int .i64 m.laps] _ HRgC.out Try.underlying63 rfl (by kernel_rfl)) hHeld ?_
    simp only [Act.put]
    refine wpAnyH_ready (rs := [3, 5]) (by kernel_rfl) (by simp) ?_
    refine AllReadyH.cons rfl (fun K hK => ?_) (AllReadyH.cons rfl (fun K hK => ?_) AllReadyH.nil)
    · rw [if_pos (by rfl)]
      go_simp
      go_at_call 46
      refine (HTk.out _ HK.out.drew.be).mono ?_
      rintro e w5 ⟨g1, k1, g2, k2, rfl, hto, htl1, htl2, htc1, htc2, hb5⟩
      have HK5 := Lib.hid (show CkAt w U C p s c l st sk re fe ag pp s1 s2 pn1 sc1 2 sc2 m.last m.laps p1 p2 pn1 pc1 2 pc2 pp w5 from HK.out.drew.below hb5)
      have HO := Lib.hid (show PosO w5 U.heap.size (some ⟨g1, 0, none⟩) (some ⟨g2, 0, none⟩) g1 g2 pn1 2 (tkX c l p pp m.last m.xs) (tkY c l p pp m.last m.xs m.ys) from hto)
      have hUw : U.heap.size ≤ w5.heap.size := HK5.out.be.size
      clear hb5 hto
      dsimp only
      refine hK.out _ _ (HT.out _ HK5.out) (fun hHeld => ?_)
      clear hK K
      refine wpAnyH_take (i := 4) (oi := { dst := some 32, op := Op.build 73 #[(0, Operand.tmp 28), (1, Operand.tmp 29), (2, Operand.tmp 31)], type := 73, pos := "l07_moves.go:31", after := #[{ on := 0, ground := Ground.data }, { on := 1, ground := Ground.data }, { on := 3, ground := Ground.data }], guard := none }) (v := .agg #[.int .i64 p, .int .i64 s, .bool st, .bool sk, .bool re, .bool fe, .bool ag, .int .i64 c, .int .i64 l, .int .i64 pp, .slice s1 pn1 sc1, .slice s2 2 sc2, .int .i64 m.last, .int .i64 m.laps, .slice p1 pn1 pc1, .slice p2 2 pc2, .int .i64 pp, .slice (some ⟨g1, 0, none⟩) pn1 k1, .slice (some ⟨g2, 0, none⟩) 2 k2, .int .i64 m.last, .int .i64 m.laps]) rfl (by kernel_rfl) (by kernel_rfl) (by kernel_rfl) (fun _ _ _ h => h) (.inl ⟨by rfl, fun u hu => by go_simp⟩) hHeld ?_
      simp only [Act.put, List.setIfInBounds_toArray, List.set_cons_zero, List.set_cons_succ]
      refine wpAnyH_ready (rs := [5]) (by kernel_rfl) (by simp) ?_
      refine AllReadyH.cons rfl (fun K hK => ?_) AllReadyH.nil
      rw [if_pos (by rfl)]
      go_simp
      have HTh := Lib.hid (thN_new w5 73)
      have HK6 := Lib.hid (show CkAt w U C p s c l st sk re fe ag pp s1 s2 pn1 sc1 2 sc2 m.last m.laps p1 p2 pn1 pc1 2 pc2 pp _ from HK5.out.below (al1 w5 (.cells zero21.toArray 73)))
      have HO6 := Lib.hid (PosO.below HO.out (al1 w5 (.cells zero21.toArray 73)))
      change K _ (w5.alloc (.cells zero21.toArray 73))
      refine hK.out _ _ (HT.out _ HK6.out) (fun hHeld => ?_)
      clear hK K
      (try simp only [Act.put, List.setIfInBounds_toArray, List.set_cons_zero, List.set_cons_succ])
      refine wpAnyH_ready (rs := [6]) (by kernel_rfl) (by simp) ?_
      refine AllReadyH.cons rfl (fun K hK => ?_) AllReadyH.nil
      rw [if_pos (by rfl)]
      refine wp_store_mid 73 _ _ rfl w5.heap.size 0 (List.toArray [.int .i64 p, .int .i64 s, .bool st, .bool sk, .bool re, .bool fe, .bool ag, .int .i64 c, .int .i64 l, .int .i64 pp, .slice s1 pn1 sc1, .slice s2 2 sc2, .int .i64 m.last, .int .i64 m.laps, .slice p1 pn1 pc1, .slice p2 2 pc2, .int .i64 pp, .slice (some ⟨g1, 0, none⟩) pn1 k1, .slice (some ⟨g2, 0, none⟩) 2 k2, .int .i64 m.last, .int .i64 m.laps]) rfl rfl HTh.out.th (by kernel_rfl) (mm_one p s c l st sk re fe ag pp s1 s2 pn1 sc1 2 sc2 m.last m.laps p1 p2 pn1 pc1 2 pc2 pp (some ⟨g1, 0, none⟩) (some ⟨g2, 0, none⟩) pn1 k1 2 k2 m.last m.laps) ?_
      simp only [Act.put, List.setIfInBounds_toArray]
      refine hK.out _ _ (HT.out _ (HK6.out.sc (by omega) (by omega) (by omega) _ _)) (fun hHeld => ?_)
      clear hK K
      (try simp only [Act.put, List.setIfInBounds_toArray, List.set_cons_zero, List.set_cons_succ])
      refine wpAnyH_done (by kernel_rfl) ?_ _
      go_wp2_with fail
      go_meet
      exact ⟨w5.heap.size, g1, k1, g2, k2, rfl, ⟨World.rangeAt_setCells_same _ _ 0 _ HTh.out.th, by rw [size_sc]; exact HTh.out.lt, by omega, (HK6.out.sc (by omega) (by omega) (by omega) _ _).be, PosO.but HO6.out (but_sc _ _ _ _) (by omega) (by omega), by rw [size_sc]; simp; omega, by rw [size_sc]; simp; omega, htc1, htc2⟩⟩
    · rw [if_pos (by rfl)]
      go_simp
      have HK6 := Lib.hid (show CkAt w U C p s c l st sk re fe ag pp s1 s2 pn1 sc1 2 sc2 m.last m.laps p1 p2 pn1 pc1 2 pc2 pp _ from (HK.out.below (al1 U (.cells zero21.toArray 73))).drew)
      change K _ (U.alloc (.cells zero21.toArray 73)).drew
      refine hK.out _ _ (HT.out _ HK6.out) (fun hHeld => ?_)
      clear hK K
      (try simp only [Act.put, List.setIfInBounds_toArray, List.set_cons_zero, List.set_cons_succ])
      refine wpAnyH_ready (rs := [3]) (by kernel_rfl) (by simp) ?_
      refine AllReadyH.cons rfl (fun K hK => ?_) AllReadyH.nil
      rw [if_pos (by rfl)]
      go_simp
      go_at_call 46
      refine (HTk.out _ HK6.out.be).mono ?_
      rintro e w5 ⟨g1, k1, g2, k2, rfl, hto, htl1, htl2, htc1, htc2, hb5⟩
      have HK7 := Lib.hid (show CkAt w U C p s c l st sk re fe ag pp s1 s2 pn1 sc1 2 sc2 m.last m.laps p1 p2 pn1 pc1 2 pc2 pp w5 from HK6.out.below hb5)
      have HO := Lib.hid (show PosO w5 (U.heap.size + 1) (some ⟨g1, 0, none⟩) (some ⟨g2, 0, none⟩) g1 g2 pn1 2 (tkX c l p pp m.last m.xs) (tkY c l p pp m.last m.xs m.ys) from by have h := hto; simpa using h)
      have HTh := Lib.hid (show ThN 21 w5 U.heap.size from ThN.below (ThN.below (thN_new U 73) (Below.refl _ _).drew) hb5)
      have hUw : U.heap.size ≤ w5.heap.size := HK7.out.be.size
      have ng1 := HO.out.o1.new
      have ng2 := HO.out.o2.new
      clear hb5 hto
      dsimp only
      refine hK.out _ _ (HT.out _ HK7.out) (fun hHeld => ?_)
      clear hK K
      (try simp only [Act.put, List.setIfInBounds_toArray, List.set_cons_zero, List.set_cons_succ])
      refine wpAnyH_take (i := 4) (oi := { dst := some 32, op := Op.build 73 #[(0, Operand.tmp 28), (1, Operand.tmp 29), (2, Operand.tmp 31)], type := 73, pos := "l07_moves.go:31", after := #[{ on := 0, ground := Ground.data }, { on := 1, ground := Ground.data }, { on := 3, ground := Ground.data }], guard := none }) (v := .agg #[.int .i64 p, .int .i64 s, .bool st, .bool sk, .bool re, .bool fe, .bool ag, .int .i64 c, .int .i64 l, .int .i64 pp, .slice s1 pn1 sc1, .slice s2 2 sc2, .int .i64 m.last, .int .i64 m.laps, .slice p1 pn1 pc1, .slice p2 2 pc2, .int .i64 pp, .slice (some ⟨g1, 0, none⟩) pn1 k1, .slice (some ⟨g2, 0, none⟩) 2 k2, .int .i64 m.last, .int .i64 m.laps]) rfl (by kernel_rfl) (by kernel_rfl) (by kernel_rfl) (fun _ _ _ h => h) (.inl ⟨by rfl, fun u hu => by go_simp⟩) hHeld ?_
      simp only [Act.put, List.setIfInBounds_toArray, List.set_cons_zero, List.set_cons_succ]
      refine wpAnyH_ready (rs := [6]) (by kernel_rfl) (by simp) ?_
      refine AllReadyH.cons rfl (fun K hK => ?_) AllReadyH.nil
      rw [if_pos (by rfl)]
      refine wp_store_mid 73 _ _ rfl U.heap.size 0 (List.toArray [.int .i64 p, .int .i64 s, .bool st, .bool sk, .bool re, .bool fe, .bool ag, .int .i64 c, .int .i64 l, .int .i64 pp, .slice s1 pn1 sc1, .slice s2 2 sc2, .int .i64 m.last, .int .i64 m.laps, .slice p1 pn1 pc1, .slice p2 2 pc2, .int .i64 pp, .slice (some ⟨g1, 0, none⟩) pn1 k1, .slice (some ⟨g2, 0, none⟩) 2 k2, .int .i64 m.last, .int .i64 m.laps]) rfl rfl HTh.out.th (by kernel_rfl) (mm_one p s c l st sk re fe ag pp s1 s2 pn1 sc1 2 sc2 m.last m.laps p1 p2 pn1 pc1 2 pc2 pp (some ⟨g1, 0, none⟩) (some ⟨g2, 0, none⟩) pn1 k1 2 k2 m.last m.laps) ?_
      simp only [Act.put, List.setIfInBounds_toArray]
      refine hK.out _ _ (HT.out _ (HK7.out.sc (by omega) (by omega) (by omega) _ _)) (fun hHeld => ?_)
      clear hK K
      (try simp only [Act.put, List.setIfInBounds_toArray, List.set_cons_zero, List.set_cons_succ])
      refine wpAnyH_done (by kernel_rfl) ?_ _
      go_wp2_with fail
      go_meet
      exact ⟨U.heap.size, g1, k1, g2, k2, rfl, ⟨World.rangeAt_setCells_same _ _ 0 _ HTh.out.th, by rw [size_sc]; exact HTh.out.lt, by omega, (HK7.out.sc (by omega) (by omega) (by omega) _ _).be, PosO.but (HO.out.lower (Nat.le_succ _)) (but_sc _ _ _ _) (by omega) (by omega), by rw [size_sc]; exact htl1, by rw [size_sc]; exact htl2, htc1, htc2⟩⟩
  case rest =>
    obtain ⟨M, g1, k1, g2, k2, rfl, hM⟩ := hcut
    have HM := Lib.hid hM
    have HZc := Lib.hid (show ThN 21 wc (w.heap.size + 1 + 1) from ThN.below HZ.out hM.be)
    have HSc := Lib.hid (show OnW w wc from Below.trans HS.out.2.2 (Below.mono hM.be HS.out.2.2.size))
    have hρU : w.heap.size + 1 + 1 < U.heap.size := by omega
    clear hM HT HTk HK hU1 hU2
    go_wp2_with (refine wpList_load_mid rfl 73 _ rfl M 0 rfl _ _ HM.out.rg Try.underlying73 rfl (by kernel_rfl) ?_)
    refine (fbS_any p s c l st sk re fe ag pp s1 s2 pn1 sc1 2 sc2 m.last m.laps p1 p2 pn1 pc1 2 pc2 pp (some ⟨g1, 0, none⟩) (some ⟨g2, 0, none⟩) pn1 k1 2 k2 m.last m.laps m.xs m.ys wc (HR.out.below HM.out.be) HG.out.1 hc1).mono ?_
    rintro e w6 ⟨rfl, hb6⟩
    have HM := Lib.hid (HM.out.below hb6)
    have HZ6 := Lib.hid (show ThN 21 w6 (w.heap.size + 1 + 1) from ThN.below HZc.out hb6)
    have HS6 := Lib.hid (show OnW w w6 from Below.trans HSc.out (Below.mono hb6 HSc.out.size))
    have HIll : Hid (illB c l p pp fe xs m = ((decide (l = 1) && slamF c p pp m.last m.xs) || fbF c l p pp fe xs m)) := Lib.hid rfl
    clear hb6 HZc HSc
    rcases hS : (decide (l = 1) && slamF c p pp m.last m.xs) with _ | _
    · rw [hS, Bool.false_or] at HIll
      clear hS
      go_wp2_with (first | (refine wpList_load_mid rfl 73 _ rfl M 0 rfl _ _ HM.out.rg Try.underlying73 rfl (by kernel_rfl) ?_) | (refine wpList_load_want (by rfl) 73 _ rfl M 0 rfl _ _ HM.out.rg Try.underlying73 rfl (by kernel_rfl) ?_) | (refine wpList_store_mid rfl 73 _ _ rfl (w.heap.size + 1 + 1) 0 zero21.toArray rfl rfl HZ6.out.th (by kernel_rfl) zero21_one ?_))
      have hsum := HG.out.1.sum HG.out.2.1
      have ht1 := HG.out.1.t1
      refine (fbF_any p s c l st sk re fe ag pp s1 s2 pn1 sc1 2 sc2 m.last m.laps p1 p2 pn1 pc1 2 pc2 pp (some ⟨g1, 0, none⟩) (some ⟨g2, 0, none⟩) pn1 k1 2 k2 m.last m.laps xs ys (tkX c l p pp m.last m.xs) w6 (H0.out.below HS6.out) Hk.out hcap HM.out.ho.o1.row (tkX_len.trans HG.out.2.1) HG.out.1.n1 (HG.out.1.tk HG.out.2.1 HG.out.2.2).1 (by omega) HM.out.h1 rfl).mono ?_
      rintro e w7 ⟨rfl, hb7⟩
      have HM := Lib.hid (HM.out.below hb7)
      have HZ7 := Lib.hid (show ThN 21 w7 (w.heap.size + 1 + 1) from ThN.below HZ6.out hb7)
      have HS7 := Lib.hid (show OnW w w7 from Below.trans HS6.out (Below.mono hb7 HS6.out.size))
      have HIl2 : Hid (illB c l p pp fe xs m = ((fe && noneO p pp xs) && noneO p pp (tkX c l p pp m.last m.xs))) := Lib.hid HIll.out
      clear hb7 HZ6 HS6 hsum ht1 HIll
      rcases hF : ((fe && noneO p pp xs) && noneO p pp (tkX c l p pp m.last m.xs)) with _ | _
      · have HIll := Lib.hid (HIl2.out.trans hF)
        clear hF HIl2
        go_wp2_with (first | (refine wpList_load_mid rfl 73 _ rfl M 0 rfl _ _ HM.out.rg Try.underlying73 rfl (by kernel_rfl) ?_) | (refine wpList_load_want (by rfl) 73 _ rfl M 0 rfl _ _ HM.out.rg Try.underlying73 rfl (by kernel_rfl) ?_) | (refine wpList_store_mid rfl 73 _ _ rfl (w.heap.size + 1 + 1) 0 zero21.toArray rfl rfl HZ7.out.th (by kernel_rfl) zero21_one ?_) | (refine wpList_store_mid rfl 73 _ _ rfl (w.heap.size + 1 + 1) 0 (List.toArray [.int .i64 p, .int .i64 s, .bool st, .bool sk, .bool re, .bool fe, .bool ag, .int .i64 c, .int .i64 l, .int .i64 pp, .slice s1 pn1 sc1, .slice s2 2 sc2, .int .i64 m.last, .int .i64 m.laps, .slice p1 pn1 pc1, .slice p2 2 pc2, .int .i64 pp, .slice (some ⟨g1, 0, none⟩) pn1 k1, .slice (some ⟨g2, 0, none⟩) 2 k2, .int .i64 m.last, .int .i64 m.laps]) rfl rfl HZ7.out.th (by kernel_rfl) (mm_one p s c l st sk re fe ag pp s1 s2 pn1 sc1 2 sc2 m.last m.laps p1 p2 pn1 pc1 2 pc2 pp (some ⟨g1, 0, none⟩) (some ⟨g2, 0, none⟩) pn1 k1 2 k2 m.last m.laps) ?_))
        have hrun := run_loadVar_mid (P := Try.prog) _ (w.heap.size + 1 + 1) 0 73 [.int .i64 p, .int .i64 s, .bool st, .bool sk, .bool re, .bool fe, .bool ag, .int .i64 c, .int .i64 l, .int .i64 pp, .slice s1 pn1 sc1, .slice s2 2 sc2, .int .i64 m.last, .int .i64 m.laps, .slice p1 pn1 pc1, .slice p2 2 pc2, .int .i64 pp, .slice (some ⟨g1, 0, none⟩) pn1 k1, .slice (some ⟨g2, 0, none⟩) 2 k2, .int .i64 m.last, .int .i64 m.laps] _ (World.rangeAt_setCells_same w7 (w.heap.size + 1 + 1) 0 [.int .i64 p, .int .i64 s, .bool st, .bool sk, .bool re, .bool fe, .bool ag, .int .i64 c, .int .i64 l, .int .i64 pp, .slice s1 pn1 sc1, .slice s2 2 sc2, .int .i64 m.last, .int .i64 m.laps, .slice p1 pn1 pc1, .slice p2 2 pc2, .int .i64 pp, .slice (some ⟨g1, 0, none⟩) pn1 k1, .slice (some ⟨g2, 0, none⟩) 2 k2, .int .i64 m.last, .int .i64 m.laps] HZ7.out.th) Try.underlying73 rfl (by kernel_rfl)
        refine bodyPost_ret (v := .tuple #[.agg #[.int .i64 p, .int .i64 s, .bool st, .bool sk, .bool re, .bool fe, .bool ag, .int .i64 c, .int .i64 l, .int .i64 pp, .slice s1 pn1 sc1, .slice s2 2 sc2, .int .i64 m.last, .int .i64 m.laps, .slice p1 pn1 pc1, .slice p2 2 pc2, .int .i64 pp, .slice (some ⟨g1, 0, none⟩) pn1 k1, .slice (some ⟨g2, 0, none⟩) 2 k2, .int .i64 m.last, .int .i64 m.laps], .int .i64 0]) (by simp [results, Try.results48, Result.andThen_ok, asAddr, hrun]) rfl ?_
        rw [HIll.out]
        have n1 := HM.out.ho.o1.new
        have n2 := HM.out.ho.o2.new
        have hUw := HM.out.be.size
        exact mkL_leg ((PosO.but HM.out.ho (but_sc _ _ _ _) (by omega) (by omega)).lower (by omega)) (by rw [size_sc]; exact HM.out.l1) (by rw [size_sc]; exact HM.out.l2) HM.out.h1 HM.out.h2 (below_sc (w.heap.size + 1 + 1) (by omega) _ 0 HS7.out)
      · have HIll := Lib.hid (HIl2.out.trans hF)
        clear hF HIl2
        go_wp2_with (first | (refine wpList_load_mid rfl 73 _ rfl M 0 rfl _ _ HM.out.rg Try.underlying73 rfl (by kernel_rfl) ?_) | (refine wpList_load_want (by rfl) 73 _ rfl M 0 rfl _ _ HM.out.rg Try.underlying73 rfl (by kernel_rfl) ?_) | (refine wpList_store_mid rfl 73 _ _ rfl (w.heap.size + 1 + 1) 0 zero21.toArray rfl rfl HZ7.out.th (by kernel_rfl) zero21_one ?_))
        have hrun := run_loadVar_mid (P := Try.prog) _ (w.heap.size + 1 + 1) 0 73 zero21 _ (World.rangeAt_setCells_same w7 (w.heap.size + 1 + 1) 0 zero21 HZ7.out.th) Try.underlying73 rfl (by kernel_rfl)
        refine bodyPost_ret (v := .tuple #[.agg zero21.toArray, .int .i64 9]) (by simp [results, Try.results48, Result.andThen_ok, asAddr, hrun]) rfl ?_
        rw [HIll.out]
        exact mkL_ill (below_sc (w.heap.size + 1 + 1) (by omega) zero21 0 HS7.out)
    · rw [hS, Bool.true_or] at HIll
      clear hS
      go_wp2_with (first | (refine wpList_load_mid rfl 73 _ rfl M 0 rfl _ _ HM.out.rg Try.underlying73 rfl (by kernel_rfl) ?_) | (refine wpList_load_want (by rfl) 73 _ rfl M 0 rfl _ _ HM.out.rg Try.underlying73 rfl (by kernel_rfl) ?_) | (refine wpList_store_mid rfl 73 _ _ rfl (w.heap.size + 1 + 1) 0 zero21.toArray rfl rfl HZ6.out.th (by kernel_rfl) zero21_one ?_))
      have hrun := run_loadVar_mid (P := Try.prog) _ (w.heap.size + 1 + 1) 0 73 zero21 _ (World.rangeAt_setCells_same w6 (w.heap.size + 1 + 1) 0 zero21 HZ6.out.th) Try.underlying73 rfl (by kernel_rfl)
      refine bodyPost_ret (v := .tuple #[.agg zero21.toArray, .int .i64 9]) (by simp [results, Try.results48, Result.andThen_ok, asAddr, hrun]) rfl ?_
      rw [HIll.out]
      exact mkL_ill (below_sc (w.heap.size + 1 + 1) (by omega) zero21 0 HS6.out)
end Go.Proofs.Ythbkdlidpdliaaa

/- Mk11: A legal move in any position, as the program makes it. -/
namespace Go.Proofs.Ythbkdlidpdliaaa
open Go.Joins Go.ChangeShapes Go.WideShapes Go.ChangeAt Go.RowKit Go.Deep
set_option linter.unusedVariables false

/-- What makeLegal leaves. -/
def MkQ (p s c l : Int) (st sk re fe ag : Bool) (pp : Int) (pn1 : Nat) (p1 p2 : Option Addr) (pc1 pc2 : Nat) (LV : Option Res) (cd : Int) (w : World) (e : Ending) (w' : World) : Prop :=
  match LV with
  | none => e = .returned (.tuple #[.agg zero21.toArray, .int .i64 cd]) ∧ Below w.heap.size w w'
  | some m => ∃ s1 s2 sc1 sc2 g1 k1 g2 k2, e = .returned (.tuple #[.agg #[.int .i64 p, .int .i64 s, .bool st, .bool sk, .bool re, .bool fe, .bool ag, .int .i64 c, .int .i64 l, .int .i64 pp, .slice s1 pn1 sc1, .slice s2 2 sc2, .int .i64 m.last, .int .i64 m.laps, .slice p1 pn1 pc1, .slice p2 2 pc2, .int .i64 pp, .slice (some ⟨g1, 0, none⟩) pn1 k1, .slice (some ⟨g2, 0, none⟩) 2 k2, .int .i64 m.last, .int .i64 m.laps], .int .i64 cd]) ∧
    PosO w' w.heap.size (some ⟨g1, 0, none⟩) (some ⟨g2, 0, none⟩) g1 g2 pn1 2 (tkX c l p pp m.last m.xs) (tkY c l p pp m.last m.xs m.ys) ∧ g1 < w'.heap.size ∧ g2 < w'.heap.size ∧ pn1 ≤ k1 ∧ 2 ≤ k2 ∧ Below w.heap.size w w'
/-- Some made move, and a code. -/
def MkD (cd : Int) (w : World) (e : Ending) (w' : World) : Prop :=
  ∃ (p s c l : Int) (st sk re fe ag : Bool) (player : Int) (s1 s2 : Option Addr) (sn1 sc1 sn2 sc2 : Nat) (sp sq : Int) (p1 p2 : Option Addr) (pn1 pc1 pn2 pc2 : Nat) (pp : Int) (t1 t2 : Option Addr) (tn1 tc1 tn2 tc2 : Nat) (tp tq : Int), e = .returned (.tuple #[.agg #[.int .i64 p, .int .i64 s, .bool st, .bool sk, .bool re, .bool fe, .bool ag, .int .i64 c, .int .i64 l, .int .i64 player, .slice s1 sn1 sc1, .slice s2 sn2 sc2, .int .i64 sp, .int .i64 sq, .slice p1 pn1 pc1, .slice p2 pn2 pc2, .int .i64 pp, .slice t1 tn1 tc1, .slice t2 tn2 tc2, .int .i64 tp, .int .i64 tq], .int .i64 cd]) ∧ Below w.heap.size w w'
theorem MkQ.d (p s c l : Int) (st sk re fe ag : Bool) {pp : Int} {pn1 : Nat} {p1 p2 : Option Addr} {pc1 pc2 : Nat} {LV : Option Res} {cd : Int} {w : World} {e : Ending} {w' : World} (h : MkQ p s c l st sk re fe ag pp pn1 p1 p2 pc1 pc2 LV cd w e w') : MkD cd w e w' := by
  cases LV with
  | none => exact ⟨_, _, _, _, _, _, _, _, _, _, _, _, _, _, _, _, _, _, _, _, _, _, _, _, _, _, _, _, _, _, _, _, _, h.1, h.2⟩
  | some m =>
    obtain ⟨s1, s2, sc1, sc2, g1, k1, g2, k2, he, -, -, -, -, -, hb⟩ := h
    exact ⟨_, _, _, _, _, _, _, _, _, _, _, _, _, _, _, _, _, _, _, _, _, _, _, _, _, _, _, _, _, _, _, _, _, he, hb⟩
theorem makeL_any (p s c l : Int) (st sk re fe ag : Bool) (p1 p2 : Option Addr) (pn1 pc1 pn2 pc2 : Nat) (pp : Int) (xs ys : List Int) (move : Int) (w : World) (h : PosR w p1 p2 pn1 pn2 xs ys) (hcap : pn1 ≤ pc1) (k : Bool) (hk : okP (okR p s c l st ag) p pn1 pn2 pp xs ys = k) :
    Calls Try.prog 48 #[.agg #[.int .i64 p, .int .i64 s, .bool st, .bool sk, .bool re, .bool fe, .bool ag, .int .i64 c, .int .i64 l], .agg #[.slice p1 pn1 pc1, .slice p2 pn2 pc2, .int .i64 pp], .int .i64 move] w (MkQ p s c l st sk re fe ag pp pn1 p1 p2 pc1 pc2 (lgV c l p pp fe xs (mvV k p pp st sk re xs ys move)) (lgC c l p pp fe xs (mvCd k p pp st sk re xs ys move) (mvV k p pp st sk re xs ys move)) w) := by
  have hC := fun u (hu : Below w.heap.size w u) => implMove_any p s c l st sk re fe ag p1 p2 pn1 pc1 pn2 pc2 pp xs ys move u (h.below hu) k hk
  cases hm : mvV k p pp st sk re xs ys move with
  | none =>
    rw [hm] at hC
    have h0 : (mvCd k p pp st sk re xs ys move == 0) = false := by
      rcases mvV_none hk h.l1 hm with e | e | e | e <;> rw [e] <;> rfl
    exact makeL_err p s c l st sk re fe ag p1 p2 pn1 pc1 pn2 pc2 pp move _ h0 w hC
  | some m =>
    obtain ⟨rfl, m0, m1, hc0, fin⟩ := mvV_fin hk h.l1 h.l2 hm
    obtain ⟨rfl, hpl⟩ := pl_of_ok hk
    rw [hm, hc0] at hC
    have hX := makeL_some p s c l st sk re fe ag p1 p2 pn1 pc1 pc2 pp move xs ys m w h hk hcap fin hC
    rw [hc0]
    have e1 : lgV c l p pp fe xs (some m) = if illB c l p pp fe xs m then none else some m := rfl
    have e2 : lgC c l p pp fe xs 0 (some m) = if illB c l p pp fe xs m then 9 else 0 := rfl
    rw [e1, e2]
    generalize illB c l p pp fe xs m = b at *
    cases b
    · exact hX.mono (fun e w' q => by unfold MkL at q; rw [if_neg (by decide)] at q; exact q)
    · exact hX.mono (fun e w' q => by unfold MkL at q; rw [if_pos rfl] at q; exact q)
end Go.Proofs.Ythbkdlidpdliaaa

/- Mk12: MoveFault, MovesAgain and MakeMove of the program. -/
namespace Go.Proofs.Ythbkdlidpdliaaa
open Go.Joins Go.ChangeShapes Go.WideShapes Go.ChangeAt Go.RowKit Go.Deep
set_option linter.unusedVariables false


/-- A made move in a variable of its own. -/
theorem mkF_new {w w5 : World} (p s c l : Int) (st sk re fe ag : Bool) {pp : Int} {s1 s2 : Option Addr} {pn1 sc1 sc2 : Nat} {p1 p2 : Option Addr} {pc1 pc2 : Nat} {m : Res} {g1 k1 g2 k2 : Nat} (T : TypeId) (hb : Below w.heap.size w w5)
    (ho : PosO w5 w.heap.size (some ⟨g1, 0, none⟩) (some ⟨g2, 0, none⟩) g1 g2 pn1 2 (tkX c l p pp m.last m.xs) (tkY c l p pp m.last m.xs m.ys)) (l1 : g1 < w5.heap.size) (l2 : g2 < w5.heap.size) (h1 : pn1 ≤ k1) (h2 : 2 ≤ k2) :
    MkF w w p s c l st sk re fe ag pp s1 s2 pn1 sc1 sc2 p1 p2 pc1 pc2 m w5.heap.size g1 k1 g2 k2 ((w5.alloc (.cells zero21.toArray T)).setCells w5.heap.size 0 [.int .i64 p, .int .i64 s, .bool st, .bool sk, .bool re, .bool fe, .bool ag, .int .i64 c, .int .i64 l, .int .i64 pp, .slice s1 pn1 sc1, .slice s2 2 sc2, .int .i64 m.last, .int .i64 m.laps, .slice p1 pn1 pc1, .slice p2 2 pc2, .int .i64 pp, .slice (some ⟨g1, 0, none⟩) pn1 k1, .slice (some ⟨g2, 0, none⟩) 2 k2, .int .i64 m.last, .int .i64 m.laps]) :=
  ⟨World.rangeAt_setCells_same _ _ 0 _ (thN_new w5 T).th, by rw [size_sc]; simp, hb.size, below_sc w5.heap.size hb.size _ 0 (hb.alloc hb.size _), PosO.but (ho.below (al1 _ _)) (but_sc _ _ _ _) (by omega) (by omega), by rw [size_sc]; simp; omega, by rw [size_sc]; simp; omega, h1, h2⟩
set_option maxHeartbeats 4000000 in
set_option maxRecDepth 100000 in
theorem implFault_any (p s c l : Int) (st sk re fe ag : Bool) (p1 p2 : Option Addr) (pn1 pc1 pn2 pc2 : Nat) (pp : Int) (xs ys : List Int) (move : Int) (w : World) (h : PosR w p1 p2 pn1 pn2 xs ys) (hcap : pn1 ≤ pc1) (k : Bool) (hk : okP (okR p s c l st ag) p pn1 pn2 pp xs ys = k) :
    Calls Try.prog 22 #[.agg #[.int .i64 p, .int .i64 s, .bool st, .bool sk, .bool re, .bool fe, .bool ag, .int .i64 c, .int .i64 l], .agg #[.slice p1 pn1 pc1, .slice p2 pn2 pc2, .int .i64 pp], .int .i64 move] w fun e w' => e = .returned (.int .i64 (lgC c l p pp fe xs (mvCd k p pp st sk re xs ys move) (mvV k p pp st sk re xs ys move))) ∧ Below w.heap.size w w' := by
  have HS := Lib.hid (rp_new p s c l st sk re fe ag p1 p2 pn1 pc1 pn2 pc2 pp w 31 41)
  have HC : Hid (∀ u, Below w.heap.size w u → Calls Try.prog 48 #[.agg #[.int .i64 p, .int .i64 s, .bool st, .bool sk, .bool re, .bool fe, .bool ag, .int .i64 c, .int .i64 l], .agg #[.slice p1 pn1 pc1, .slice p2 pn2 pc2, .int .i64 pp], .int .i64 move] u (MkD (lgC c l p pp fe xs (mvCd k p pp st sk re xs ys move) (mvV k p pp st sk re xs ys move)) u)) := Lib.hid (fun u hu => (makeL_any p s c l st sk re fe ag p1 p2 pn1 pc1 pn2 pc2 pp xs ys move u (h.below hu) hcap k hk).mono (fun _ _ q => q.d))
  generalize lgC c l p pp fe xs (mvCd k p pp st sk re xs ys move) (mvV k p pp st sk re xs ys move) = cd at *
  clear h hk hcap
  go_enter Try.func22, Try.ntmps22
  go_wp2_with fail
  refine (HC.out _ HS.out.2.2).mono ?_
  rintro e w5 ⟨pz, sz, cz, lz, stz, skz, rez, fez, agz, playerz, s1z, s2z, sn1z, sc1z, sn2z, sc2z, spz, sqz, p1z, p2z, pn1z, pc1z, pn2z, pc2z, ppz, t1z, t2z, tn1z, tc1z, tn2z, tc2z, tpz, tqz, rfl, hb⟩
  have HS := Lib.hid (HS.out.below hb)
  clear hb
  go_wp2_with (refine wpList_store_mid rfl 73 _ _ rfl w5.heap.size 0 (List.toArray [.int .i64 pz, .int .i64 sz, .bool stz, .bool skz, .bool rez, .bool fez, .bool agz, .int .i64 cz, .int .i64 lz, .int .i64 playerz, .slice s1z sn1z sc1z, .slice s2z sn2z sc2z, .int .i64 spz, .int .i64 sqz, .slice p1z pn1z pc1z, .slice p2z pn2z pc2z, .int .i64 ppz, .slice t1z tn1z tc1z, .slice t2z tn2z tc2z, .int .i64 tpz, .int .i64 tqz]) rfl rfl (thN_new w5 73).th (by kernel_rfl) (mm_one pz sz cz lz stz skz rez fez agz playerz s1z s2z sn1z sc1z sn2z sc2z spz sqz p1z p2z pn1z pc1z pn2z pc2z ppz t1z t2z tn1z tc1z tn2z tc2z tpz tqz) ?_)
  go_ret
  exact ⟨rfl, below_sc w5.heap.size HS.out.2.2.size _ 0 (HS.out.2.2.alloc HS.out.2.2.size _)⟩
set_option maxHeartbeats 4000000 in
set_option maxRecDepth 100000 in
theorem implAgain_any (p s c l : Int) (st sk re fe ag : Bool) (p1 p2 : Option Addr) (pn1 pc1 pn2 pc2 : Nat) (pp : Int) (xs ys : List Int) (move : Int) (w : World) (h : PosR w p1 p2 pn1 pn2 xs ys) (hcap : pn1 ≤ pc1) (k : Bool) (hk : okP (okR p s c l st ag) p pn1 pn2 pp xs ys = k) :
    Calls Try.prog 25 #[.agg #[.int .i64 p, .int .i64 s, .bool st, .bool sk, .bool re, .bool fe, .bool ag, .int .i64 c, .int .i64 l], .agg #[.slice p1 pn1 pc1, .slice p2 pn2 pc2, .int .i64 pp], .int .i64 move] w fun e w' => e = .returned (.bool (agL ag (lgV c l p pp fe xs (mvV k p pp st sk re xs ys move)))) ∧ Below w.heap.size w w' := by
  have HS := Lib.hid (rp_new p s c l st sk re fe ag p1 p2 pn1 pc1 pn2 pc2 pp w 31 41)
  have HC : Hid (∀ u, Below w.heap.size w u → Calls Try.prog 48 #[.agg #[.int .i64 p, .int .i64 s, .bool st, .bool sk, .bool re, .bool fe, .bool ag, .int .i64 c, .int .i64 l], .agg #[.slice p1 pn1 pc1, .slice p2 pn2 pc2, .int .i64 pp], .int .i64 move] u (MkQ p s c l st sk re fe ag pp pn1 p1 p2 pc1 pc2 (lgV c l p pp fe xs (mvV k p pp st sk re xs ys move)) (lgC c l p pp fe xs (mvCd k p pp st sk re xs ys move) (mvV k p pp st sk re xs ys move)) u)) := Lib.hid (fun u hu => makeL_any p s c l st sk re fe ag p1 p2 pn1 pc1 pn2 pc2 pp xs ys move u (h.below hu) hcap k hk)
  cases hl : lgV c l p pp fe xs (mvV k p pp st sk re xs ys move) with
  | none =>
    have d := lg_none (s := s) (ag := ag) hk h.l1 hl
    have HC : Hid (∀ u, Below w.heap.size w u → Calls Try.prog 48 #[.agg #[.int .i64 p, .int .i64 s, .bool st, .bool sk, .bool re, .bool fe, .bool ag, .int .i64 c, .int .i64 l], .agg #[.slice p1 pn1 pc1, .slice p2 pn2 pc2, .int .i64 pp], .int .i64 move] u (MkD (lgC c l p pp fe xs (mvCd k p pp st sk re xs ys move) (mvV k p pp st sk re xs ys move)) u)) := Lib.hid (fun u hu => (HC.out u hu).mono (fun _ _ q => q.d))
    generalize lgC c l p pp fe xs (mvCd k p pp st sk re xs ys move) (mvV k p pp st sk re xs ys move) = cd at *
    clear h hk hcap hl
    go_enter Try.func25, Try.ntmps25
    go_upto_region 1 with fail
    go_cut [8] (fun s8 wx => s8 = .int .i64 cd ∧ Below w.heap.size w wx)
    case first =>
      go_wp2_with fail
      refine (HC.out _ HS.out.2.2).mono ?_
      rintro e w5 ⟨pz, sz, cz, lz, stz, skz, rez, fez, agz, playerz, s1z, s2z, sn1z, sc1z, sn2z, sc2z, spz, sqz, p1z, p2z, pn1z, pc1z, pn2z, pc2z, ppz, t1z, t2z, tn1z, tc1z, tn2z, tc2z, tpz, tqz, rfl, hb⟩
      have HS := Lib.hid (HS.out.below hb)
      clear hb
      go_wp2_with (refine wpList_store_mid rfl 73 _ _ rfl w5.heap.size 0 (List.toArray [.int .i64 pz, .int .i64 sz, .bool stz, .bool skz, .bool rez, .bool fez, .bool agz, .int .i64 cz, .int .i64 lz, .int .i64 playerz, .slice s1z sn1z sc1z, .slice s2z sn2z sc2z, .int .i64 spz, .int .i64 sqz, .slice p1z pn1z pc1z, .slice p2z pn2z pc2z, .int .i64 ppz, .slice t1z tn1z tc1z, .slice t2z tn2z tc2z, .int .i64 tpz, .int .i64 tqz]) rfl rfl (thN_new w5 73).th (by kernel_rfl) (mm_one pz sz cz lz stz skz rez fez agz playerz s1z s2z sn1z sc1z sn2z sc2z spz sqz p1z p2z pn1z pc1z pn2z pc2z ppz t1z t2z tn1z tc1z tn2z tc2z tpz tqz) ?_)
      go_meet
      exact ⟨rfl, below_sc w5.heap.size HS.out.2.2.size _ 0 (HS.out.2.2.alloc HS.out.2.2.size _)⟩
    case rest =>
      obtain ⟨rfl, hb⟩ := hcut
      have HB := Lib.hid hb
      clear hb
      go_wp2_with fail
      go_ret
      exact ⟨rfl, HB.out⟩
  | some m =>
    obtain ⟨hm, hc0⟩ := lg_some (cd := mvCd k p pp st sk re xs ys move) hl
    rw [hl, hc0] at HC
    clear h hk hcap hl hm hc0
    go_enter Try.func25, Try.ntmps25
    go_upto_region 1 with fail
    go_cut [7, 8] (fun s7 s8 wx => ∃ (s1 s2 : Option Addr) (sc1 sc2 M g1 k1 g2 k2 : Nat), s7 = .pointer (some ⟨M, 0, none⟩) ∧ s8 = .int .i64 0 ∧ MkF w w p s c l st sk re fe ag pp s1 s2 pn1 sc1 sc2 p1 p2 pc1 pc2 m M g1 k1 g2 k2 wx)
    case first =>
      go_wp2_with fail
      refine (HC.out _ HS.out.2.2).mono ?_
      rintro e w5 ⟨s1, s2, sc1, sc2, g1, k1, g2, k2, rfl, ho, hl1, hl2, hc1, hc2, hb⟩
      have HF := Lib.hid (mkF_new p s c l st sk re fe ag (s1 := s1) (s2 := s2) (sc1 := sc1) (sc2 := sc2) (p1 := p1) (p2 := p2) (pc1 := pc1) (pc2 := pc2) 73 (Below.trans HS.out.2.2 (Below.mono hb HS.out.2.2.size)) (ho.lower HS.out.2.2.size) hl1 hl2 hc1 hc2)
      clear hb ho hl1 hl2 hc1 hc2
      go_wp2_with (refine wpList_store_mid rfl 73 _ _ rfl w5.heap.size 0 (List.toArray [.int .i64 p, .int .i64 s, .bool st, .bool sk, .bool re, .bool fe, .bool ag, .int .i64 c, .int .i64 l, .int .i64 pp, .slice s1 pn1 sc1, .slice s2 2 sc2, .int .i64 m.last, .int .i64 m.laps, .slice p1 pn1 pc1, .slice p2 2 pc2, .int .i64 pp, .slice (some ⟨g1, 0, none⟩) pn1 k1, .slice (some ⟨g2, 0, none⟩) 2 k2, .int .i64 m.last, .int .i64 m.laps]) rfl rfl (thN_new w5 73).th (by kernel_rfl) (mm_one p s c l st sk re fe ag pp s1 s2 pn1 sc1 2 sc2 m.last m.laps p1 p2 pn1 pc1 2 pc2 pp (some ⟨g1, 0, none⟩) (some ⟨g2, 0, none⟩) pn1 k1 2 k2 m.last m.laps) ?_)
      go_meet
      exact ⟨s1, s2, sc1, sc2, w5.heap.size, g1, k1, g2, k2, rfl, rfl, HF.out⟩
    case rest =>
      obtain ⟨s1, s2, sc1, sc2, M, g1, k1, g2, k2, rfl, rfl, hF⟩ := hcut
      have HF := Lib.hid hF
      clear hF
      go_wp2_with (refine wpList_load_want (by rfl) 73 _ rfl M 0 rfl _ _ HF.out.rg Try.underlying73 rfl (by kernel_rfl) ?_)
      refine (again_any p s c l st sk re fe ag pp s1 s2 pn1 sc1 2 sc2 m.last m.laps p1 p2 pn1 pc1 2 pc2 pp (some ⟨g1, 0, none⟩) (some ⟨g2, 0, none⟩) pn1 k1 2 k2 m.last m.laps _).mono ?_
      rintro e w6 ⟨rfl, hb6⟩
      have HBe := Lib.hid (Below.trans HF.out.be (Below.mono hb6 HF.out.be.bel.size))
      clear hb6 HF
      go_wp2_with fail
      go_ret
      exact ⟨rfl, HBe.out⟩
end Go.Proofs.Ythbkdlidpdliaaa

/- Rm8: A move in any position, as the reference makes it. -/
namespace Go.Proofs.Ythbkdlidpdliaaa
open Go.Joins Go.ChangeShapes Go.WideShapes Go.ChangeAt Go.RowKit Go.Deep
set_option linter.unusedVariables false

/-- What l07Make leaves. -/
def MrQ (c l p pp : Int) (ag : Bool) (pn1 : Nat) (xs ys : List Int) (move : Int) (LV : Option Res) (cd : Int) (w : World) (e : Ending) (w' : World) : Prop :=
  match LV with
  | none => MrE cd w e w'
  | some m => ∃ g1 k1 g2 k2, e = .returned (.tuple #[.agg #[.int .i64 move, .int .i64 (gnV c l p pp ys m), .bool (agV ag m), .slice (some ⟨g1, 0, none⟩) pn1 k1, .slice (some ⟨g2, 0, none⟩) 2 k2, .int .i64 (nxV ag pp m)], .int .i64 cd]) ∧
    PosO w' w.heap.size (some ⟨g1, 0, none⟩) (some ⟨g2, 0, none⟩) g1 g2 pn1 2 (tkX c l p pp m.last m.xs) (tkY c l p pp m.last m.xs m.ys) ∧ g1 < w'.heap.size ∧ g2 < w'.heap.size ∧ pn1 ≤ k1 ∧ 2 ≤ k2 ∧ Below w.heap.size w w'
/-- Some result, whether the player moves again, and a code. -/
def MrD (b : Bool) (cd : Int) (w : World) (e : Ending) (w' : World) : Prop :=
  ∃ (mv gn : Int) (s1 : Option Addr) (n1 c1 : Nat) (s2 : Option Addr) (n2 c2 : Nat) (nx : Int), e = .returned (.tuple #[.agg #[.int .i64 mv, .int .i64 gn, .bool b, .slice s1 n1 c1, .slice s2 n2 c2, .int .i64 nx], .int .i64 cd]) ∧ Below w.heap.size w w'
theorem MrQ.d {c l p pp : Int} {ag : Bool} {pn1 : Nat} {xs ys : List Int} {move : Int} {LV : Option Res} {cd : Int} {w w' : World} {e : Ending} (h : MrQ c l p pp ag pn1 xs ys move LV cd w e w') : MrD (agL ag LV) cd w e w' := by
  cases LV with
  | none => exact ⟨_, _, _, _, _, _, _, _, _, h.1, h.2⟩
  | some m =>
    obtain ⟨g1, k1, g2, k2, he, -, -, -, -, -, hb⟩ := h
    exact ⟨_, _, _, _, _, _, _, _, _, he, hb⟩
theorem l07Make_any (p s c l : Int) (st sk re fe ag : Bool) (p1 p2 : Option Addr) (pn1 pc1 pn2 pc2 : Nat) (pp : Int) (xs ys : List Int) (rb pb : Nat) (move : Int) (w : World) (hr : RuAt w rb p s c l st sk re fe ag) (hq : PoAt w pb p1 p2 pn1 pc1 pn2 pc2 pp) (h : PosR w p1 p2 pn1 pn2 xs ys) (k : Bool) (hk : okP (okR p s c l st ag) p pn1 pn2 pp xs ys = k) :
    Calls Try.prog 47 #[.pointer (some ⟨rb, 0, none⟩), .pointer (some ⟨pb, 0, none⟩), .int .i64 move] w (MrQ c l p pp ag pn1 xs ys move (lgV c l p pp fe xs (mvV k p pp st sk re xs ys move)) (lgC c l p pp fe xs (mvCd k p pp st sk re xs ys move) (mvV k p pp st sk re xs ys move)) w) := by
  have hC := fun u (hu : Below w.heap.size w u) => l05Move_any p s c l st sk re fe ag p1 p2 pn1 pc1 pn2 pc2 pp xs ys rb pb move u (hr.below hu) (hq.below hu) (h.below hu) k hk
  cases hm : mvV k p pp st sk re xs ys move with
  | none =>
    rw [hm] at hC
    have h0 : (mvCd k p pp st sk re xs ys move == 0) = false := by
      rcases mvV_none hk h.l1 hm with e | e | e | e <;> rw [e] <;> rfl
    exact l07Make_err p s c l st sk re fe ag rb pb pn1 move _ h0 w hC
  | some m =>
    obtain ⟨rfl, m0, m1, hc0, fin⟩ := mvV_fin hk h.l1 h.l2 hm
    obtain ⟨rfl, hpl⟩ := pl_of_ok hk
    rw [hm, hc0] at hC
    have hX := l07Make_some p s c l st sk re fe ag p1 p2 pn1 pc1 pc2 pp move xs ys rb pb m w hr hq h hk fin hC
    rw [hc0]
    have e1 : lgV c l p pp fe xs (some m) = if illB c l p pp fe xs m then none else some m := rfl
    have e2 : lgC c l p pp fe xs 0 (some m) = if illB c l p pp fe xs m then 9 else 0 := rfl
    rw [e1, e2]
    generalize illB c l p pp fe xs m = b at *
    cases b
    · exact hX.mono (fun e w' q => by unfold MrL at q; rw [if_neg (by decide)] at q; exact q)
    · exact hX.mono (fun e w' q => by unfold MrL at q; rw [if_pos rfl] at q; exact q)
set_option maxHeartbeats 2000000 in
set_option maxRecDepth 100000 in
theorem specFault_any (p s c l : Int) (st sk re fe ag : Bool) (p1 p2 : Option Addr) (pn1 pc1 pn2 pc2 : Nat) (pp : Int) (xs ys : List Int) (move : Int) (w : World) (h : PosR w p1 p2 pn1 pn2 xs ys) (k : Bool) (hk : okP (okR p s c l st ag) p pn1 pn2 pp xs ys = k) :
    Calls Try.prog 20 #[.agg #[.int .i64 p, .int .i64 s, .bool st, .bool sk, .bool re, .bool fe, .bool ag, .int .i64 c, .int .i64 l], .agg #[.slice p1 pn1 pc1, .slice p2 pn2 pc2, .int .i64 pp], .int .i64 move] w fun e w' => e = .returned (.int .i64 (lgC c l p pp fe xs (mvCd k p pp st sk re xs ys move) (mvV k p pp st sk re xs ys move))) ∧ Below w.heap.size w w' := by
  have HS := Lib.hid (rp_new p s c l st sk re fe ag p1 p2 pn1 pc1 pn2 pc2 pp w 31 41)
  have HC : Hid (∀ u, RpAt w p s c l st sk re fe ag p1 p2 pn1 pc1 pn2 pc2 pp u → Calls Try.prog 47 #[.pointer (some ⟨w.heap.size, 0, none⟩), .pointer (some ⟨w.heap.size + 1, 0, none⟩), .int .i64 move] u (MrD (agL ag (lgV c l p pp fe xs (mvV k p pp st sk re xs ys move))) (lgC c l p pp fe xs (mvCd k p pp st sk re xs ys move) (mvV k p pp st sk re xs ys move)) u)) := Lib.hid (fun u hu => (l07Make_any p s c l st sk re fe ag p1 p2 pn1 pc1 pn2 pc2 pp xs ys _ _ move u hu.1 hu.2.1 (h.below hu.2.2) k hk).mono (fun _ _ q => q.d))
  generalize lgC c l p pp fe xs (mvCd k p pp st sk re xs ys move) (mvV k p pp st sk re xs ys move) = cd at *
  generalize agL ag (lgV c l p pp fe xs (mvV k p pp st sk re xs ys move)) = b at *
  clear h hk
  go_enter Try.func20, Try.ntmps20
  go_wp2_with fail
  refine (HC.out _ HS.out).mono ?_
  rintro e w5 ⟨mv, gn, s1, n1, c1, s2, n2, c2, nx, rfl, hb⟩
  have HS := Lib.hid (HS.out.below hb)
  clear hb
  go_wp2_with fail
  go_ret
  exact ⟨rfl, HS.out.2.2.alloc HS.out.2.2.size _⟩
set_option maxHeartbeats 2000000 in
set_option maxRecDepth 100000 in
theorem specAgain_any (p s c l : Int) (st sk re fe ag : Bool) (p1 p2 : Option Addr) (pn1 pc1 pn2 pc2 : Nat) (pp : Int) (xs ys : List Int) (move : Int) (w : World) (h : PosR w p1 p2 pn1 pn2 xs ys) (k : Bool) (hk : okP (okR p s c l st ag) p pn1 pn2 pp xs ys = k) :
    Calls Try.prog 24 #[.agg #[.int .i64 p, .int .i64 s, .bool st, .bool sk, .bool re, .bool fe, .bool ag, .int .i64 c, .int .i64 l], .agg #[.slice p1 pn1 pc1, .slice p2 pn2 pc2, .int .i64 pp], .int .i64 move] w fun e w' => e = .returned (.bool (agL ag (lgV c l p pp fe xs (mvV k p pp st sk re xs ys move)))) ∧ Below w.heap.size w w' := by
  have HS := Lib.hid (rp_new p s c l st sk re fe ag p1 p2 pn1 pc1 pn2 pc2 pp w 31 41)
  have HC : Hid (∀ u, RpAt w p s c l st sk re fe ag p1 p2 pn1 pc1 pn2 pc2 pp u → Calls Try.prog 47 #[.pointer (some ⟨w.heap.size, 0, none⟩), .pointer (some ⟨w.heap.size + 1, 0, none⟩), .int .i64 move] u (MrD (agL ag (lgV c l p pp fe xs (mvV k p pp st sk re xs ys move))) (lgC c l p pp fe xs (mvCd k p pp st sk re xs ys move) (mvV k p pp st sk re xs ys move)) u)) := Lib.hid (fun u hu => (l07Make_any p s c l st sk re fe ag p1 p2 pn1 pc1 pn2 pc2 pp xs ys _ _ move u hu.1 hu.2.1 (h.below hu.2.2) k hk).mono (fun _ _ q => q.d))
  generalize lgC c l p pp fe xs (mvCd k p pp st sk re xs ys move) (mvV k p pp st sk re xs ys move) = cd at *
  generalize agL ag (lgV c l p pp fe xs (mvV k p pp st sk re xs ys move)) = b at *
  clear h hk
  go_enter Try.func24, Try.ntmps24
  go_wp2_with fail
  refine (HC.out _ HS.out).mono ?_
  rintro e w5 ⟨mv, gn, s1, n1, c1, s2, n2, c2, nx, rfl, hb⟩
  have HS := Lib.hid (HS.out.below hb)
  clear hb
  go_wp2_with fail
  go_ret
  exact ⟨rfl, HS.out.2.2.alloc HS.out.2.2.size _⟩
end Go.Proofs.Ythbkdlidpdliaaa

/- Mk13: MakeMove of the program and of the reference. -/
namespace Go.Proofs.Ythbkdlidpdliaaa
open Go.Joins Go.ChangeShapes Go.WideShapes Go.ChangeAt Go.RowKit Go.Deep
set_option linter.unusedVariables false

/-- A position of a call's own, a number and a code. -/
def PosM (n1 n2 : Nat) (pl gn code : Int) (xs ys : List Int) (w : World) (e : Ending) (w' : World) : Prop :=
  ∃ a1 c1 b1 a2 c2 b2, e = .returned (.tuple #[.agg #[.slice a1 n1 c1, .slice a2 n2 c2, .int .i64 pl], .int .i64 gn, .int .i64 code]) ∧ PosO w' w.heap.size a1 a2 b1 b2 n1 n2 xs ys ∧ b1 < w'.heap.size ∧ b2 < w'.heap.size ∧ n1 ≤ c1 ∧ n2 ≤ c2 ∧ Below w.heap.size w w'
theorem posM_zero {w u : World} (cd : Int) (hb : Below w.heap.size w u) (h : w.heap.size + 1 < u.heap.size) : PosM 0 0 0 0 cd [] [] w (.returned (.tuple #[.agg #[.slice none 0 0, .slice none 0 0, .int .i64 0], .int .i64 0, .int .i64 cd])) u :=
  ⟨none, 0, w.heap.size, none, 0, w.heap.size + 1, rfl, posO_zero _ _, by omega, h, Nat.le_refl _, Nat.le_refl _, hb⟩
/-- What MakeMove answers. -/
def MmV (c l p pp : Int) (ag : Bool) (pn1 : Nat) (ys : List Int) (LV : Option Res) (cd : Int) (w : World) (e : Ending) (w' : World) : Prop :=
  match LV with
  | none => PosM 0 0 0 0 cd [] [] w e w'
  | some m => PosM pn1 2 (nxV ag pp m) (gnV c l p pp ys m) 0 (tkX c l p pp m.last m.xs) (tkY c l p pp m.last m.xs m.ys) w e w'
theorem zeroP_at2 (p s c l : Int) (st sk re fe ag : Bool) (p1 p2 : Option Addr) (pn1 pc1 pn2 pc2 : Nat) (pp : Int) (w : World) (T U V : TypeId) : ZeroP (((w.alloc (.cells #[.int .i64 p, .int .i64 s, .bool st, .bool sk, .bool re, .bool fe, .bool ag, .int .i64 c, .int .i64 l] T)).alloc (.cells #[.slice p1 pn1 pc1, .slice p2 pn2 pc2, .int .i64 pp] U)).alloc (.cells #[.slice none 0 0, .slice none 0 0, .int .i64 0] V)) (w.heap.size + 1 + 1) := by
  have := zero_new ((w.alloc (.cells #[.int .i64 p, .int .i64 s, .bool st, .bool sk, .bool re, .bool fe, .bool ag, .int .i64 c, .int .i64 l] T)).alloc (.cells #[.slice p1 pn1 pc1, .slice p2 pn2 pc2, .int .i64 pp] U)) V
  simpa using this
theorem but3p (z : Nat) (u : World) (x y t : Value) : But z u (((u.setCell ⟨z, 0, none⟩ x).setCell ⟨z, 1, none⟩ y).setCell ⟨z, 2, none⟩ t) :=
  (((But.refl z u).setCell (p := ⟨z, 0, none⟩) rfl x).setCell (p := ⟨z, 1, none⟩) rfl y).setCell (p := ⟨z, 2, none⟩) rfl t
theorem range_but {u v : World} {b z : Nat} {cs : List Value} (h : u.rangeAt b 0 cs) (hb : b < u.heap.size) (k : But z u v) (hz : b ≠ z) : v.rangeAt b 0 cs := fun j x hj => (k.cell (o := 0 + j) hb hz).trans (h j x hj)
set_option maxHeartbeats 4000000 in
set_option maxRecDepth 100000 in
theorem implMake_any (p s c l : Int) (st sk re fe ag : Bool) (p1 p2 : Option Addr) (pn1 pc1 pn2 pc2 : Nat) (pp : Int) (xs ys : List Int) (move : Int) (w : World) (h : PosR w p1 p2 pn1 pn2 xs ys) (hcap : pn1 ≤ pc1) (k : Bool) (hk : okP (okR p s c l st ag) p pn1 pn2 pp xs ys = k) :
    Calls Try.prog 27 #[.agg #[.int .i64 p, .int .i64 s, .bool st, .bool sk, .bool re, .bool fe, .bool ag, .int .i64 c, .int .i64 l], .agg #[.slice p1 pn1 pc1, .slice p2 pn2 pc2, .int .i64 pp], .int .i64 move] w (MmV c l p pp ag pn1 ys (lgV c l p pp fe xs (mvV k p pp st sk re xs ys move)) (lgC c l p pp fe xs (mvCd k p pp st sk re xs ys move) (mvV k p pp st sk re xs ys move)) w) := by
  have HS := Lib.hid ((rp_new p s c l st sk re fe ag p1 p2 pn1 pc1 pn2 pc2 pp w 31 41).below (al1 _ (.cells #[.slice none 0 0, .slice none 0 0, .int .i64 0] 41)))
  have HZ := Lib.hid (zeroP_at2 p s c l st sk re fe ag p1 p2 pn1 pc1 pn2 pc2 pp w 31 41 41)
  have H0 := Lib.hid h
  have HC : Hid (∀ u, Below w.heap.size w u → Calls Try.prog 48 #[.agg #[.int .i64 p, .int .i64 s, .bool st, .bool sk, .bool re, .bool fe, .bool ag, .int .i64 c, .int .i64 l], .agg #[.slice p1 pn1 pc1, .slice p2 pn2 pc2, .int .i64 pp], .int .i64 move] u (MkQ p s c l st sk re fe ag pp pn1 p1 p2 pc1 pc2 (lgV c l p pp fe xs (mvV k p pp st sk re xs ys move)) (lgC c l p pp fe xs (mvCd k p pp st sk re xs ys move) (mvV k p pp st sk re xs ys move)) u)) := Lib.hid (fun u hu => makeL_any p s c l st sk re fe ag p1 p2 pn1 pc1 pn2 pc2 pp xs ys move u (h.below hu) hcap k hk)
  cases hl : lgV c l p pp fe xs (mvV k p pp st sk re xs ys move) with
  | none =>
    have d := lg_none (s := s) (ag := ag) hk h.l1 hl
    rw [hl] at HC
    have HC : Hid (∀ u, Below w.heap.size w u → Calls Try.prog 48 #[.agg #[.int .i64 p, .int .i64 s, .bool st, .bool sk, .bool re, .bool fe, .bool ag, .int .i64 c, .int .i64 l], .agg #[.slice p1 pn1 pc1, .slice p2 pn2 pc2, .int .i64 pp], .int .i64 move] u (MkD (lgC c l p pp fe xs (mvCd k p pp st sk re xs ys move) (mvV k p pp st sk re xs ys move)) u)) := Lib.hid (fun u hu => (HC.out u hu).mono (fun _ _ q => q.d))
    generalize lgC c l p pp fe xs (mvCd k p pp st sk re xs ys move) (mvV k p pp st sk re xs ys move) = cd at *
    have d2 : (cd != 0) = true := by simpa [bne] using d
    clear h hk hcap hl
    go_enter Try.func27, Try.ntmps27
    go_upto_region 1 with fail
    generalize ((w.alloc (.cells #[.int .i64 p, .int .i64 s, .bool st, .bool sk, .bool re, .bool fe, .bool ag, .int .i64 c, .int .i64 l] 31)).alloc (.cells #[.slice p1 pn1 pc1, .slice p2 pn2 pc2, .int .i64 pp] 41)).alloc (.cells #[.slice none 0 0, .slice none 0 0, .int .i64 0] 41) = u at *
    go_cut [10] (fun s10 wx => s10 = .int .i64 cd ∧ Below w.heap.size w wx ∧ ZeroP wx (w.heap.size + 1 + 1))
    case first =>
      obtain ⟨⟨_, r0, r1, r2, r3, r4, r5, r6, r7, r8⟩, ⟨_, g0, g1, g2⟩, -⟩ := HS.out
      go_wp2_with fail
      refine (HC.out _ HS.out.2.2).mono ?_
      rintro e w5 ⟨pz, sz, cz, lz, stz, skz, rez, fez, agz, playerz, s1z, s2z, sn1z, sc1z, sn2z, sc2z, spz, sqz, p1z, p2z, pn1z, pc1z, pn2z, pc2z, ppz, t1z, t2z, tn1z, tc1z, tn2z, tc2z, tpz, tqz, rfl, hb⟩
      have hzu := HZ.out.lt
      have hus := hb.size
      have HZ5 := Lib.hid (((HZ.out.below hb).below (al1 w5 (.cells zero21.toArray 73))).but (but_sc w5.heap.size [.int .i64 pz, .int .i64 sz, .bool stz, .bool skz, .bool rez, .bool fez, .bool agz, .int .i64 cz, .int .i64 lz, .int .i64 playerz, .slice s1z sn1z sc1z, .slice s2z sn2z sc2z, .int .i64 spz, .int .i64 sqz, .slice p1z pn1z pc1z, .slice p2z pn2z pc2z, .int .i64 ppz, .slice t1z tn1z tc1z, .slice t2z tn2z tc2z, .int .i64 tpz, .int .i64 tqz] 0 _) (by omega))
      have HS := Lib.hid (HS.out.below hb)
      clear hb r0 r1 r2 r3 r4 r5 r6 r7 r8 g0 g1 g2
      go_wp2_with (refine wpList_store_mid rfl 73 _ _ rfl w5.heap.size 0 (List.toArray [.int .i64 pz, .int .i64 sz, .bool stz, .bool skz, .bool rez, .bool fez, .bool agz, .int .i64 cz, .int .i64 lz, .int .i64 playerz, .slice s1z sn1z sc1z, .slice s2z sn2z sc2z, .int .i64 spz, .int .i64 sqz, .slice p1z pn1z pc1z, .slice p2z pn2z pc2z, .int .i64 ppz, .slice t1z tn1z tc1z, .slice t2z tn2z tc2z, .int .i64 tpz, .int .i64 tqz]) rfl rfl (thN_new w5 73).th (by kernel_rfl) (mm_one pz sz cz lz stz skz rez fez agz playerz s1z s2z sn1z sc1z sn2z sc2z spz sqz p1z p2z pn1z pc1z pn2z pc2z ppz t1z t2z tn1z tc1z tn2z tc2z tpz tqz) ?_)
      go_meet
      exact ⟨rfl, below_sc w5.heap.size HS.out.2.2.size _ 0 (HS.out.2.2.alloc HS.out.2.2.size _), HZ5.out⟩
    case rest =>
      obtain ⟨rfl, hb, hz⟩ := hcut
      have HB := Lib.hid (show OnW w wc from hb)
      obtain ⟨zl, z0, z1, z2, zf⟩ := hz
      have f0 := zf 0
      have f1 := zf 1
      have f2 := zf 2
      clear hb zf
      go_wp2_with fail
      refine bodyPost_ret (v := .tuple #[.agg #[.slice none 0 0, .slice none 0 0, .int .i64 0], .int .i64 0, .int .i64 cd]) (by simp [results, Try.results27, go_sem, z0, z1, z2]) rfl ?_
      exact posM_zero cd (OnW.set3 HB.out (by omega) _ _ _) (by simp; omega)
  | some m =>
    obtain ⟨hm, hc0⟩ := lg_some (cd := mvCd k p pp st sk re xs ys move) hl
    obtain ⟨rfl, m0, m1, -, fin⟩ := mvV_fin hk h.l1 h.l2 hm
    obtain ⟨rfl, hpl⟩ := pl_of_ok hk
    have HG := Lib.hid (good_fin (t := 0) p s c l st sk re fe ag hk fin)
    have Hk := Lib.hid hk
    have Hpl := Lib.hid hpl
    rw [hl, hc0] at HC
    rw [hc0]
    clear h hk hcap hl hm hc0 fin hpl
    go_enter Try.func27, Try.ntmps27
    go_upto_region 1 with fail
    generalize ((w.alloc (.cells #[.int .i64 p, .int .i64 s, .bool st, .bool sk, .bool re, .bool fe, .bool ag, .int .i64 c, .int .i64 l] 31)).alloc (.cells #[.slice p1 pn1 pc1, .slice p2 2 pc2, .int .i64 pp] 41)).alloc (.cells #[.slice none 0 0, .slice none 0 0, .int .i64 0] 41) = u at *
    go_cut [9, 10] (fun s9 s10 wx => ∃ (s1 s2 : Option Addr) (sc1 sc2 M g1 k1 g2 k2 : Nat), s9 = .pointer (some ⟨M, 0, none⟩) ∧ s10 = .int .i64 0 ∧ MkF w w p s c l st sk re fe ag pp s1 s2 pn1 sc1 sc2 p1 p2 pc1 pc2 m M g1 k1 g2 k2 wx ∧ ZeroP wx (w.heap.size + 1 + 1) ∧ w.heap.size + 1 + 1 < M ∧ w.heap.size + 1 + 1 < g1 ∧ w.heap.size + 1 + 1 < g2)
    case first =>
      obtain ⟨⟨_, r0, r1, r2, r3, r4, r5, r6, r7, r8⟩, ⟨_, y0, y1, y2⟩, -⟩ := HS.out
      go_wp2_with fail
      refine (HC.out _ HS.out.2.2).mono ?_
      rintro e w5 ⟨s1, s2, sc1, sc2, g1, k1, g2, k2, rfl, ho, hl1, hl2, hc1, hc2, hb⟩
      have HF := Lib.hid (mkF_new p s c l st sk re fe ag (s1 := s1) (s2 := s2) (sc1 := sc1) (sc2 := sc2) (p1 := p1) (p2 := p2) (pc1 := pc1) (pc2 := pc2) 73 (Below.trans HS.out.2.2 (Below.mono hb HS.out.2.2.size)) (ho.lower HS.out.2.2.size) hl1 hl2 hc1 hc2)
      have hzu := HZ.out.lt
      have hn1 := ho.o1.new
      have hn2 := ho.o2.new
      have hus := hb.size
      have HZ5 := Lib.hid (((HZ.out.below hb).below (al1 w5 (.cells zero21.toArray 73))).but (but_sc w5.heap.size [.int .i64 p, .int .i64 s, .bool st, .bool sk, .bool re, .bool fe, .bool ag, .int .i64 c, .int .i64 l, .int .i64 pp, .slice s1 pn1 sc1, .slice s2 2 sc2, .int .i64 m.last, .int .i64 m.laps, .slice p1 pn1 pc1, .slice p2 2 pc2, .int .i64 pp, .slice (some ⟨g1, 0, none⟩) pn1 k1, .slice (some ⟨g2, 0, none⟩) 2 k2, .int .i64 m.last, .int .i64 m.laps] 0 _) (by omega))
      clear hb ho hl1 hl2 hc1 hc2 r0 r1 r2 r3 r4 r5 r6 r7 r8 y0 y1 y2
      go_wp2_with (refine wpList_store_mid rfl 73 _ _ rfl w5.heap.size 0 (List.toArray [.int .i64 p, .int .i64 s, .bool st, .bool sk, .bool re, .bool fe, .bool ag, .int .i64 c, .int .i64 l, .int .i64 pp, .slice s1 pn1 sc1, .slice s2 2 sc2, .int .i64 m.last, .int .i64 m.laps, .slice p1 pn1 pc1, .slice p2 2 pc2, .int .i64 pp, .slice (some ⟨g1, 0, none⟩) pn1 k1, .slice (some ⟨g2, 0, none⟩) 2 k2, .int .i64 m.last, .int .i64 m.laps]) rfl rfl (thN_new w5 73).th (by kernel_rfl) (mm_one p s c l st sk re fe ag pp s1 s2 pn1 sc1 2 sc2 m.last m.laps p1 p2 pn1 pc1 2 pc2 pp (some ⟨g1, 0, none⟩) (some ⟨g2, 0, none⟩) pn1 k1 2 k2 m.last m.laps) ?_)
      go_meet
      exact ⟨s1, s2, sc1, sc2, w5.heap.size, g1, k1, g2, k2, rfl, rfl, HF.out, HZ5.out, by omega, by omega, by omega⟩
    case rest =>
      obtain ⟨s1, s2, sc1, sc2, M, g1, k1, g2, k2, rfl, rfl, hF, hZ, hM0, hM1, hM2⟩ := hcut
      have HF := Lib.hid hF
      have HZ2 := Lib.hid hZ
      clear hF hZ HZ
      go_upto_region 4 with fail
      have HF := Lib.hid (HF.out.below (Below.refl _ _).drew)
      have HZ2 := Lib.hid (HZ2.out.below (Below.refl _ _).drew)
      have hyb := (HG.out.1.tk HG.out.2.1 HG.out.2.2)
      have hv0 := posB_getD hyb.2.1 pp.toNat
      have hv1 := getD_le hyb.2.1 pp.toNat
      have hv2 := posB_tot hyb.1
      have hy0 := posB_getD (seedB_parts (okP_parts Hk.out).2.2.2.2).2.1 pp.toNat
      have hy1 := getD_le (seedB_parts (okP_parts Hk.out).2.2.2.2).2.1 pp.toNat
      have hy2 := posB_tot (seedB_parts (okP_parts Hk.out).2.2.2.2).1
      have hy3 := (seedB_parts (okP_parts Hk.out).2.2.2.2).2.2
      have hx3 := HG.out.1.q3
      have HY := Lib.hid (show (0 ≤ (tkY c l p pp m.last m.xs m.ys).getD pp.toNat 0 ∧ (tkY c l p pp m.last m.xs m.ys).getD pp.toNat 0 ≤ 1000000) ∧ 0 ≤ ys.getD pp.toNat 0 ∧ ys.getD pp.toNat 0 ≤ 1000000 from ⟨⟨by omega, by omega⟩, by omega, by omega⟩)
      clear hyb hv0 hv1 hv2 hy0 hy1 hy2 hy3 hx3
      obtain ⟨nx, hnx⟩ : ∃ x, nxV ag pp m = x := ⟨_, rfl⟩
      obtain ⟨gn, hgn⟩ : ∃ x, gnV c l p pp ys m = x := ⟨_, rfl⟩
      have HNx := Lib.hid hnx
      have HGn := Lib.hid hgn
      clear hnx hgn
      refine wp_region_held_drew (S := fun u => u.rangeAt M 0 [.int .i64 p, .int .i64 s, .bool st, .bool sk, .bool re, .bool fe, .bool ag, .int .i64 c, .int .i64 l, .int .i64 pp, .slice s1 pn1 sc1, .slice s2 2 sc2, .int .i64 m.last, .int .i64 m.laps, .slice p1 pn1 pc1, .slice p2 2 pc2, .int .i64 pp, .slice (some ⟨g1, 0, none⟩) pn1 k1, .slice (some ⟨g2, 0, none⟩) 2 k2, .int .i64 m.last, .int .i64 m.laps]) (by kernel_rfl) HF.out.rg (fun hHeld => ?_)
      refine wpAnyH_take (i := 0) rfl (by kernel_rfl) (by kernel_rfl) (by kernel_rfl) (fun _ _ _ h => h) (yieldsIf_load_mid (by rfl) 73 _ rfl M 0 rfl [.int .i64 p, .int .i64 s, .bool st, .bool sk, .bool re, .bool fe, .bool ag, .int .i64 c, .int .i64 l, .int .i64 pp, .slice s1 pn1 sc1, .slice s2 2 sc2, .int .i64 m.last, .int .i64 m.laps, .slice p1 pn1 pc1, .slice p2 2 pc2, .int .i64 pp, .slice (some ⟨g1, 0, none⟩) pn1 k1, .slice (some ⟨g2, 0, none⟩) 2 k2, .int .i64 m.last, .int .i64 m.laps] _ (fun u hu => hu) Try.underlying73 rfl (by kernel_rfl)) hHeld ?_
      simp only [Act.put, List.setIfInBounds_toArray]
      refine wpAnyH_take (i := 2) rfl (by kernel_rfl) (by kernel_rfl) (by kernel_rfl) (fun _ _ _ h => h) (yieldsIf_load_mid (by rfl) 73 _ rfl M 0 rfl [.int .i64 p, .int .i64 s, .bool st, .bool sk, .bool re, .bool fe, .bool ag, .int .i64 c, .int .i64 l, .int .i64 pp, .slice s1 pn1 sc1, .slice s2 2 sc2, .int .i64 m.last, .int .i64 m.laps, .slice p1 pn1 pc1, .slice p2 2 pc2, .int .i64 pp, .slice (some ⟨g1, 0, none⟩) pn1 k1, .slice (some ⟨g2, 0, none⟩) 2 k2, .int .i64 m.last, .int .i64 m.laps] _ (fun u hu => hu) Try.underlying73 rfl (by kernel_rfl)) hHeld ?_
      simp only [Act.put]
      refine wpAnyH_ready (rs := [1]) (by kernel_rfl) (by simp) ?_
      refine AllReadyH.cons rfl (fun K hK => ?_) AllReadyH.nil
      rw [if_pos (by rfl)]
      go_simp
      go_at_call 50
      refine ((nextM_any p s c l st sk re fe ag pp s1 s2 pn1 sc1 2 sc2 m.last m.laps p1 p2 pn1 pc1 2 pc2 pp (some ⟨g1, 0, none⟩) (some ⟨g2, 0, none⟩) pn1 k1 2 k2 m.last m.laps _ Hpl.out).mono (fun e w' h => (show e = .returned (.agg #[.slice (some ⟨g1, 0, none⟩) pn1 k1, .slice (some ⟨g2, 0, none⟩) 2 k2, .int .i64 (nxV ag pp m)]) ∧ _ from h))).mono ?_
      rw [HNx.out]
      rintro e w6 ⟨rfl, hb6⟩
      have HF := Lib.hid (HF.out.below hb6)
      have HZ2 := Lib.hid (HZ2.out.below hb6)
      clear hb6
      dsimp only
      refine hK.out _ _ (HF.out.rg) (fun hHeld => ?_)
      clear hK K
      (try simp only [Act.put, List.setIfInBounds_toArray, List.set_cons_zero, List.set_cons_succ])
      refine wpAnyH_ready (rs := [3]) (by kernel_rfl) (by simp) ?_
      refine AllReadyH.cons rfl (fun K hK => ?_) AllReadyH.nil
      rw [if_pos (by rfl)]
      go_simp
      go_at_call 51
      refine ((gain_any p s c l st sk re fe ag pp s1 s2 pn1 sc1 2 sc2 m.last m.laps p1 p2 pn1 pc1 2 pc2 pp (some ⟨g1, 0, none⟩) (some ⟨g2, 0, none⟩) pn1 k1 2 k2 m.last m.laps (tkY c l p pp m.last m.xs m.ys) ys _ Hpl.out HF.out.ho.o2.row (H0.out.below HF.out.be).r2 (tkY_len.trans HG.out.2.2) H0.out.l2 rfl rfl HY.out.1 HY.out.2).mono (fun e w' h => (show e = .returned (.int .i64 (gnV c l p pp ys m)) ∧ _ from h))).mono ?_
      rw [HGn.out]
      rintro e w7 ⟨rfl, hb7⟩
      have HF := Lib.hid (HF.out.below hb7)
      have HZ2 := Lib.hid (HZ2.out.below hb7)
      clear hb7
      dsimp only
      refine hK.out _ _ (HF.out.rg) (fun hHeld => ?_)
      clear hK K
      (try simp only [Act.put, List.setIfInBounds_toArray, List.set_cons_zero, List.set_cons_succ])
      obtain ⟨zl, z0, z1, z2, zf⟩ := HZ2.out
      have f0 := zf 0
      have f1 := zf 1
      have f2 := zf 2
      clear zf
      refine wpAnyH_ready (rs := [4]) (by kernel_rfl) (by simp) ?_
      refine AllReadyH.cons rfl (fun K hK => ?_) AllReadyH.nil
      rw [if_pos (by rfl)]
      go_simp
      have HRg := Lib.hid (range_but HF.out.rg HF.out.lt (but3p (w.heap.size + 1 + 1) w7 (.slice (some ⟨g1, 0, none⟩) pn1 k1) (.slice (some ⟨g2, 0, none⟩) 2 k2) (.int .i64 nx)) (by omega))
      refine hK.out _ _ (HRg.out) (fun hHeld => ?_)
      clear hK K
      (try simp only [Act.put, List.setIfInBounds_toArray, List.set_cons_zero, List.set_cons_succ])
      refine wpAnyH_ready (rs := [5]) (by kernel_rfl) (by simp) ?_
      refine AllReadyH.cons rfl (fun K hK => ?_) AllReadyH.nil
      rw [if_pos (by rfl)]
      go_simp
      refine hK.out _ _ (HRg.out) (fun hHeld => ?_)
      clear hK K
      (try simp only [Act.put, List.setIfInBounds_toArray, List.set_cons_zero, List.set_cons_succ])
      refine wpAnyH_ready (rs := [6]) (by kernel_rfl) (by simp) ?_
      refine AllReadyH.cons rfl (fun K hK => ?_) AllReadyH.nil
      rw [if_pos (by rfl)]
      go_simp
      refine hK.out _ _ (HRg.out) (fun hHeld => ?_)
      clear hK K
      (try simp only [Act.put, List.setIfInBounds_toArray, List.set_cons_zero, List.set_cons_succ])
      refine wpAnyH_done (by kernel_rfl) ?_ _
      go_wp2_with fail
      refine bodyPost_ret (v := .tuple #[.agg #[.slice (some ⟨g1, 0, none⟩) pn1 k1, .slice (some ⟨g2, 0, none⟩) 2 k2, .int .i64 nx], .int .i64 gn, .int .i64 0]) (by simp [results, Try.results27, go_sem, z0, z1, z2]) rfl ?_
      show PosM pn1 2 (nxV ag pp m) (gnV c l p pp ys m) 0 _ _ w _ _
      rw [HNx.out, HGn.out]
      have hbt := but3p (w.heap.size + 1 + 1) w7 (.slice (some ⟨g1, 0, none⟩) pn1 k1) (.slice (some ⟨g2, 0, none⟩) 2 k2) (.int .i64 nx)
      exact ⟨_, _, g1, _, _, g2, rfl, PosO.but HF.out.ho hbt (by omega) (by omega), by have := HF.out.l1; simpa using this, by have := HF.out.l2; simpa using this, HF.out.h1, HF.out.h2, But.lift HF.out.be hbt (by omega)⟩
end Go.Proofs.Ythbkdlidpdliaaa

/- Rall7: The results of all legal moves, as the reference makes them. -/
namespace Go.Proofs.Ythbkdlidpdliaaa
open Go.Joins Go.ChangeShapes Go.WideShapes Go.ChangeAt Go.RowKit Go.Deep
set_option linter.unusedVariables false

/-- Between two moves. -/
structure AlJ (w : World) (rb pb : Nat) (p s c l : Int) (st sk re fe ag : Bool) (p1 p2 : Option Addr) (pn1 pc1 pn2 pc2 : Nat) (pp : Int) (xs ys : List Int) (k : Nat) (v : Value) (wr : World) : Prop where
  ex : ∃ L, Rs7 wr w.heap.size v L ∧ L.map Prod.fst = rsF (f7 p c l pp st sk re fe ag xs ys) k
  ru : RuAt wr rb p s c l st sk re fe ag
  po : PoAt wr pb p1 p2 pn1 pc1 pn2 pc2 pp
  ps : PosR wr p1 p2 pn1 pn2 xs ys
  be : Below w.heap.size w wr
theorem alJ_mk {w wr : World} {rb pb : Nat} {p s c l : Int} {st sk re fe ag : Bool} {p1 p2 : Option Addr} {pn1 pc1 pn2 pc2 : Nat} {pp : Int} {xs ys : List Int} {k : Nat} {v : Value} (h : RuAt w rb p s c l st sk re fe ag ∧ PoAt w pb p1 p2 pn1 pc1 pn2 pc2 pp ∧ PosR w p1 p2 pn1 pn2 xs ys) (hx : ∃ L, Rs7 wr w.heap.size v L ∧ L.map Prod.fst = rsF (f7 p c l pp st sk re fe ag xs ys) k) (hb : Below w.heap.size w wr) : AlJ w rb pb p s c l st sk re fe ag p1 p2 pn1 pc1 pn2 pc2 pp xs ys k v wr :=
  ⟨hx, h.1.below hb, h.2.1.below hb, h.2.2.below hb, hb⟩
theorem cells7_news (u : World) (T : TypeId) (x : R7 × Q7) (H : Nat) (hH : u.heap.size = H) : ∀ j v, (cells7 x)[j]? = some v → (u.alloc (.cells #[.int .i64 x.1.mv, .int .i64 x.1.gn, .bool x.1.ag, .slice (some ⟨x.2.g1, 0, none⟩) x.2.n1 x.2.k1, .slice (some ⟨x.2.g2, 0, none⟩) 2 x.2.k2, .int .i64 x.1.nx] T)).cell? ((⟨H, 0, none⟩ : Addr).add j) = some v := by
  subst hH
  intro j v hj
  have e : ((⟨u.heap.size, 0, none⟩ : Addr).add j) = ⟨u.heap.size, 0 + j, none⟩ := by
    by_cases h : j = 0 <;> simp [Addr.add, h]
  rw [e, Nat.zero_add]
  match j, hj with
  | 0, hj => cases hj; go_simp
  | 1, hj => cases hj; go_simp
  | 2, hj => cases hj; go_simp
  | 3, hj => cases hj; go_simp
  | 4, hj => cases hj; go_simp
  | 5, hj => cases hj; go_simp
  | n + 6, hj => cases hj
set_option maxHeartbeats 4000000 in
set_option maxRecDepth 100000 in
theorem l07All_any (p s c l : Int) (st sk re fe ag : Bool) (p1 p2 : Option Addr) (pn1 pc1 pn2 pc2 : Nat) (pp : Int) (xs ys : List Int) (rb pb : Nat) (w : World) (hr : RuAt w rb p s c l st sk re fe ag) (hq : PoAt w pb p1 p2 pn1 pc1 pn2 pc2 pp) (h : PosR w p1 p2 pn1 pn2 xs ys) (hk : okP (okR p s c l st ag) p pn1 pn2 pp xs ys = true) :
    Calls Try.prog 53 #[.pointer (some ⟨rb, 0, none⟩), .pointer (some ⟨pb, 0, none⟩)] w (RsP (rsF (f7 p c l pp st sk re fe ag xs ys) p.toNat) w) := by
  obtain ⟨q1, -⟩ := okP_parts hk
  obtain ⟨r1, r2, -⟩ := okR_bd q1
  obtain ⟨P, rfl⟩ : ∃ P : Nat, p = (P : Int) := ⟨p.toNat, by omega⟩
  rw [Int.toNat_natCast]
  have hP8 : P ≤ 8 := by omega
  obtain ⟨i0, hi, hz0, hz1, hz2⟩ := info_parts infoR
  have Hk := Lib.hid hk
  have HJ0 : Hid (AlJ w rb pb (P : Int) s c l st sk re fe ag p1 p2 pn1 pc1 pn2 pc2 pp xs ys 0 (.slice (some ⟨w.heap.size, 0, none⟩) 0 0) (w.alloc (.cells #[] 68))) := Lib.hid
    ⟨⟨[], ⟨World.ownsRow_made w #[] 0 (Nat.le_refl _) (by decide) rfl, (fun _ h => by cases h), (fun _ h => by cases h), List.Pairwise.nil⟩, rfl⟩, hr.below (al1 _ _), hq.below (al1 _ _), h.below (al1 _ _), al1 _ _⟩
  have HR0 := Lib.hid (And.intro hr (And.intro hq h))
  clear q1 hk hr hq h
  go_enter Try.func53, Try.ntmps53
  go_wp2_with fail
  generalize w.alloc (.cells #[] 68) = w1 at *
  go_loopw [5, 6] (fun v i wr => ∃ k : Nat, i = .int .i64 k ∧ k ≤ P ∧ AlJ w rb pb (P : Int) s c l st sk re fe ag p1 p2 pn1 pc1 pn2 pc2 pp xs ys k v wr) (fun _ i _ => P - (intOf i).toNat)
  case atStart => exact ⟨0, rfl, Nat.zero_le _, HJ0.out⟩
  case round =>
    obtain ⟨k, rfl, hkP, hJ⟩ := hrel
    have HJ := Lib.hid hJ
    obtain ⟨_, g0, -, -, -, -, -, -, -, -⟩ := hJ.ru
    clear hJ HJ0
    by_cases hlt : k < P
    · have HM := Lib.hid (l07Make_any (P : Int) s c l st sk re fe ag p1 p2 pn1 pc1 pn2 pc2 pp xs ys rb pb (k : Int) wr HJ.out.ru HJ.out.po HJ.out.ps true Hk.out)
      have hf : f7 (P : Int) c l pp st sk re fe ag xs ys k = (lgV c l (P : Int) pp fe xs (mvV true (P : Int) pp st sk re xs ys (k : Int))).map (r7V c l (P : Int) pp ag ys (k : Int)) := rfl
      have HF := Lib.hid hf
      cases hl : lgV c l (P : Int) pp fe xs (mvV true (P : Int) pp st sk re xs ys (k : Int)) with
      | none =>
        have d := lg_none (s := s) (ag := ag) Hk.out HJ.out.ps.l1 hl
        rw [hl] at HM HF
        generalize lgC c l (P : Int) pp fe xs (mvCd true (P : Int) pp st sk re xs ys (k : Int)) (mvV true (P : Int) pp st sk re xs ys (k : Int)) = cd at *
        have HN : Hid (rsF (f7 (P : Int) c l pp st sk re fe ag xs ys) (k + 1) = rsF (f7 (P : Int) c l pp st sk re fe ag xs ys) k) := Lib.hid (by show _ ++ _ = _; rw [HF.out]; simp)
        clear hf hl HF
        go_wp2_with fail
        refine HM.out.mono ?_
        rintro e w5 ⟨rfl, hb⟩
        have HJ : Hid (AlJ w rb pb (P : Int) s c l st sk re fe ag p1 p2 pn1 pc1 pn2 pc2 pp xs ys (k + 1) u5 (w5.alloc (.cells #[.int .i64 0, .int .i64 0, .bool false, .slice none 0 0, .slice none 0 0, .int .i64 0] 68))) := Lib.hid (by
          obtain ⟨⟨L, hL, hm⟩, h1, h2, h3, h4⟩ := HJ.out
          have hb2 : Below wr.heap.size wr (w5.alloc (.cells #[.int .i64 0, .int .i64 0, .bool false, .slice none 0 0, .slice none 0 0, .int .i64 0] 68)) := Below.alloc hb hb.size _
          exact ⟨⟨L, hL.below hb2, by rw [HN.out]; exact hm⟩, h1.below hb2, h2.below hb2, h3.below hb2, Below.trans h4 (Below.mono hb2 h4.size)⟩)
        clear hb g0
        go_wp2_with fail
        go_roundw
        case rel => exact ⟨k + 1, by go_num, by omega, HJ.out⟩
        case measure => simp [intOf]; omega
      | some m =>
        obtain ⟨hm, hc0⟩ := lg_some (cd := mvCd true (P : Int) pp st sk re xs ys (k : Int)) hl
        rw [hl, hc0] at HM
        rw [hl] at HF
        have HN : Hid (rsF (f7 (P : Int) c l pp st sk re fe ag xs ys) (k + 1) = rsF (f7 (P : Int) c l pp st sk re fe ag xs ys) k ++ [r7V c l (P : Int) pp ag ys (k : Int) m]) := Lib.hid (by show _ ++ _ = _; rw [HF.out]; rfl)
        clear hf hl HF hm hc0
        go_wp2_with fail
        refine HM.out.mono ?_
        rintro e w5 ⟨g1, k1, g2, k2, rfl, ho, hl1, hl2, hc1, hc2, hb⟩
        obtain ⟨L, hL, hLm⟩ := HJ.out.ex
        have hIt : It7 w5 w.heap.size (r7V c l (P : Int) pp ag ys (k : Int) m, ⟨g1, g2, pn1, k1, k2⟩) := ⟨ho.lower HJ.out.be.size, hl1, hl2, hc1, hc2⟩
        have HI := Lib.hid hIt
        have hg1 := ho.o1.new
        have hg2 := ho.o2.new
        have HL := Lib.hid (hL.below hb)
        have HL0 := Lib.hid hL
        have HLm := Lib.hid hLm
        have hLk : L.length ≤ k := by
          have h1 := rsF_len (f7 (P : Int) c l pp st sk re fe ag xs ys) k
          rw [← hLm, List.length_map] at h1
          exact h1
        have HB5 := Lib.hid (Below.trans HJ.out.be (Below.mono hb HJ.out.be.size))
        have HR5 := Lib.hid (And.intro (HJ.out.ru.below hb) (And.intro (HJ.out.po.below hb) (HJ.out.ps.below hb)))
        have hwr : w.heap.size ≤ w5.heap.size := HB5.out.size
        clear hIt ho hL hLm hb g0 hl1 hl2 hc1 hc2
        go_wp2_with (at_builtin; refine wpList_append_lies _ rfl _ _ 80 rfl w.heap.size 68 i0 (.agg #[.int .i64 0, .int .i64 0, .bool false, .slice none 0 0, .slice none 0 0, .int .i64 0]) 6 80 Try.underlying80 hi hz0 hz1 hz2 rfl (by decide) u5 L.length (flat7 L) rfl (own_keepS HL.out.own (Below.alloc (al1 _ _) (by simp) _)) ⟨w5.heap.size + 1, 0, none⟩ 1 1 (cells7 (r7V c l (P : Int) pp ag ys (k : Int) m, ⟨g1, g2, pn1, k1, k2⟩)) rfl rfl (cells7_news (w5.alloc _) 68 (r7V c l (P : Int) pp ag ys (k : Int) m, ⟨g1, g2, pn1, k1, k2⟩) (w5.heap.size + 1) (by simp)) (cells7_one _) (by decide) (by unfold maxLen; omega) (by omega) (by simp; omega) _ rfl ?_; intro g cap w6 hown hgrow hat hlt6)
        have hbA : Below w5.heap.size w5 ((w5.alloc (.cells #[.int .i64 (k : Int), .int .i64 (gnV c l (P : Int) pp ys m), .bool (agV ag m), .slice (some ⟨g1, 0, none⟩) pn1 k1, .slice (some ⟨g2, 0, none⟩) 2 k2, .int .i64 (nxV ag pp m)] 68)).alloc (.cells #[.int .i64 (k : Int), .int .i64 (gnV c l (P : Int) pp ys m), .bool (agV ag m), .slice (some ⟨g1, 0, none⟩) pn1 k1, .slice (some ⟨g2, 0, none⟩) 2 k2, .int .i64 (nxV ag pp m)] 68)) := Below.alloc (al1 _ _) (by simp) _
        have hR6 := Rs7.snoc (H0 := wr.heap.size) HL.out HI.out (fun y hy => ⟨(HL0.out.it y hy).l1, (HL0.out.it y hy).l2⟩) (fun q hq => (own_lt HL0.out.own q hq).2) hg1 hg2 hbA hown hgrow (by simpa using hat)
        have HJ : Hid (AlJ w rb pb (P : Int) s c l st sk re fe ag p1 p2 pn1 pc1 pn2 pc2 pp xs ys (k + 1) (.slice (some ⟨g, 0, none⟩) (L.length + 1) cap) w6) := Lib.hid (alJ_mk HR0.out ⟨L ++ [(r7V c l (P : Int) pp ag ys (k : Int) m, ⟨g1, g2, pn1, k1, k2⟩)], hR6, by rw [List.map_append, HLm.out, HN.out]; rfl⟩ ((Below.trans HB5.out (Below.mono hbA hwr)).grown hgrow (by simp; omega) (fun q hq => (own_lt HL0.out.own q hq).1)))
        clear hown hgrow hat hlt6 hbA hR6 HL HL0 HI HM
        go_wp2_with fail
        go_roundw
        case rel => exact ⟨k + 1, by go_num, by omega, HJ.out⟩
        case measure => simp [intOf]; omega
    · obtain rfl : k = P := by omega
      go_wp2_with fail
      go_ret
      obtain ⟨L, hL, hm⟩ := HJ.out.ex
      exact ⟨_, L, rfl, hL, hm, HJ.out.be⟩
end Go.Proofs.Ythbkdlidpdliaaa

/- Ri7: The results of all legal moves, as the program makes them. -/
namespace Go.Proofs.Ythbkdlidpdliaaa
open Go.Joins Go.ChangeShapes Go.WideShapes Go.ChangeAt Go.RowKit Go.Deep
set_option linter.unusedVariables false

/-- Between two moves. -/
structure AiJ (w : World) (p s c l : Int) (st sk re fe ag : Bool) (p1 p2 : Option Addr) (pn1 pc1 pn2 pc2 : Nat) (pp : Int) (xs ys : List Int) (k : Nat) (v : Value) (wr : World) : Prop where
  ex : ∃ L, Rs7 wr (w.heap.size + 2) v L ∧ L.map Prod.fst = rsF (f7 p c l pp st sk re fe ag xs ys) k
  rp : RpAt w p s c l st sk re fe ag p1 p2 pn1 pc1 pn2 pc2 pp wr
/-- Results and a code. -/
def RsC (rs : List R7) (w : World) (e : Ending) (w' : World) : Prop := ∃ v L, e = .returned (.tuple #[v, .int .i64 0]) ∧ Rs7 w' w.heap.size v L ∧ L.map Prod.fst = rs ∧ Below w.heap.size w w'
theorem mkF_w {w w2 U W : World} {p s c l : Int} {st sk re fe ag : Bool} {pp : Int} {s1 s2 : Option Addr} {pn1 sc1 sc2 : Nat} {p1 p2 : Option Addr} {pc1 pc2 : Nat} {m : Res} {M g1 k1 g2 k2 : Nat} (h : MkF w U p s c l st sk re fe ag pp s1 s2 pn1 sc1 sc2 p1 p2 pc1 pc2 m M g1 k1 g2 k2 W) : MkF w2 U p s c l st sk re fe ag pp s1 s2 pn1 sc1 sc2 p1 p2 pc1 pc2 m M g1 k1 g2 k2 W :=
  ⟨h.rg, h.lt, h.ge, h.be, h.ho, h.l1, h.l2, h.h1, h.h2⟩
theorem RpAt.grown {w u v : World} {p s c l : Int} {st sk re fe ag : Bool} {p1 p2 : Option Addr} {pn1 pc1 pn2 pc2 : Nat} {pp : Int} {row : Option Nat} (h : RpAt w p s c l st sk re fe ag p1 p2 pn1 pc1 pn2 pc2 pp u) (hg : u.grownBy v row) (hr : ∀ k, row = some k → w.heap.size + 2 ≤ k) : RpAt w p s c l st sk re fe ag p1 p2 pn1 pc1 pn2 pc2 pp v := by
  obtain ⟨b, hb, hk⟩ : ∃ b, w.heap.size + 2 ≤ b ∧ But b u v := by
    cases row with
    | none => exact ⟨w.heap.size + 2, Nat.le_refl _, but_grown hg (fun k h => by cases h)⟩
    | some b => exact ⟨b, hr b rfl, but_grown hg (fun k h => by cases h; rfl)⟩
  exact ⟨h.1.but hk (by omega), h.2.1.but hk (by omega), But.lift h.2.2 hk (by omega)⟩
theorem range_grown {u v : World} {M : Nat} {cs : List Value} {row : Option Nat} (h : u.rangeAt M 0 cs) (hM : M < u.heap.size) (hg : u.grownBy v row) (hr : ∀ k, row = some k → k ≠ M) : v.rangeAt M 0 cs :=
  fun j x hj => (World.cell?_of_block (a := ⟨M, 0 + j, none⟩) (hg.block M hM (fun e => hr _ e.symm rfl))).trans (h j x hj)
theorem Rs7.lower {u : World} {B C : Nat} {x : Value} {L : List (R7 × Q7)} (h : Rs7 u B x L) (hc : C ≤ B) : Rs7 u C x L := by
  refine ⟨?_, fun y hy => ⟨(h.it y hy).o.lower hc, (h.it y hy).l1, (h.it y hy).l2, (h.it y hy).k1, (h.it y hy).k2⟩, h.ne, h.pw⟩
  obtain ⟨h1, h2 | ⟨g, cap, cur, hv, hb, hr⟩⟩ := h.own
  · exact ⟨h1, .inl h2⟩
  · exact ⟨h1, .inr ⟨g, cap, cur, hv, Nat.le_trans hc hb, hr⟩⟩
set_option maxHeartbeats 4000000 in
set_option maxRecDepth 100000 in
theorem implRes_no (p s c l : Int) (st sk re fe ag : Bool) (p1 p2 : Option Addr) (pn1 pc1 pn2 pc2 : Nat) (pp : Int) (xs ys : List Int) (w : World) (h : PosR w p1 p2 pn1 pn2 xs ys) (hk : okP (okR p s c l st ag) p pn1 pn2 pp xs ys = false) :
    Calls Try.prog 54 #[.agg #[.int .i64 p, .int .i64 s, .bool st, .bool sk, .bool re, .bool fe, .bool ag, .int .i64 c, .int .i64 l], .agg #[.slice p1 pn1 pc1, .slice p2 pn2 pc2, .int .i64 pp]] w fun e w' => e = .returned (.tuple #[.slice none 0 0, .int .i64 1]) ∧ Below w.heap.size w w' := by
  have HS := Lib.hid (rp_new p s c l st sk re fe ag p1 p2 pn1 pc1 pn2 pc2 pp w 31 41)
  have H0 := Lib.hid h
  have Hk := Lib.hid hk
  clear h hk
  go_enter Try.func54, Try.ntmps54
  go_wp2_with fail
  refine (implValid_any p s c l st sk re fe ag p1 p2 pn1 pc1 pn2 pc2 pp xs ys _ (H0.out.below HS.out.2.2)).mono ?_
  rintro e w5 ⟨rfl, hb⟩
  rw [Hk.out]
  have HS := Lib.hid (HS.out.below hb)
  clear hb
  go_wp2_with fail
  go_ret2
  exact ⟨rfl, HS.out.2.2⟩
set_option maxHeartbeats 4000000 in
set_option maxRecDepth 100000 in
theorem implRes_yes (p s c l : Int) (st sk re fe ag : Bool) (p1 p2 : Option Addr) (pn1 pc1 pc2 : Nat) (pp : Int) (xs ys : List Int) (w : World) (h : PosR w p1 p2 pn1 2 xs ys) (hcap : pn1 ≤ pc1) (hk : okP (okR p s c l st ag) p pn1 2 pp xs ys = true) :
    Calls Try.prog 54 #[.agg #[.int .i64 p, .int .i64 s, .bool st, .bool sk, .bool re, .bool fe, .bool ag, .int .i64 c, .int .i64 l], .agg #[.slice p1 pn1 pc1, .slice p2 2 pc2, .int .i64 pp]] w (RsC (rsF (f7 p c l pp st sk re fe ag xs ys) p.toNat) w) := by
  obtain ⟨q1, -⟩ := okP_parts hk
  obtain ⟨r1, r2, -⟩ := okR_bd q1
  obtain ⟨-, hpl⟩ := pl_of_ok hk
  obtain ⟨P, rfl⟩ : ∃ P : Nat, p = (P : Int) := ⟨p.toNat, by omega⟩
  rw [Int.toNat_natCast]
  have hP8 : P ≤ 8 := by omega
  obtain ⟨i0, hi, hz0, hz1, hz2⟩ := info_parts infoR
  have HS := Lib.hid (rp_new (P : Int) s c l st sk re fe ag p1 p2 pn1 pc1 2 pc2 pp w 31 41)
  have H0 := Lib.hid h
  have Hk := Lib.hid hk
  have Hpl := Lib.hid hpl
  clear h hk q1 hpl
  go_enter Try.func54, Try.ntmps54
  go_wp2_with fail
  refine (implValid_any (P : Int) s c l st sk re fe ag p1 p2 pn1 pc1 2 pc2 pp xs ys _ (H0.out.below HS.out.2.2)).mono ?_
  rintro e w5 ⟨rfl, hb⟩
  rw [Hk.out]
  have HJ0 : Hid (AiJ w (P : Int) s c l st sk re fe ag p1 p2 pn1 pc1 2 pc2 pp xs ys 0 (.slice none 0 0) w5) := Lib.hid ⟨⟨[], rs7_nil _ _, rfl⟩, HS.out.below hb⟩
  obtain ⟨⟨_, g0, -, -, -, -, -, -, -, -⟩, -, -⟩ := HJ0.out.rp
  clear hb HS
  go_wp2_with fail
  clear g0
  go_loopw [6, 16] (fun v i wr => ∃ k : Nat, i = .int .i64 k ∧ k ≤ P ∧ AiJ w (P : Int) s c l st sk re fe ag p1 p2 pn1 pc1 2 pc2 pp xs ys k v wr) (fun _ i _ => P - (intOf i).toNat)
  case atStart => exact ⟨0, rfl, Nat.zero_le _, HJ0.out⟩
  case round =>
    obtain ⟨k, rfl, hkP, hJ⟩ := hrel
    have HJ := Lib.hid hJ
    clear hJ HJ0
    by_cases hlt : k < P
    · have HM := Lib.hid (makeL_any (P : Int) s c l st sk re fe ag p1 p2 pn1 pc1 2 pc2 pp xs ys (k : Int) wr (H0.out.below HJ.out.rp.2.2) hcap true Hk.out)
      have hf : f7 (P : Int) c l pp st sk re fe ag xs ys k = (lgV c l (P : Int) pp fe xs (mvV true (P : Int) pp st sk re xs ys (k : Int))).map (r7V c l (P : Int) pp ag ys (k : Int)) := rfl
      have HF := Lib.hid hf
      obtain ⟨⟨_, g0, g1', g2', g3, g4, g5, g6, g7, g8⟩, ⟨_, t0, t1, t2⟩, -⟩ := HJ.out.rp
      cases hl : lgV c l (P : Int) pp fe xs (mvV true (P : Int) pp st sk re xs ys (k : Int)) with
      | none =>
        have d := lg_none (s := s) (ag := ag) Hk.out H0.out.l1 hl
        rw [hl] at HM HF
        have HM := Lib.hid (HM.out.mono (fun _ _ q => MkQ.d (P : Int) s c l st sk re fe ag q))
        generalize lgC c l (P : Int) pp fe xs (mvCd true (P : Int) pp st sk re xs ys (k : Int)) (mvV true (P : Int) pp st sk re xs ys (k : Int)) = cd at *
        have HN : Hid (rsF (f7 (P : Int) c l pp st sk re fe ag xs ys) (k + 1) = rsF (f7 (P : Int) c l pp st sk re fe ag xs ys) k) := Lib.hid (by show _ ++ _ = _; rw [HF.out]; simp)
        clear hf hl HF
        go_upto_region 7 with fail
        go_cut [9] from 17 to 39 (fun s9 wx => s9 = .int .i64 cd ∧ AiJ w (P : Int) s c l st sk re fe ag p1 p2 pn1 pc1 2 pc2 pp xs ys (k + 1) u6 wx)
        case first =>
          go_wp2_with fail
          refine HM.out.mono ?_
          rintro e w5 ⟨pz, sz, cz, lz, stz, skz, rez, fez, agz, playerz, s1z, s2z, sn1z, sc1z, sn2z, sc2z, spz, sqz, p1z, p2z, pn1z, pc1z, pn2z, pc2z, ppz, t1z, t2z, tn1z, tc1z, tn2z, tc2z, tpz, tqz, rfl, hb⟩
          have HJ : Hid (AiJ w (P : Int) s c l st sk re fe ag p1 p2 pn1 pc1 2 pc2 pp xs ys (k + 1) u6 ((w5.alloc (.cells zero21.toArray 73)).setCells w5.heap.size 0 [.int .i64 pz, .int .i64 sz, .bool stz, .bool skz, .bool rez, .bool fez, .bool agz, .int .i64 cz, .int .i64 lz, .int .i64 playerz, .slice s1z sn1z sc1z, .slice s2z sn2z sc2z, .int .i64 spz, .int .i64 sqz, .slice p1z pn1z pc1z, .slice p2z pn2z pc2z, .int .i64 ppz, .slice t1z tn1z tc1z, .slice t2z tn2z tc2z, .int .i64 tpz, .int .i64 tqz])) := Lib.hid (by
            obtain ⟨⟨L, hL, hm⟩, h1⟩ := HJ.out
            have hb2 := below_sc w5.heap.size hb.size [.int .i64 pz, .int .i64 sz, .bool stz, .bool skz, .bool rez, .bool fez, .bool agz, .int .i64 cz, .int .i64 lz, .int .i64 playerz, .slice s1z sn1z sc1z, .slice s2z sn2z sc2z, .int .i64 spz, .int .i64 sqz, .slice p1z pn1z pc1z, .slice p2z pn2z pc2z, .int .i64 ppz, .slice t1z tn1z tc1z, .slice t2z tn2z tc2z, .int .i64 tpz, .int .i64 tqz] 0 (Below.alloc hb hb.size (.cells zero21.toArray 73))
            exact ⟨⟨L, hL.below hb2, by rw [HN.out]; exact hm⟩, h1.below hb2⟩)
          clear hb g0 g1' g2' g3 g4 g5 g6 g7 g8 t0 t1 t2
          go_wp2_with (refine wpList_store_mid rfl 73 _ _ rfl w5.heap.size 0 (List.toArray [.int .i64 pz, .int .i64 sz, .bool stz, .bool skz, .bool rez, .bool fez, .bool agz, .int .i64 cz, .int .i64 lz, .int .i64 playerz, .slice s1z sn1z sc1z, .slice s2z sn2z sc2z, .int .i64 spz, .int .i64 sqz, .slice p1z pn1z pc1z, .slice p2z pn2z pc2z, .int .i64 ppz, .slice t1z tn1z tc1z, .slice t2z tn2z tc2z, .int .i64 tpz, .int .i64 tqz]) rfl rfl (thN_new w5 73).th (by kernel_rfl) (mm_one pz sz cz lz stz skz rez fez agz playerz s1z s2z sn1z sc1z sn2z sc2z spz sqz p1z p2z pn1z pc1z pn2z pc2z ppz t1z t2z tn1z tc1z tn2z tc2z tpz tqz) ?_)
          go_meet
          exact ⟨rfl, HJ.out⟩
        case rest =>
          obtain ⟨rfl, hJ⟩ := hcut
          have HJ := Lib.hid hJ
          clear hJ HM g0 g1' g2' g3 g4 g5 g6 g7 g8 t0 t1 t2
          go_wp2_with fail
          go_roundw
          case rel => exact ⟨k + 1, by go_num, by omega, HJ.out⟩
          case measure => simp [intOf]; omega
      | some m =>
        obtain ⟨hm, hc0⟩ := lg_some (cd := mvCd true (P : Int) pp st sk re xs ys (k : Int)) hl
        obtain ⟨-, -, -, -, fin⟩ := mvV_fin Hk.out H0.out.l1 H0.out.l2 hm
        have HG := Lib.hid (good_fin (t := 0) (P : Int) s c l st sk re fe ag Hk.out fin)
        rw [hl, hc0] at HM
        rw [hl] at HF
        have HN : Hid (rsF (f7 (P : Int) c l pp st sk re fe ag xs ys) (k + 1) = rsF (f7 (P : Int) c l pp st sk re fe ag xs ys) k ++ [r7V c l (P : Int) pp ag ys (k : Int) m]) := Lib.hid (by show _ ++ _ = _; rw [HF.out]; rfl)
        clear hf hl HF hm hc0 fin
        go_upto_region 7 with fail
        go_cut [8, 9] from 17 to 39 (fun s8 s9 wx => ∃ (s1 s2 : Option Addr) (sc1 sc2 M g1 k1 g2 k2 : Nat), s8 = .pointer (some ⟨M, 0, none⟩) ∧ s9 = .int .i64 0 ∧ MkF w wr (P : Int) s c l st sk re fe ag pp s1 s2 pn1 sc1 sc2 p1 p2 pc1 pc2 m M g1 k1 g2 k2 wx)
        case first =>
          go_wp2_with fail
          refine HM.out.mono ?_
          rintro e w5 ⟨s1, s2, sc1, sc2, g1, k1, g2, k2, rfl, ho, hl1, hl2, hc1, hc2, hb⟩
          have HF := Lib.hid (mkF_new (P : Int) s c l st sk re fe ag (s1 := s1) (s2 := s2) (sc1 := sc1) (sc2 := sc2) (p1 := p1) (p2 := p2) (pc1 := pc1) (pc2 := pc2) 73 hb ho hl1 hl2 hc1 hc2)
          clear hb ho hl1 hl2 hc1 hc2 g0 g1' g2' g3 g4 g5 g6 g7 g8 t0 t1 t2
          go_wp2_with (refine wpList_store_mid rfl 73 _ _ rfl w5.heap.size 0 (List.toArray [.int .i64 (P : Int), .int .i64 s, .bool st, .bool sk, .bool re, .bool fe, .bool ag, .int .i64 c, .int .i64 l, .int .i64 pp, .slice s1 pn1 sc1, .slice s2 2 sc2, .int .i64 m.last, .int .i64 m.laps, .slice p1 pn1 pc1, .slice p2 2 pc2, .int .i64 pp, .slice (some ⟨g1, 0, none⟩) pn1 k1, .slice (some ⟨g2, 0, none⟩) 2 k2, .int .i64 m.last, .int .i64 m.laps]) rfl rfl (thN_new w5 73).th (by kernel_rfl) (mm_one (P : Int) s c l st sk re fe ag pp s1 s2 pn1 sc1 2 sc2 m.last m.laps p1 p2 pn1 pc1 2 pc2 pp (some ⟨g1, 0, none⟩) (some ⟨g2, 0, none⟩) pn1 k1 2 k2 m.last m.laps) ?_)
          go_meet
          exact ⟨s1, s2, sc1, sc2, w5.heap.size, g1, k1, g2, k2, rfl, rfl, mkF_w HF.out⟩
        case rest =>
          obtain ⟨s1, s2, sc1, sc2, M, g1, k1, g2, k2, rfl, rfl, hF⟩ := hcut
          have HF := Lib.hid hF
          clear hF g0 g1' g2' g3 g4 g5 g6 g7 g8 t0 t1 t2 HM
          go_upto_region 9 with fail
          have hgw := HF.out.ge
          obtain ⟨L, hL, hLm⟩ := HJ.out.ex
          have HL0 := Lib.hid hL
          have HLm := Lib.hid hLm
          have hLk : L.length ≤ k := by
            have h1 := rsF_len (f7 (P : Int) c l pp st sk re fe ag xs ys) k
            rw [← hLm, List.length_map] at h1
            exact h1
          have hwr : w.heap.size ≤ wr.heap.size := HJ.out.rp.2.2.size
          have HF := Lib.hid (HF.out.below (Below.refl _ _).drew)
          have hyb := (HG.out.1.tk HG.out.2.1 HG.out.2.2)
          have hv0 := posB_getD hyb.2.1 pp.toNat
          have hv1 := getD_le hyb.2.1 pp.toNat
          have hv2 := posB_tot hyb.1
          have hy0 := posB_getD (seedB_parts (okP_parts Hk.out).2.2.2.2).2.1 pp.toNat
          have hy1 := getD_le (seedB_parts (okP_parts Hk.out).2.2.2.2).2.1 pp.toNat
          have hy2 := posB_tot (seedB_parts (okP_parts Hk.out).2.2.2.2).1
          have hy3 := (seedB_parts (okP_parts Hk.out).2.2.2.2).2.2
          have hx3 := HG.out.1.q3
          have HY := Lib.hid (show (0 ≤ (tkY c l (P : Int) pp m.last m.xs m.ys).getD pp.toNat 0 ∧ (tkY c l (P : Int) pp m.last m.xs m.ys).getD pp.toNat 0 ≤ 1000000) ∧ 0 ≤ ys.getD pp.toNat 0 ∧ ys.getD pp.toNat 0 ≤ 1000000 from ⟨⟨by omega, by omega⟩, by omega, by omega⟩)
          clear hyb hv0 hv1 hv2 hy0 hy1 hy2 hy3 hx3 hL hLm
          obtain ⟨nx, hnx⟩ : ∃ x, nxV ag pp m = x := ⟨_, rfl⟩
          obtain ⟨gn, hgn⟩ : ∃ x, gnV c l (P : Int) pp ys m = x := ⟨_, rfl⟩
          obtain ⟨bA, hbA⟩ : ∃ x, agV ag m = x := ⟨_, rfl⟩
          have HNx := Lib.hid hnx
          have HGn := Lib.hid hgn
          have HBA := Lib.hid hbA
          clear hnx hgn hbA
          refine wp_region_held_drew (S := fun u => u.rangeAt M 0 [.int .i64 (P : Int), .int .i64 s, .bool st, .bool sk, .bool re, .bool fe, .bool ag, .int .i64 c, .int .i64 l, .int .i64 pp, .slice s1 pn1 sc1, .slice s2 2 sc2, .int .i64 m.last, .int .i64 m.laps, .slice p1 pn1 pc1, .slice p2 2 pc2, .int .i64 pp, .slice (some ⟨g1, 0, none⟩) pn1 k1, .slice (some ⟨g2, 0, none⟩) 2 k2, .int .i64 m.last, .int .i64 m.laps]) (by kernel_rfl) HF.out.rg (fun hHeld => ?_)
          refine wpAnyH_take (i := 0) (oi := { dst := some 28, op := Op.move (Operand.tmp 6), type := 80, pos := "l07_moves.go:120", after := #[], guard := none }) (v := u6) rfl (by kernel_rfl) (by kernel_rfl) (by kernel_rfl) (fun _ _ _ h => h) (.inl ⟨by rfl, fun u hu => by go_simp⟩) hHeld ?_
          simp only [Act.put, List.setIfInBounds_toArray, List.set_cons_zero, List.set_cons_succ]
          refine wpAnyH_take (i := 1) (oi := { dst := some 29, op := Op.move (Operand.tmp 7), type := 2, pos := "l07_moves.go:120", after := #[], guard := none }) (v := .int .i64 (k : Int)) rfl (by kernel_rfl) (by kernel_rfl) (by kernel_rfl) (fun _ _ _ h => h) (.inl ⟨by rfl, fun u hu => by go_simp⟩) hHeld ?_
          simp only [Act.put, List.setIfInBounds_toArray, List.set_cons_zero, List.set_cons_succ]
          refine wpAnyH_take (i := 2) rfl (by kernel_rfl) (by kernel_rfl) (by kernel_rfl) (fun _ _ _ h => h) (yieldsIf_load_mid (by rfl) 73 _ rfl M 0 rfl [.int .i64 (P : Int), .int .i64 s, .bool st, .bool sk, .bool re, .bool fe, .bool ag, .int .i64 c, .int .i64 l, .int .i64 pp, .slice s1 pn1 sc1, .slice s2 2 sc2, .int .i64 m.last, .int .i64 m.laps, .slice p1 pn1 pc1, .slice p2 2 pc2, .int .i64 pp, .slice (some ⟨g1, 0, none⟩) pn1 k1, .slice (some ⟨g2, 0, none⟩) 2 k2, .int .i64 m.last, .int .i64 m.laps] _ (fun u hu => hu) Try.underlying73 rfl (by kernel_rfl)) hHeld ?_
          simp only [Act.put, List.setIfInBounds_toArray]
          refine wpAnyH_take (i := 4) rfl (by kernel_rfl) (by kernel_rfl) (by kernel_rfl) (fun _ _ _ h => h) (yieldsIf_load_mid (by rfl) 73 _ rfl M 0 rfl [.int .i64 (P : Int), .int .i64 s, .bool st, .bool sk, .bool re, .bool fe, .bool ag, .int .i64 c, .int .i64 l, .int .i64 pp, .slice s1 pn1 sc1, .slice s2 2 sc2, .int .i64 m.last, .int .i64 m.laps, .slice p1 pn1 pc1, .slice p2 2 pc2, .int .i64 pp, .slice (some ⟨g1, 0, none⟩) pn1 k1, .slice (some ⟨g2, 0, none⟩) 2 k2, .int .i64 m.last, .int .i64 m.laps] _ (fun u hu => hu) Try.underlying73 rfl (by kernel_rfl)) hHeld ?_
          simp only [Act.put]
          refine wpAnyH_take (i := 6) rfl (by kernel_rfl) (by kernel_rfl) (by kernel_rfl) (fun _ _ _ h => h) (yieldsIf_load_mid (by rfl) 73 _ rfl M 0 rfl [.int .i64 (P : Int), .int .i64 s, .bool st, .bool sk, .bool re, .bool fe, .bool ag, .int .i64 c, .int .i64 l, .int .i64 pp, .slice s1 pn1 sc1, .slice s2 2 sc2, .int .i64 m.last, .int .i64 m.laps, .slice p1 pn1 pc1, .slice p2 2 pc2, .int .i64 pp, .slice (some ⟨g1, 0, none⟩) pn1 k1, .slice (some ⟨g2, 0, none⟩) 2 k2, .int .i64 m.last, .int .i64 m.laps] _ (fun u hu => hu) Try.underlying73 rfl (by kernel_rfl)) hHeld ?_
          simp only [Act.put]
          refine wpAnyH_ready (rs := [3]) (by kernel_rfl) (by simp) ?_
          refine AllReadyH.cons rfl (fun K hK => ?_) AllReadyH.nil
          rw [if_pos (by rfl)]
          go_simp
          go_at_call 51
          refine ((gain_any (P : Int) s c l st sk re fe ag pp s1 s2 pn1 sc1 2 sc2 m.last m.laps p1 p2 pn1 pc1 2 pc2 pp (some ⟨g1, 0, none⟩) (some ⟨g2, 0, none⟩) pn1 k1 2 k2 m.last m.laps (tkY c l (P : Int) pp m.last m.xs m.ys) ys _ Hpl.out HF.out.ho.o2.row ((H0.out.below HJ.out.rp.2.2).below HF.out.be).r2 (tkY_len.trans HG.out.2.2) H0.out.l2 rfl rfl HY.out.1 HY.out.2).mono (fun e w' h => (show e = .returned (.int .i64 (gnV c l (P : Int) pp ys m)) ∧ _ from h))).mono ?_
          rw [HGn.out]
          rintro e w7 ⟨rfl, hb7⟩
          have HF := Lib.hid (HF.out.below hb7)
          clear hb7
          dsimp only
          refine hK.out _ _ (HF.out.rg) (fun hHeld => ?_)
          clear hK K
          (try simp only [Act.put, List.setIfInBounds_toArray, List.set_cons_zero, List.set_cons_succ])
          refine wpAnyH_ready (rs := [5]) (by kernel_rfl) (by simp) ?_
          refine AllReadyH.cons rfl (fun K hK => ?_) AllReadyH.nil
          rw [if_pos (by rfl)]
          go_simp
          go_at_call 49
          refine ((again_any (P : Int) s c l st sk re fe ag pp s1 s2 pn1 sc1 2 sc2 m.last m.laps p1 p2 pn1 pc1 2 pc2 pp (some ⟨g1, 0, none⟩) (some ⟨g2, 0, none⟩) pn1 k1 2 k2 m.last m.laps _).mono (fun e w' h => (show e = .returned (.bool (agV ag m)) ∧ _ from h))).mono ?_
          rw [HBA.out]
          rintro e w8 ⟨rfl, hb8⟩
          have HF := Lib.hid (HF.out.below hb8)
          clear hb8
          dsimp only
          refine hK.out _ _ (HF.out.rg) (fun hHeld => ?_)
          clear hK K
          (try simp only [Act.put, List.setIfInBounds_toArray, List.set_cons_zero, List.set_cons_succ])
          refine wpAnyH_ready (rs := [7]) (by kernel_rfl) (by simp) ?_
          refine AllReadyH.cons rfl (fun K hK => ?_) AllReadyH.nil
          rw [if_pos (by rfl)]
          go_simp
          go_at_call 50
          refine ((nextM_any (P : Int) s c l st sk re fe ag pp s1 s2 pn1 sc1 2 sc2 m.last m.laps p1 p2 pn1 pc1 2 pc2 pp (some ⟨g1, 0, none⟩) (some ⟨g2, 0, none⟩) pn1 k1 2 k2 m.last m.laps _ Hpl.out).mono (fun e w' h => (show e = .returned (.agg #[.slice (some ⟨g1, 0, none⟩) pn1 k1, .slice (some ⟨g2, 0, none⟩) 2 k2, .int .i64 (nxV ag pp m)]) ∧ _ from h))).mono ?_
          rw [HNx.out]
          rintro e w9 ⟨rfl, hb9⟩
          have HF := Lib.hid (HF.out.below hb9)
          clear hb9
          dsimp only
          refine hK.out _ _ (HF.out.rg) (fun hHeld => ?_)
          clear hK K
          (try simp only [Act.put, List.setIfInBounds_toArray, List.set_cons_zero, List.set_cons_succ])
          refine wpAnyH_take (i := 8) (oi := { dst := some 36, op := Op.build 68 #[(0, Operand.tmp 29), (1, Operand.tmp 31), (2, Operand.tmp 33), (3, Operand.tmp 35)], type := 68, pos := "l07_moves.go:120", after := #[{ on := 1, ground := Ground.data }, { on := 3, ground := Ground.data }, { on := 5, ground := Ground.data }, { on := 7, ground := Ground.data }], guard := none }) (v := .agg #[.int .i64 (k : Int), .int .i64 gn, .bool bA, .slice (some ⟨g1, 0, none⟩) pn1 k1, .slice (some ⟨g2, 0, none⟩) 2 k2, .int .i64 nx]) rfl (by kernel_rfl) (by kernel_rfl) (by kernel_rfl) (fun _ _ _ h => h) (.inl ⟨by rfl, fun u hu => by go_simp⟩) hHeld ?_
          simp only [Act.put, List.setIfInBounds_toArray, List.set_cons_zero, List.set_cons_succ]
          refine wpAnyH_ready (rs := [9]) (by kernel_rfl) (by simp) ?_
          refine AllReadyH.cons rfl (fun K hK => ?_) AllReadyH.nil
          rw [if_pos (by rfl)]
          go_simp
          have HF1 := Lib.hid (HF.out.below (al1 w9 (.cells #[.int .i64 (k : Int), .int .i64 gn, .bool bA, .slice (some ⟨g1, 0, none⟩) pn1 k1, .slice (some ⟨g2, 0, none⟩) 2 k2, .int .i64 nx] 68)))
          have HRg := Lib.hid HF1.out.rg
          refine hK.out _ _ (HRg.out) (fun hHeld => ?_)
          clear hK K
          (try simp only [Act.put, List.setIfInBounds_toArray, List.set_cons_zero, List.set_cons_succ])
          have HL9 := Lib.hid (HL0.out.below HF.out.be)
          have hw9 : wr.heap.size ≤ w9.heap.size := HF.out.be.bel.size
          refine wpAnyH_ready (rs := [10]) (by kernel_rfl) (by simp) ?_
          refine AllReadyH.cons rfl (fun K hK => ?_) AllReadyH.nil
          refine step_append_lies _ rfl _ _ 80 rfl (w.heap.size + 2) 68 i0 (.agg #[.int .i64 0, .int .i64 0, .bool false, .slice none 0 0, .slice none 0 0, .int .i64 0]) 6 80 Try.underlying80 hi hz0 hz1 hz2 rfl (by decide) u6 L.length (flat7 L) rfl (own_keepS HL9.out.own (al1 _ _)) ⟨w9.heap.size, 0, none⟩ 1 1 [.int .i64 (k : Int), .int .i64 gn, .bool bA, .slice (some ⟨g1, 0, none⟩) pn1 k1, .slice (some ⟨g2, 0, none⟩) 2 k2, .int .i64 nx] rfl rfl (cells7_news w9 68 (⟨(k : Int), gn, bA, nx, [], []⟩, ⟨g1, g2, pn1, k1, k2⟩) w9.heap.size rfl) (cells7_one (⟨(k : Int), gn, bA, nx, [], []⟩, ⟨g1, g2, pn1, k1, k2⟩)) (by decide) (by unfold maxLen; omega) (by omega) (by have := HJ.out.rp.2.1.1; simp; omega) (w9.heap.size + 1) (by simp) ?_
          intro g cap w6 hown hgrow hat hlt6
          have e7 : cells7 (r7V c l (P : Int) pp ag ys (k : Int) m, ⟨g1, g2, pn1, k1, k2⟩) = [.int .i64 (k : Int), .int .i64 gn, .bool bA, .slice (some ⟨g1, 0, none⟩) pn1 k1, .slice (some ⟨g2, 0, none⟩) 2 k2, .int .i64 nx] := by
            show [Value.int .i64 (k : Int), .int .i64 (gnV c l (P : Int) pp ys m), .bool (agV ag m), .slice (some ⟨g1, 0, none⟩) pn1 k1, .slice (some ⟨g2, 0, none⟩) 2 k2, .int .i64 (nxV ag pp m)] = _
            rw [HGn.out, HBA.out, HNx.out]
          rw [← e7] at hown
          have hg1 := HF.out.ho.o1.new
          have hg2 := HF.out.ho.o2.new
          have hrp2 : w.heap.size + 2 ≤ wr.heap.size := HJ.out.rp.2.1.1
          have hIt : It7 w9 (w.heap.size + 2) (r7V c l (P : Int) pp ag ys (k : Int) m, ⟨g1, g2, pn1, k1, k2⟩) := ⟨HF.out.ho.lower hrp2, HF.out.l1, HF.out.l2, HF.out.h1, HF.out.h2⟩
          have hR6 := Rs7.snoc (H0 := wr.heap.size) HL9.out hIt (fun y hy => ⟨(HL0.out.it y hy).l1, (HL0.out.it y hy).l2⟩) (fun q hq => (own_lt HL0.out.own q hq).2) hg1 hg2 (al1 w9 (.cells #[.int .i64 (k : Int), .int .i64 gn, .bool bA, .slice (some ⟨g1, 0, none⟩) pn1 k1, .slice (some ⟨g2, 0, none⟩) 2 k2, .int .i64 nx] 68)) hown hgrow (by simpa using hat)
          have HJ : Hid (AiJ w (P : Int) s c l st sk re fe ag p1 p2 pn1 pc1 2 pc2 pp xs ys (k + 1) (.slice (some ⟨g, 0, none⟩) (L.length + 1) cap) w6) := Lib.hid ⟨⟨L ++ [(r7V c l (P : Int) pp ag ys (k : Int) m, ⟨g1, g2, pn1, k1, k2⟩)], hR6, by rw [List.map_append, HLm.out, HN.out]; rfl⟩, RpAt.grown ((HJ.out.rp.below HF.out.be).below (al1 w9 (.cells #[.int .i64 (k : Int), .int .i64 gn, .bool bA, .slice (some ⟨g1, 0, none⟩) pn1 k1, .slice (some ⟨g2, 0, none⟩) 2 k2, .int .i64 nx] 68))) hgrow (fun q hq => (own_lt HL0.out.own q hq).1)⟩
          have HRg6 := Lib.hid (range_grown HF1.out.rg HF1.out.lt hgrow (fun q hq => by have := (own_lt HL0.out.own q hq).2; omega))
          clear hown hgrow hat hlt6 hR6 hIt e7 HL9 HL0 HF HF1 HRg
          refine hK.out _ _ (HRg6.out) (fun hHeld => ?_)
          clear hK K
          (try simp only [Act.put, List.setIfInBounds_toArray])
          refine wpAnyH_ready (rs := [11]) (by kernel_rfl) (by simp) ?_
          refine AllReadyH.cons rfl (fun K hK => ?_) AllReadyH.nil
          rw [if_pos (by rfl)]
          go_simp
          refine hK.out _ _ (HRg6.out) (fun hHeld => ?_)
          clear hK K
          (try simp only [Act.put, List.setIfInBounds_toArray, List.set_cons_zero, List.set_cons_succ])
          refine wpAnyH_done (by kernel_rfl) ?_ _
          go_wp2_with fail
          go_roundw
          case rel => exact ⟨k + 1, by go_num, by omega, HJ.out⟩
          case measure => simp [intOf]; omega
    · obtain rfl : k = P := by omega
      go_wp2_with fail
      go_ret2
      obtain ⟨L, hL, hm⟩ := HJ.out.ex
      exact ⟨_, L, rfl, hL.lower (Nat.le_add_right _ 2), hm, HJ.out.rp.2.2⟩
end Go.Proofs.Ythbkdlidpdliaaa

/- Rm9: MakeMove of the reference, and in any position. -/
namespace Go.Proofs.Ythbkdlidpdliaaa
open Go.Joins Go.ChangeShapes Go.WideShapes Go.ChangeAt Go.RowKit Go.Deep
set_option linter.unusedVariables false

theorem Ot6.but {u v : World} {z b : Nat} {mv gn : Int} {bb : Bool} {v3 v4 v5 : Value} (h : Ot6 u z mv gn bb v3 v4 v5) (k : But b u v) (hb : z ≠ b) : Ot6 v z mv gn bb v3 v4 v5 := by
  have e := fun o => k.cell (o := o) h.lt hb
  exact ⟨Nat.lt_of_lt_of_le h.lt k.size, (e _).trans h.c0, (e _).trans h.c1, (e _).trans h.c2, (e _).trans h.c3, (e _).trans h.c4, (e _).trans h.c5, fun o => (k.frozen h.lt hb).trans (h.fr o)⟩
set_option maxHeartbeats 4000000 in
set_option maxRecDepth 100000 in
theorem specMake_any (p s c l : Int) (st sk re fe ag : Bool) (p1 p2 : Option Addr) (pn1 pc1 pn2 pc2 : Nat) (pp : Int) (xs ys : List Int) (move : Int) (w : World) (h : PosR w p1 p2 pn1 pn2 xs ys) (k : Bool) (hk : okP (okR p s c l st ag) p pn1 pn2 pp xs ys = k) :
    Calls Try.prog 26 #[.agg #[.int .i64 p, .int .i64 s, .bool st, .bool sk, .bool re, .bool fe, .bool ag, .int .i64 c, .int .i64 l], .agg #[.slice p1 pn1 pc1, .slice p2 pn2 pc2, .int .i64 pp], .int .i64 move] w (MmV c l p pp ag pn1 ys (lgV c l p pp fe xs (mvV k p pp st sk re xs ys move)) (lgC c l p pp fe xs (mvCd k p pp st sk re xs ys move) (mvV k p pp st sk re xs ys move)) w) := by
  have HS := Lib.hid ((rp_new p s c l st sk re fe ag p1 p2 pn1 pc1 pn2 pc2 pp w 31 41).below (al1 _ (.cells #[.slice none 0 0, .slice none 0 0, .int .i64 0] 41)))
  have HZ := Lib.hid (zeroP_at2 p s c l st sk re fe ag p1 p2 pn1 pc1 pn2 pc2 pp w 31 41 41)
  have HC : Hid (∀ u, RpAt w p s c l st sk re fe ag p1 p2 pn1 pc1 pn2 pc2 pp u → Calls Try.prog 47 #[.pointer (some ⟨w.heap.size, 0, none⟩), .pointer (some ⟨w.heap.size + 1, 0, none⟩), .int .i64 move] u (MrQ c l p pp ag pn1 xs ys move (lgV c l p pp fe xs (mvV k p pp st sk re xs ys move)) (lgC c l p pp fe xs (mvCd k p pp st sk re xs ys move) (mvV k p pp st sk re xs ys move)) u)) := Lib.hid (fun u hu => l07Make_any p s c l st sk re fe ag p1 p2 pn1 pc1 pn2 pc2 pp xs ys _ _ move u hu.1 hu.2.1 (h.below hu.2.2) k hk)
  cases hl : lgV c l p pp fe xs (mvV k p pp st sk re xs ys move) with
  | none =>
    rw [hl] at HC
    generalize lgC c l p pp fe xs (mvCd k p pp st sk re xs ys move) (mvV k p pp st sk re xs ys move) = cd at *
    clear h hk hl
    go_enter Try.func26, Try.ntmps26
    go_upto_region 1 with fail
    generalize ((w.alloc (.cells #[.int .i64 p, .int .i64 s, .bool st, .bool sk, .bool re, .bool fe, .bool ag, .int .i64 c, .int .i64 l] 31)).alloc (.cells #[.slice p1 pn1 pc1, .slice p2 pn2 pc2, .int .i64 pp] 41)).alloc (.cells #[.slice none 0 0, .slice none 0 0, .int .i64 0] 41) = u at *
    go_wp2_with fail
    refine (HC.out _ HS.out).mono ?_
    rintro e w5 ⟨rfl, hb⟩
    have hzu := HZ.out.lt
    have hus := hb.size
    have HS := Lib.hid (HS.out.below hb)
    have HZ2 := Lib.hid (HZ.out.below hb)
    clear hb
    go_upto_region 2 with fail
    have HZ3 := Lib.hid (HZ2.out.below (al1 w5 (.cells #[.int .i64 0, .int .i64 0, .bool false, .slice none 0 0, .slice none 0 0, .int .i64 0] 68)))
    have HO := Lib.hid (ot6_new w5 68 0 0 false (.slice none 0 0) (.slice none 0 0) (.int .i64 0))
    have HB3 := Lib.hid (show OnW w _ from HS.out.2.2.alloc HS.out.2.2.size (.cells #[.int .i64 0, .int .i64 0, .bool false, .slice none 0 0, .slice none 0 0, .int .i64 0] 68))
    have hX : w.heap.size + 1 + 1 < w5.heap.size := by omega
    generalize w5.alloc (.cells #[.int .i64 0, .int .i64 0, .bool false, .slice none 0 0, .slice none 0 0, .int .i64 0] 68) = w6 at *
    generalize w5.heap.size = X at *
    have hne : X ≠ w.heap.size + 1 + 1 := by omega
    have hne' : w.heap.size + 1 + 1 ≠ X := by omega
    obtain ⟨ol, o0, o1, o2, o3, o4, o5, ofr⟩ := HO.out
    obtain ⟨zl, z0, z1, z2, zf⟩ := HZ3.out
    have f0 := zf 0
    have f1 := zf 1
    have f2 := zf 2
    clear zf ofr
    have HT : Hid (∀ u : World, Ot6 u X 0 0 false (.slice none 0 0) (.slice none 0 0) (.int .i64 0) → X < u.heap.size ∧ u.cell? ⟨X, 0, none⟩ = some (.int .i64 0) ∧ u.cell? ⟨X, 1, none⟩ = some (.int .i64 0) ∧ u.cell? ⟨X, 2, none⟩ = some (.bool false) ∧ u.cell? ⟨X, 3, none⟩ = some (.slice none 0 0) ∧ u.cell? ⟨X, 4, none⟩ = some (.slice none 0 0) ∧ u.cell? ⟨X, 5, none⟩ = some (.int .i64 0)) := Lib.hid (fun u h => ⟨h.lt, h.c0, h.c1, h.c2, h.c3, h.c4, h.c5⟩)
    clear ol o0 o1 o2 o3 o4 o5
    go_region_held3 (fun u => X < u.heap.size ∧ u.cell? ⟨X, 0, none⟩ = some (.int .i64 0) ∧ u.cell? ⟨X, 1, none⟩ = some (.int .i64 0) ∧ u.cell? ⟨X, 2, none⟩ = some (.bool false) ∧ u.cell? ⟨X, 3, none⟩ = some (.slice none 0 0) ∧ u.cell? ⟨X, 4, none⟩ = some (.slice none 0 0) ∧ u.cell? ⟨X, 5, none⟩ = some (.int .i64 0)) (first | with_reducible exact HT.out _ HO.out | with_reducible exact HT.out _ HO.out.drew | with_reducible exact HT.out _ (HO.out.but (but3p _ _ _ _ _) hne) | with_reducible exact HT.out _ (HO.out.drew.but (but3p _ _ _ _ _) hne) | with_reducible exact HT.out _ (HO.out.but (but3p _ _ _ _ _) hne).drew)
      (fail)
    go_wp2_with fail
    refine bodyPost_ret (v := .tuple #[.agg #[.slice none 0 0, .slice none 0 0, .int .i64 0], .int .i64 0, .int .i64 cd]) (by simp [results, Try.results26, go_sem, z0, z1, z2]) rfl ?_
    exact posM_zero cd (OnW.drew (OnW.set3 HB3.out (by omega) _ _ _)) (by simp; omega)
  | some m =>
    obtain ⟨hm, hc0⟩ := lg_some (cd := mvCd k p pp st sk re xs ys move) hl
    rw [hl, hc0] at HC
    rw [hc0]
    clear h hk hl hm hc0
    go_enter Try.func26, Try.ntmps26
    go_upto_region 1 with fail
    generalize ((w.alloc (.cells #[.int .i64 p, .int .i64 s, .bool st, .bool sk, .bool re, .bool fe, .bool ag, .int .i64 c, .int .i64 l] 31)).alloc (.cells #[.slice p1 pn1 pc1, .slice p2 pn2 pc2, .int .i64 pp] 41)).alloc (.cells #[.slice none 0 0, .slice none 0 0, .int .i64 0] 41) = u at *
    go_wp2_with fail
    refine (HC.out _ HS.out).mono ?_
    rintro e w5 ⟨g1, k1, g2, k2, rfl, ho, hl1, hl2, hc1, hc2, hb⟩
    have hzu := HZ.out.lt
    have hn1 := ho.o1.new
    have hn2 := ho.o2.new
    have hus := hb.size
    obtain ⟨nx, hnx⟩ : ∃ x, nxV ag pp m = x := ⟨_, rfl⟩
    obtain ⟨gn, hgn⟩ : ∃ x, gnV c l p pp ys m = x := ⟨_, rfl⟩
    obtain ⟨bA, hbA⟩ : ∃ x, agV ag m = x := ⟨_, rfl⟩
    rw [hnx, hgn, hbA]
    have HNx := Lib.hid hnx
    have HGn := Lib.hid hgn
    have HS := Lib.hid (HS.out.below hb)
    have HZ2 := Lib.hid (HZ.out.below hb)
    have HO5 := Lib.hid (show PosO w5 w.heap.size _ _ _ _ _ _ _ _ from ho.lower (by omega))
    clear hb hnx hgn hbA ho
    go_upto_region 2 with fail
    have HZ3 := Lib.hid (HZ2.out.below (al1 w5 (.cells #[.int .i64 move, .int .i64 gn, .bool bA, .slice (some ⟨g1, 0, none⟩) pn1 k1, .slice (some ⟨g2, 0, none⟩) 2 k2, .int .i64 nx] 68)))
    have HO := Lib.hid (ot6_new w5 68 move gn bA (.slice (some ⟨g1, 0, none⟩) pn1 k1) (.slice (some ⟨g2, 0, none⟩) 2 k2) (.int .i64 nx))
    have HB3 := Lib.hid (show OnW w _ from HS.out.2.2.alloc HS.out.2.2.size (.cells #[.int .i64 move, .int .i64 gn, .bool bA, .slice (some ⟨g1, 0, none⟩) pn1 k1, .slice (some ⟨g2, 0, none⟩) 2 k2, .int .i64 nx] 68))
    have HO6 := Lib.hid (PosO.below HO5.out (al1 w5 (.cells #[.int .i64 move, .int .i64 gn, .bool bA, .slice (some ⟨g1, 0, none⟩) pn1 k1, .slice (some ⟨g2, 0, none⟩) 2 k2, .int .i64 nx] 68)))
    have hX : w.heap.size + 1 + 1 < w5.heap.size := by omega
    have hl1' : g1 < (w5.alloc (.cells #[.int .i64 move, .int .i64 gn, .bool bA, .slice (some ⟨g1, 0, none⟩) pn1 k1, .slice (some ⟨g2, 0, none⟩) 2 k2, .int .i64 nx] 68)).heap.size := by simp; omega
    have hl2' : g2 < (w5.alloc (.cells #[.int .i64 move, .int .i64 gn, .bool bA, .slice (some ⟨g1, 0, none⟩) pn1 k1, .slice (some ⟨g2, 0, none⟩) 2 k2, .int .i64 nx] 68)).heap.size := by simp; omega
    generalize w5.alloc (.cells #[.int .i64 move, .int .i64 gn, .bool bA, .slice (some ⟨g1, 0, none⟩) pn1 k1, .slice (some ⟨g2, 0, none⟩) 2 k2, .int .i64 nx] 68) = w6 at *
    generalize w5.heap.size = X at *
    have hne : X ≠ w.heap.size + 1 + 1 := by omega
    have hne' : w.heap.size + 1 + 1 ≠ X := by omega
    obtain ⟨ol, o0, o1, o2, o3, o4, o5, ofr⟩ := HO.out
    obtain ⟨zl, z0, z1, z2, zf⟩ := HZ3.out
    have f0 := zf 0
    have f1 := zf 1
    have f2 := zf 2
    clear zf ofr
    have HT : Hid (∀ u : World, Ot6 u X move gn bA (.slice (some ⟨g1, 0, none⟩) pn1 k1) (.slice (some ⟨g2, 0, none⟩) 2 k2) (.int .i64 nx) → X < u.heap.size ∧ u.cell? ⟨X, 0, none⟩ = some (.int .i64 move) ∧ u.cell? ⟨X, 1, none⟩ = some (.int .i64 gn) ∧ u.cell? ⟨X, 2, none⟩ = some (.bool bA) ∧ u.cell? ⟨X, 3, none⟩ = some (.slice (some ⟨g1, 0, none⟩) pn1 k1) ∧ u.cell? ⟨X, 4, none⟩ = some (.slice (some ⟨g2, 0, none⟩) 2 k2) ∧ u.cell? ⟨X, 5, none⟩ = some (.int .i64 nx)) := Lib.hid (fun u h => ⟨h.lt, h.c0, h.c1, h.c2, h.c3, h.c4, h.c5⟩)
    clear ol o0 o1 o2 o3 o4 o5
    go_region_held3 (fun u => X < u.heap.size ∧ u.cell? ⟨X, 0, none⟩ = some (.int .i64 move) ∧ u.cell? ⟨X, 1, none⟩ = some (.int .i64 gn) ∧ u.cell? ⟨X, 2, none⟩ = some (.bool bA) ∧ u.cell? ⟨X, 3, none⟩ = some (.slice (some ⟨g1, 0, none⟩) pn1 k1) ∧ u.cell? ⟨X, 4, none⟩ = some (.slice (some ⟨g2, 0, none⟩) 2 k2) ∧ u.cell? ⟨X, 5, none⟩ = some (.int .i64 nx)) (first | with_reducible exact HT.out _ HO.out | with_reducible exact HT.out _ HO.out.drew | with_reducible exact HT.out _ (HO.out.but (but3p _ _ _ _ _) hne) | with_reducible exact HT.out _ (HO.out.drew.but (but3p _ _ _ _ _) hne) | with_reducible exact HT.out _ (HO.out.but (but3p _ _ _ _ _) hne).drew)
      (fail)
    go_wp2_with fail
    refine bodyPost_ret (v := .tuple #[.agg #[.slice (some ⟨g1, 0, none⟩) pn1 k1, .slice (some ⟨g2, 0, none⟩) 2 k2, .int .i64 nx], .int .i64 gn, .int .i64 0]) (by simp [results, Try.results26, go_sem, z0, z1, z2]) rfl ?_
    show PosM pn1 2 (nxV ag pp m) (gnV c l p pp ys m) 0 _ _ w _ _
    rw [HNx.out, HGn.out]
    have hbt := but3p (w.heap.size + 1 + 1) w6 (.slice (some ⟨g1, 0, none⟩) pn1 k1) (.slice (some ⟨g2, 0, none⟩) 2 k2) (.int .i64 nx)
    exact ⟨_, _, g1, _, _, g2, rfl, (PosO.but HO6.out hbt (by omega) (by omega)).below (Below.refl _ _).drew, by simpa using hl1', by simpa using hl2', hc1, hc2, OnW.drew (But.lift HB3.out hbt (by omega))⟩
theorem make_ex (p s c l : Int) (st sk re fe ag : Bool) (pn1 pn2 : Nat) (pp : Int) (xs ys : List Int) (move : Int) (l1 : xs.length = pn1) (l2 : ys.length = pn2) :
    ∃ (m1 m2 : Nat) (pl gn cd : Int) (us vs : List Int), m1 ≤ 10000000 ∧ m2 ≤ 10000000 ∧
      (∀ (g1 g2 : Nat) (w : World), PosR w (some ⟨g1, 0, none⟩) (some ⟨g2, 0, none⟩) pn1 pn2 xs ys → Calls Try.prog 26 #[.agg #[.int .i64 p, .int .i64 s, .bool st, .bool sk, .bool re, .bool fe, .bool ag, .int .i64 c, .int .i64 l], .agg #[.slice (some ⟨g1, 0, none⟩) pn1 pn1, .slice (some ⟨g2, 0, none⟩) pn2 pn2, .int .i64 pp], .int .i64 move] w (PosM m1 m2 pl gn cd us vs w)) ∧
      (∀ (g1 g2 : Nat) (w : World), PosR w (some ⟨g1, 0, none⟩) (some ⟨g2, 0, none⟩) pn1 pn2 xs ys → Calls Try.prog 27 #[.agg #[.int .i64 p, .int .i64 s, .bool st, .bool sk, .bool re, .bool fe, .bool ag, .int .i64 c, .int .i64 l], .agg #[.slice (some ⟨g1, 0, none⟩) pn1 pn1, .slice (some ⟨g2, 0, none⟩) pn2 pn2, .int .i64 pp], .int .i64 move] w (PosM m1 m2 pl gn cd us vs w)) := by
  generalize hk : okP (okR p s c l st ag) p pn1 pn2 pp xs ys = k
  have hs := fun g1 g2 w h => specMake_any p s c l st sk re fe ag (some ⟨g1, 0, none⟩) (some ⟨g2, 0, none⟩) pn1 pn1 pn2 pn2 pp xs ys move w h k hk
  have hi := fun g1 g2 w h => implMake_any p s c l st sk re fe ag (some ⟨g1, 0, none⟩) (some ⟨g2, 0, none⟩) pn1 pn1 pn2 pn2 pp xs ys move w h (Nat.le_refl _) k hk
  cases hm : lgV c l p pp fe xs (mvV k p pp st sk re xs ys move) with
  | none =>
    rw [hm] at hs hi
    exact ⟨0, 0, 0, 0, _, [], [], by omega, by omega, hs, hi⟩
  | some m =>
    have e := (lg_some (cd := mvCd k p pp st sk re xs ys move) hm).1
    obtain ⟨-, hn⟩ := mvV_n1 hk l1 e
    rw [hm] at hs hi
    exact ⟨pn1, 2, _, _, 0, _, _, by omega, by omega, hs, hi⟩
end Go.Proofs.Ythbkdlidpdliaaa

/- Lm7: LegalMoves and CanMove of the program. -/
namespace Go.Proofs.Ythbkdlidpdliaaa
open Go.Joins Go.ChangeShapes Go.WideShapes Go.ChangeAt Go.RowKit Go.Deep
set_option linter.unusedVariables false

/-- A row of numbers of a call's own, and a code. -/
def RowC (n : Nat) (cd : Int) (xs : List Int) (w : World) (e : Ending) (w' : World) : Prop :=
  ∃ v, e = .returned (.tuple #[v, .int .i64 cd]) ∧ w'.ownsRow w.heap.size 2 1 v n (nvs xs) ∧ Below w.heap.size w w'
/-- The shape of a row of results. -/
theorem Rs7.shape {u : World} {B : Nat} {v : Value} {L : List (R7 × Q7)} (h : Rs7 u B v L) : ∃ a cap, v = .slice a L.length cap ∧ (L ≠ [] → ∃ g, a = some ⟨g, 0, none⟩) := by
  obtain ⟨h1, ⟨rfl, hn⟩ | ⟨g, cap, cur, rfl, hb, hg, hr⟩⟩ := h.own
  · exact ⟨none, 0, by rw [hn], fun hne => absurd (List.eq_nil_of_length_eq_zero hn) hne⟩
  · exact ⟨_, cap, rfl, fun _ => ⟨g, rfl⟩⟩
def mvs (rs : List R7) : List Int := rs.map R7.mv
theorem mvs_take {L : List (R7 × Q7)} {k : Nat} {x : R7 × Q7} (h : L[k]? = some x) : mvs ((L.take (k + 1)).map Prod.fst) = mvs ((L.take k).map Prod.fst) ++ [x.1.mv] := by
  have hlt : k < L.length := (List.getElem?_eq_some_iff.1 h).1
  rw [List.take_add_one, h]
  simp [mvs]
theorem own_grown {u w' : World} {B B' e e' z z' n n' : Nat} {v x : Value} {xs ys : List Value} (h : u.ownsRow B e z v n xs) (hrow : u.ownsRow B' e' z' x n' ys) (he : e ≠ e') (hg : u.grownBy w' x.ownBlock) : w'.ownsRow B e z v n xs := by
  obtain ⟨h1, h2 | ⟨g, cap, cur, hv, hb, hh, hr⟩⟩ := h
  · exact ⟨h1, .inl h2⟩
  · refine ⟨h1, .inr ⟨g, cap, cur, hv, hb, ?_, hr⟩⟩
    rw [hg.block g (Array.getElem?_eq_some_iff.1 hh).1 ?_]
    · exact hh
    · intro e1
      obtain ⟨_, ⟨rfl, _⟩ | ⟨g', cap', cur', rfl, hb', hh', _⟩⟩ := hrow
      · cases e1
      · simp only [Value.ownBlock, Option.some.injEq] at e1
        subst e1
        rw [hh] at hh'
        simp only [Option.some.injEq, Obj.cells.injEq] at hh'
        exact he hh'.2.1
theorem own7_cell {u : World} {B g n cap : Nat} {L : List (R7 × Q7)} (h : u.ownsRow B 68 6 (.slice (some ⟨g, 0, none⟩) n cap) n (flat7 L)) (hn : L.length = n) {i : Nat} {x : R7 × Q7} (hi : L[i]? = some x) {o : Nat} (ho : o < 6) : u.cell? ⟨g, i * 6 + o, none⟩ = (cells7 x)[o]? := by
  obtain ⟨h1, ⟨e, -⟩ | ⟨g', cap', cur, hv, hb, hg, hn', hc, hs, ht⟩⟩ := h
  · cases e
  · simp only [Value.slice.injEq, Option.some.injEq, Addr.mk.injEq] at hv
    obtain ⟨⟨rfl, -⟩, -, rfl⟩ := hv
    have e := flat7_at L i x hi o ho
    rw [← ht, List.getElem?_take] at e
    have hL : i < L.length := (List.getElem?_eq_some_iff.1 hi).1
    rw [if_pos (by omega)] at e
    rw [← e]
    simp [World.cell?, hg]
/-- Between two results. -/
structure LmJ (w : World) (L : List (R7 × Q7)) (v : Value) (k : Nat) (s : Value) (wr : World) : Prop where
  own : wr.ownsRow w.heap.size 68 6 v L.length (flat7 L)
  row : wr.ownsRow w.heap.size 2 1 s k (nvs (mvs ((L.take k).map Prod.fst)))
  be : Below w.heap.size w wr
set_option maxHeartbeats 4000000 in
set_option maxRecDepth 100000 in
theorem implLegal_no (p s c l : Int) (st sk re fe ag : Bool) (p1 p2 : Option Addr) (pn1 pc1 pn2 pc2 : Nat) (pp : Int) (xs ys : List Int) (w : World) (h : PosR w p1 p2 pn1 pn2 xs ys) (hk : okP (okR p s c l st ag) p pn1 pn2 pp xs ys = false) :
    Calls Try.prog 33 #[.agg #[.int .i64 p, .int .i64 s, .bool st, .bool sk, .bool re, .bool fe, .bool ag, .int .i64 c, .int .i64 l], .agg #[.slice p1 pn1 pc1, .slice p2 pn2 pc2, .int .i64 pp]] w (RowC 0 1 [] w) := by
  have HS := Lib.hid (rp_new p s c l st sk re fe ag p1 p2 pn1 pc1 pn2 pc2 pp w 31 41)
  have HC : Hid (∀ u, Below w.heap.size w u → Calls Try.prog 54 #[.agg #[.int .i64 p, .int .i64 s, .bool st, .bool sk, .bool re, .bool fe, .bool ag, .int .i64 c, .int .i64 l], .agg #[.slice p1 pn1 pc1, .slice p2 pn2 pc2, .int .i64 pp]] u fun e w' => e = .returned (.tuple #[.slice none 0 0, .int .i64 1]) ∧ Below u.heap.size u w') := Lib.hid (fun u hu => implRes_no p s c l st sk re fe ag p1 p2 pn1 pc1 pn2 pc2 pp xs ys u (h.below hu) hk)
  clear h hk
  go_enter Try.func33, Try.ntmps33
  go_wp2_with fail
  refine (HC.out _ HS.out.2.2).mono ?_
  rintro e w5 ⟨rfl, hb⟩
  have HS := Lib.hid (HS.out.below hb)
  clear hb
  go_wp2_with fail
  go_ret2
  exact ⟨_, rfl, World.ownsRow_nil _ _ _ _, HS.out.2.2⟩
set_option maxHeartbeats 4000000 in
set_option maxRecDepth 100000 in
theorem implLegal_yes (p s c l : Int) (st sk re fe ag : Bool) (p1 p2 : Option Addr) (pn1 pc1 pc2 : Nat) (pp : Int) (xs ys : List Int) (w : World) (h : PosR w p1 p2 pn1 2 xs ys) (hcap : pn1 ≤ pc1) (hk : okP (okR p s c l st ag) p pn1 2 pp xs ys = true) :
    Calls Try.prog 33 #[.agg #[.int .i64 p, .int .i64 s, .bool st, .bool sk, .bool re, .bool fe, .bool ag, .int .i64 c, .int .i64 l], .agg #[.slice p1 pn1 pc1, .slice p2 2 pc2, .int .i64 pp]] w (RowC (rsF (f7 p c l pp st sk re fe ag xs ys) p.toNat).length 0 (mvs (rsF (f7 p c l pp st sk re fe ag xs ys) p.toNat)) w) := by
  obtain ⟨q1, -⟩ := okP_parts hk
  obtain ⟨r1, r2, -⟩ := okR_bd q1
  have hlen := rsF_len (f7 p c l pp st sk re fe ag xs ys) p.toNat
  have HS := Lib.hid (rp_new p s c l st sk re fe ag p1 p2 pn1 pc1 2 pc2 pp w 31 41)
  have HC : Hid (∀ u, Below w.heap.size w u → Calls Try.prog 54 #[.agg #[.int .i64 p, .int .i64 s, .bool st, .bool sk, .bool re, .bool fe, .bool ag, .int .i64 c, .int .i64 l], .agg #[.slice p1 pn1 pc1, .slice p2 2 pc2, .int .i64 pp]] u (RsC (rsF (f7 p c l pp st sk re fe ag xs ys) p.toNat) u)) := Lib.hid (fun u hu => implRes_yes p s c l st sk re fe ag p1 p2 pn1 pc1 pc2 pp xs ys u (h.below hu) hcap hk)
  obtain ⟨i0, hi, hz0, hz1, hz2⟩ := info_parts infoN
  have hl8 : (rsF (f7 p c l pp st sk re fe ag xs ys) p.toNat).length ≤ 8 := by omega
  generalize rsF (f7 p c l pp st sk re fe ag xs ys) p.toNat = rs at *
  clear h hk q1 hcap hlen
  go_enter Try.func33, Try.ntmps33
  go_wp2_with fail
  refine (HC.out _ HS.out.2.2).mono ?_
  rintro e w5 ⟨v, L, rfl, hR, hLm, hb⟩
  obtain ⟨a, cap, rfl, hsh⟩ := hR.shape
  have hLn : L.length = rs.length := by rw [← hLm, List.length_map]
  have HLn := Lib.hid hLn
  have HLm := Lib.hid hLm
  have Hsh := Lib.hid hsh
  have hLk : L.length ≤ 8 := by omega
  have HJ0 : Hid (LmJ w L (.slice a L.length cap) 0 (.slice none 0 0) w5) := Lib.hid ⟨(hR.lower HS.out.2.2.size).own, World.ownsRow_nil _ _ _ _, Below.trans HS.out.2.2 (Below.mono hb HS.out.2.2.size)⟩
  have hw5 : w.heap.size + 2 ≤ w5.heap.size := Nat.le_trans HS.out.2.1.1 hb.size
  clear hb hR hLm hsh HS hLn
  generalize hN : L.length = N at *
  have HN := Lib.hid hN
  clear hN
  go_wp2_with fail
  go_loopw [8, 22] (fun sv i wr => ∃ k : Nat, i = .int .i64 k ∧ k ≤ N ∧ LmJ w L (.slice a N cap) k sv wr) (fun _ i _ => N - (intOf i).toNat)
  case atStart => exact ⟨0, rfl, Nat.zero_le _, HJ0.out⟩
  case round =>
    obtain ⟨k, rfl, hkN, hJ⟩ := hrel
    have HJ := Lib.hid hJ
    clear hJ HJ0
    by_cases hlt : k < N
    · obtain ⟨x, hx⟩ : ∃ x, L[k]? = some x := ⟨L[k]'(by rw [HN.out]; exact hlt), List.getElem?_eq_getElem _⟩
      have Hx := Lib.hid hx
      obtain ⟨g, rfl⟩ := Hsh.out (by intro e; subst e; cases hx)
      have hno := HN.out
      have ho := HJ.out.own
      rw [hno] at ho
      have c0 := own7_cell ho hno hx (o := 0) (by omega)
      have c1 := own7_cell ho hno hx (o := 1) (by omega)
      have c2 := own7_cell ho hno hx (o := 2) (by omega)
      have c3 := own7_cell ho hno hx (o := 3) (by omega)
      have c4 := own7_cell ho hno hx (o := 4) (by omega)
      have c5 := own7_cell ho hno hx (o := 5) (by omega)
      simp only [cells7, Nat.add_zero, List.getElem?_cons_zero, List.getElem?_cons_succ] at c0 c1 c2 c3 c4 c5
      clear hx
      have k0 : (0 : Int) ≤ (k : Int) := by omega
      have k1 : (k : Int) < (N : Int) := by omega
      clear ho hno
      have hwr : w.heap.size ≤ wr.heap.size := HJ.out.be.size
      have hbA : Below wr.heap.size wr ((wr.alloc (.cells #[.int .i64 x.1.mv, .int .i64 x.1.gn, .bool x.1.ag, .slice (some ⟨x.2.g1, 0, none⟩) x.2.n1 x.2.k1, .slice (some ⟨x.2.g2, 0, none⟩) 2 x.2.k2, .int .i64 x.1.nx] 68)).alloc (.cells #[.int .i64 x.1.mv] 2)) := Below.alloc (al1 _ _) (by simp) _
      have HbA := Lib.hid hbA
      clear hbA
      go_wp2_with (at_builtin; refine wpList_append_own _ rfl _ _ 24 rfl w.heap.size 2 i0 (.int .i64 0) 1 8 Try.underlying24 hi hz0 hz1 hz2 rfl (by decide) u8 k (nvs (mvs ((L.take k).map Prod.fst))) rfl (own_keep HJ.out.row HbA.out) ⟨_, 0, none⟩ 1 1 (nvs [x.1.mv]) rfl (by simp [nvs]) (row_news (show RowN _ (some ⟨wr.heap.size + 1, 0, none⟩) [x.1.mv] from by have h := row_1 (wr.alloc (.cells #[.int .i64 x.1.mv, .int .i64 x.1.gn, .bool x.1.ag, .slice (some ⟨x.2.g1, 0, none⟩) x.2.n1 x.2.k1, .slice (some ⟨x.2.g2, 0, none⟩) 2 x.2.k2, .int .i64 x.1.nx] 68)) x.1.mv 2; rw [World.size_alloc] at h; exact h)) (nvs_cell _) (by unfold maxLen; omega) (by omega) (by simp; omega) ?_; intro v1 w3 hown1 hgrow1 hnil1)
      have HJ : Hid (LmJ w L (.slice (some ⟨g, 0, none⟩) N cap) (k + 1) v1 w3) := Lib.hid ⟨own_grown (own_keepS HJ.out.own HbA.out) (own_keep HJ.out.row HbA.out) (by decide) hgrow1, by rw [mvs_take Hx.out, nvs_app]; exact hown1, Below.grown (Below.trans HJ.out.be (Below.mono HbA.out hwr)) hgrow1 (by simp; omega) (fun q hq => (own_lt HJ.out.row q hq).1)⟩
      clear hown1 hgrow1 hnil1 c0 c1 c2 c3 c4 c5
      go_wp2_with fail
      go_roundw
      case rel => exact ⟨k + 1, by go_num, by omega, HJ.out⟩
      case measure => simp [intOf]; omega
    · obtain rfl : k = N := by omega
      have k1 : ¬ (k : Int) < (k : Int) := by omega
      go_wp2_with fail
      go_ret2
      have hr := HJ.out.row
      rw [List.take_of_length_le (Nat.le_of_eq HN.out), HLm.out] at hr
      rw [← HLn.out]
      exact ⟨_, rfl, hr, HJ.out.be⟩
set_option maxHeartbeats 4000000 in
set_option maxRecDepth 100000 in
theorem implCan_any (p s c l : Int) (st sk re fe ag : Bool) (p1 p2 : Option Addr) (pn1 pc1 pn2 pc2 : Nat) (pp : Int) (xs ys : List Int) (w : World) (h : PosR w p1 p2 pn1 pn2 xs ys) (hcap : pn1 ≤ pc1) (k : Bool) (hk : okP (okR p s c l st ag) p pn1 pn2 pp xs ys = k) :
    Calls Try.prog 31 #[.agg #[.int .i64 p, .int .i64 s, .bool st, .bool sk, .bool re, .bool fe, .bool ag, .int .i64 c, .int .i64 l], .agg #[.slice p1 pn1 pc1, .slice p2 pn2 pc2, .int .i64 pp]] w fun e w' => e = .returned (.bool (k && decide (0 < (rsF (f7 p c l pp st sk re fe ag xs ys) p.toNat).length))) ∧ Below w.heap.size w w' := by
  have HS := Lib.hid (rp_new p s c l st sk re fe ag p1 p2 pn1 pc1 pn2 pc2 pp w 31 41)
  obtain ⟨n, cd, L, hn, hC⟩ : ∃ (n : Nat) (cd : Int) (L : List Int), (k && decide (0 < (rsF (f7 p c l pp st sk re fe ag xs ys) p.toNat).length)) = decide (0 < n) ∧ ∀ u, Below w.heap.size w u → Calls Try.prog 33 #[.agg #[.int .i64 p, .int .i64 s, .bool st, .bool sk, .bool re, .bool fe, .bool ag, .int .i64 c, .int .i64 l], .agg #[.slice p1 pn1 pc1, .slice p2 pn2 pc2, .int .i64 pp]] u (RowC n cd L u) := by
    cases k with
    | false => exact ⟨0, 1, [], rfl, fun u hu => implLegal_no p s c l st sk re fe ag p1 p2 pn1 pc1 pn2 pc2 pp xs ys u (h.below hu) hk⟩
    | true =>
      obtain ⟨rfl, -⟩ := pl_of_ok hk
      exact ⟨_, 0, _, rfl, fun u hu => implLegal_yes p s c l st sk re fe ag p1 p2 pn1 pc1 pc2 pp xs ys u (h.below hu) hcap hk⟩
  rw [hn]
  have HC := Lib.hid hC
  clear h hk hC hcap hn
  go_enter Try.func31, Try.ntmps31
  go_wp2_with fail
  refine (HC.out _ HS.out.2.2).mono ?_
  rintro e w5 ⟨v, rfl, hown, hb⟩
  obtain ⟨a, cap, rfl⟩ : ∃ a cap, v = .slice a n cap := by
    obtain ⟨h1, ⟨rfl, hn⟩ | ⟨g, cap, cur, rfl, hb, hg, hr⟩⟩ := hown
    · exact ⟨none, 0, by rw [hn]⟩
    · exact ⟨_, cap, rfl⟩
  have HS := Lib.hid (HS.out.below hb)
  clear hb hown
  go_wp2_with fail
  go_ret
  exact ⟨by simp, HS.out.2.2⟩
end Go.Proofs.Ythbkdlidpdliaaa

/- LmS: LegalMoves and CanMove of the reference. -/
namespace Go.Proofs.Ythbkdlidpdliaaa
open Go.Joins Go.ChangeShapes Go.WideShapes Go.ChangeAt Go.RowKit Go.Deep
set_option linter.unusedVariables false

set_option maxHeartbeats 4000000 in
set_option maxRecDepth 100000 in
theorem specLegal_no (p s c l : Int) (st sk re fe ag : Bool) (p1 p2 : Option Addr) (pn1 pc1 pn2 pc2 : Nat) (pp : Int) (xs ys : List Int) (w : World) (h : PosR w p1 p2 pn1 pn2 xs ys) (hk : okP (okR p s c l st ag) p pn1 pn2 pp xs ys = false) :
    Calls Try.prog 32 #[.agg #[.int .i64 p, .int .i64 s, .bool st, .bool sk, .bool re, .bool fe, .bool ag, .int .i64 c, .int .i64 l], .agg #[.slice p1 pn1 pc1, .slice p2 pn2 pc2, .int .i64 pp]] w (RowC 0 1 [] w) := by
  have HS := Lib.hid (rp_new p s c l st sk re fe ag p1 p2 pn1 pc1 pn2 pc2 pp w 31 41)
  have HC : Hid (∀ u, RpAt w p s c l st sk re fe ag p1 p2 pn1 pc1 pn2 pc2 pp u → Calls Try.prog 52 #[.pointer (some ⟨w.heap.size, 0, none⟩), .pointer (some ⟨w.heap.size + 1, 0, none⟩)] u (Still (.bool false) u)) := Lib.hid (fun u hu => l04Ok_at p s c l st sk re fe ag p1 p2 pn1 pc1 pn2 pc2 pp xs ys _ _ u hu.1 hu.2.1 (h.below hu.2.2) _ hk)
  clear h hk
  go_enter Try.func32, Try.ntmps32
  go_wp2_with fail
  refine (HC.out _ HS.out).mono ?_
  rintro e w5 ⟨rfl, m, rfl⟩
  have HS := Lib.hid (HS.out.below (below_dn (Below.refl _ _) m))
  go_wp2_with fail
  go_ret2
  exact ⟨_, rfl, World.ownsRow_nil _ _ _ _, HS.out.2.2⟩
set_option maxHeartbeats 4000000 in
set_option maxRecDepth 100000 in
theorem specLegal_yes (p s c l : Int) (st sk re fe ag : Bool) (p1 p2 : Option Addr) (pn1 pc1 pc2 : Nat) (pp : Int) (xs ys : List Int) (w : World) (h : PosR w p1 p2 pn1 2 xs ys) (hk : okP (okR p s c l st ag) p pn1 2 pp xs ys = true) :
    Calls Try.prog 32 #[.agg #[.int .i64 p, .int .i64 s, .bool st, .bool sk, .bool re, .bool fe, .bool ag, .int .i64 c, .int .i64 l], .agg #[.slice p1 pn1 pc1, .slice p2 2 pc2, .int .i64 pp]] w (RowC (rsF (f7 p c l pp st sk re fe ag xs ys) p.toNat).length 0 (mvs (rsF (f7 p c l pp st sk re fe ag xs ys) p.toNat)) w) := by
  obtain ⟨q1, -⟩ := okP_parts hk
  obtain ⟨r1, r2, -⟩ := okR_bd q1
  have hlen := rsF_len (f7 p c l pp st sk re fe ag xs ys) p.toNat
  have HS := Lib.hid (rp_new p s c l st sk re fe ag p1 p2 pn1 pc1 2 pc2 pp w 31 41)
  have HK : Hid (∀ u, RpAt w p s c l st sk re fe ag p1 p2 pn1 pc1 2 pc2 pp u → Calls Try.prog 52 #[.pointer (some ⟨w.heap.size, 0, none⟩), .pointer (some ⟨w.heap.size + 1, 0, none⟩)] u (Still (.bool true) u)) := Lib.hid (fun u hu => l04Ok_at p s c l st sk re fe ag p1 p2 pn1 pc1 2 pc2 pp xs ys _ _ u hu.1 hu.2.1 (h.below hu.2.2) _ hk)
  have HC : Hid (∀ u, RpAt w p s c l st sk re fe ag p1 p2 pn1 pc1 2 pc2 pp u → Calls Try.prog 53 #[.pointer (some ⟨w.heap.size, 0, none⟩), .pointer (some ⟨w.heap.size + 1, 0, none⟩)] u (RsP (rsF (f7 p c l pp st sk re fe ag xs ys) p.toNat) u)) := Lib.hid (fun u hu => l07All_any p s c l st sk re fe ag p1 p2 pn1 pc1 2 pc2 pp xs ys _ _ u hu.1 hu.2.1 (h.below hu.2.2) hk)
  obtain ⟨i0, hi, hz0, hz1, hz2⟩ := info_parts infoN
  have hl8 : (rsF (f7 p c l pp st sk re fe ag xs ys) p.toNat).length ≤ 8 := by omega
  generalize rsF (f7 p c l pp st sk re fe ag xs ys) p.toNat = rs at *
  clear h hk q1 hlen
  go_enter Try.func32, Try.ntmps32
  go_wp2_with fail
  refine (HK.out _ HS.out).mono ?_
  rintro e w4 ⟨rfl, m, rfl⟩
  have HS := Lib.hid (HS.out.below (below_dn (Below.refl _ _) m))
  generalize (((w.alloc (.cells #[.int .i64 p, .int .i64 s, .bool st, .bool sk, .bool re, .bool fe, .bool ag, .int .i64 c, .int .i64 l] 31)).alloc (.cells #[.slice p1 pn1 pc1, .slice p2 2 pc2, .int .i64 pp] 41)).drewN m) = w4 at *
  go_upto_region 4 with fail
  have hrow0 := World.ownsRow_made (e := 2) (size := 1) w4 #[] 0 (Nat.le_refl _) (by decide) rfl
  have HRow := Lib.hid (own_lower hrow0 HS.out.2.2.size)
  have HS := Lib.hid (HS.out.below (al1 w4 (.cells #[] 2)))
  generalize w4.alloc (.cells #[] 2) = w6 at *
  generalize w4.heap.size = G0 at *
  clear hrow0
  go_wp2_with fail
  refine (HC.out _ HS.out).mono ?_
  rintro e w5 ⟨v, L, rfl, hR, hLm, hb⟩
  obtain ⟨a, cap, rfl, hsh⟩ := hR.shape
  have hLn : L.length = rs.length := by rw [← hLm, List.length_map]
  have HLn := Lib.hid hLn
  have HLm := Lib.hid hLm
  have Hsh := Lib.hid hsh
  have hLk : L.length ≤ 8 := by omega
  have HJ0 : Hid (LmJ w L (.slice a L.length cap) 0 (.slice (some ⟨G0, 0, none⟩) 0 0) w5) := Lib.hid ⟨(hR.lower HS.out.2.2.size).own, own_keep HRow.out hb, Below.trans HS.out.2.2 (Below.mono hb HS.out.2.2.size)⟩
  clear hb hR hLm hsh HS hLn HRow
  generalize hN : L.length = N at *
  have HN := Lib.hid hN
  clear hN
  go_wp2_with fail
  go_loopw [6, 8] (fun sv i wr => ∃ k : Nat, i = .int .i64 k ∧ k ≤ N ∧ LmJ w L (.slice a N cap) k sv wr) (fun _ i _ => N - (intOf i).toNat)
  case atStart => exact ⟨0, rfl, Nat.zero_le _, HJ0.out⟩
  case round =>
    obtain ⟨k, rfl, hkN, hJ⟩ := hrel
    have HJ := Lib.hid hJ
    clear hJ HJ0
    by_cases hlt : k < N
    · obtain ⟨x, hx⟩ : ∃ x, L[k]? = some x := ⟨L[k]'(by rw [HN.out]; exact hlt), List.getElem?_eq_getElem _⟩
      have Hx := Lib.hid hx
      obtain ⟨g, rfl⟩ := Hsh.out (by intro e; subst e; cases hx)
      have hno := HN.out
      have ho := HJ.out.own
      rw [hno] at ho
      have c0 := own7_cell ho hno hx (o := 0) (by omega)
      simp only [cells7, Nat.add_zero, List.getElem?_cons_zero] at c0
      clear hx
      have k0 : (0 : Int) ≤ (k : Int) := by omega
      have k1 : (k : Int) < (N : Int) := by omega
      clear ho hno
      have hwr : w.heap.size ≤ wr.heap.size := HJ.out.be.size
      go_wp2_with (at_builtin; refine wpList_append_own _ rfl _ _ 24 rfl w.heap.size 2 i0 (.int .i64 0) 1 8 Try.underlying24 hi hz0 hz1 hz2 rfl (by decide) u6 k (nvs (mvs ((L.take k).map Prod.fst))) rfl (own_keep HJ.out.row (al1 _ _)) ⟨_, 0, none⟩ 1 1 (nvs [x.1.mv]) rfl (by simp [nvs]) (row_news (row_1 wr x.1.mv 2)) (nvs_cell _) (by unfold maxLen; omega) (by omega) (by simp; omega) ?_; intro v1 w3 hown1 hgrow1 hnil1)
      have HJ : Hid (LmJ w L (.slice (some ⟨g, 0, none⟩) N cap) (k + 1) v1 w3) := Lib.hid ⟨own_grown (own_keepS HJ.out.own (al1 _ _)) (own_keep HJ.out.row (al1 _ _)) (by decide) hgrow1, by rw [mvs_take Hx.out, nvs_app]; exact hown1, Below.grown (Below.trans HJ.out.be (Below.mono (al1 _ _) hwr)) hgrow1 (by simp; omega) (fun q hq => (own_lt HJ.out.row q hq).1)⟩
      clear hown1 hgrow1 hnil1 c0
      go_wp2_with fail
      go_roundw
      case rel => exact ⟨k + 1, by go_num, by omega, HJ.out⟩
      case measure => simp [intOf]; omega
    · obtain rfl : k = N := by omega
      have k1 : ¬ (k : Int) < (k : Int) := by omega
      go_wp2_with fail
      go_ret2
      have hr := HJ.out.row
      rw [List.take_of_length_le (Nat.le_of_eq HN.out), HLm.out] at hr
      rw [← HLn.out]
      exact ⟨_, rfl, hr, HJ.out.be⟩
set_option maxHeartbeats 4000000 in
set_option maxRecDepth 100000 in
theorem specCan_any (p s c l : Int) (st sk re fe ag : Bool) (p1 p2 : Option Addr) (pn1 pc1 pn2 pc2 : Nat) (pp : Int) (xs ys : List Int) (w : World) (h : PosR w p1 p2 pn1 pn2 xs ys) (k : Bool) (hk : okP (okR p s c l st ag) p pn1 pn2 pp xs ys = k) :
    Calls Try.prog 30 #[.agg #[.int .i64 p, .int .i64 s, .bool st, .bool sk, .bool re, .bool fe, .bool ag, .int .i64 c, .int .i64 l], .agg #[.slice p1 pn1 pc1, .slice p2 pn2 pc2, .int .i64 pp]] w fun e w' => e = .returned (.bool (k && decide (0 < (rsF (f7 p c l pp st sk re fe ag xs ys) p.toNat).length))) ∧ Below w.heap.size w w' := by
  have HS := Lib.hid (rp_new p s c l st sk re fe ag p1 p2 pn1 pc1 pn2 pc2 pp w 31 41)
  have HK : Hid (∀ u, RpAt w p s c l st sk re fe ag p1 p2 pn1 pc1 pn2 pc2 pp u → Calls Try.prog 52 #[.pointer (some ⟨w.heap.size, 0, none⟩), .pointer (some ⟨w.heap.size + 1, 0, none⟩)] u (Still (.bool k) u)) := Lib.hid (fun u hu => l04Ok_at p s c l st sk re fe ag p1 p2 pn1 pc1 pn2 pc2 pp xs ys _ _ u hu.1 hu.2.1 (h.below hu.2.2) _ hk)
  have HC : Hid (k = true → ∀ u, RpAt w p s c l st sk re fe ag p1 p2 pn1 pc1 pn2 pc2 pp u → Calls Try.prog 53 #[.pointer (some ⟨w.heap.size, 0, none⟩), .pointer (some ⟨w.heap.size + 1, 0, none⟩)] u (RsP (rsF (f7 p c l pp st sk re fe ag xs ys) p.toNat) u)) := Lib.hid (fun hkt u hu => l07All_any p s c l st sk re fe ag p1 p2 pn1 pc1 pn2 pc2 pp xs ys _ _ u hu.1 hu.2.1 (h.below hu.2.2) (hk.trans hkt))
  generalize rsF (f7 p c l pp st sk re fe ag xs ys) p.toNat = rs at *
  clear h hk
  go_enter Try.func30, Try.ntmps30
  go_wp2_with fail
  refine (HK.out _ HS.out).mono ?_
  rintro e w4 ⟨rfl, m, rfl⟩
  have HS := Lib.hid (HS.out.below (below_dn (Below.refl _ _) m))
  cases k with
  | false =>
    go_wp2_with fail
    go_ret
    exact ⟨rfl, HS.out.2.2⟩
  | true =>
    have HC2 : Hid (∀ u, RpAt w p s c l st sk re fe ag p1 p2 pn1 pc1 pn2 pc2 pp u → Calls Try.prog 53 #[.pointer (some ⟨w.heap.size, 0, none⟩), .pointer (some ⟨w.heap.size + 1, 0, none⟩)] u (RsP rs u)) := Lib.hid (HC.out rfl)
    clear HC
    go_wp2_with fail
    refine (HC2.out _ HS.out).mono ?_
    rintro e w5 ⟨v, L, rfl, hR, hLm, hb⟩
    obtain ⟨a, cap, rfl, -⟩ := hR.shape
    have HLn : Hid (L.length = rs.length) := Lib.hid (by rw [← hLm, List.length_map])
    have HS := Lib.hid (HS.out.below hb)
    clear hb hR hLm
    go_wp2_with fail
    go_ret
    exact ⟨by rw [← HLn.out]; simp, HS.out.2.2⟩
theorem legal_ex (p s c l : Int) (st sk re fe ag : Bool) (pn1 pn2 : Nat) (pp : Int) (xs ys : List Int) (l1 : xs.length = pn1) (l2 : ys.length = pn2) : ∃ (L : List Int) (n : Nat) (cd : Int), L.length = n ∧ n ≤ 1000000 ∧
    (∀ (a1 a2 : Option Addr) (u : World), PosR u a1 a2 pn1 pn2 xs ys → Calls Try.prog 32 #[.agg #[.int .i64 p, .int .i64 s, .bool st, .bool sk, .bool re, .bool fe, .bool ag, .int .i64 c, .int .i64 l], .agg #[.slice a1 pn1 pn1, .slice a2 pn2 pn2, .int .i64 pp]] u (RowC n cd L u)) ∧
    (∀ (a1 a2 : Option Addr) (u : World), PosR u a1 a2 pn1 pn2 xs ys → Calls Try.prog 33 #[.agg #[.int .i64 p, .int .i64 s, .bool st, .bool sk, .bool re, .bool fe, .bool ag, .int .i64 c, .int .i64 l], .agg #[.slice a1 pn1 pn1, .slice a2 pn2 pn2, .int .i64 pp]] u (RowC n cd L u)) := by
  rcases hk : okP (okR p s c l st ag) p pn1 pn2 pp xs ys with _ | _
  · exact ⟨[], 0, 1, rfl, by omega, fun a1 a2 u h => specLegal_no p s c l st sk re fe ag _ _ _ _ _ _ _ xs ys u h hk, fun a1 a2 u h => implLegal_no p s c l st sk re fe ag _ _ _ _ _ _ _ xs ys u h hk⟩
  · obtain ⟨rfl, -⟩ := pl_of_ok hk
    have hlen := rsF_len (f7 p c l pp st sk re fe ag xs ys) p.toNat
    obtain ⟨r1, r2, -⟩ := okR_bd (okP_parts hk).1
    exact ⟨_, _, 0, by simp [mvs], by omega, fun a1 a2 u h => specLegal_yes p s c l st sk re fe ag _ _ _ _ _ _ xs ys u h hk, fun a1 a2 u h => implLegal_yes p s c l st sk re fe ag _ _ _ _ _ _ xs ys u h (Nat.le_refl _) hk⟩
end Go.Proofs.Ythbkdlidpdliaaa

/- RinP: A row that a law keeps in a block of its own, beside rules and a position. -/
namespace Go.Proofs.Ythbkdlidpdliaaa
open Go.Joins Go.ChangeShapes Go.WideShapes Go.ChangeAt Go.RowKit Go.Deep
set_option linter.unusedVariables false

/-- A row in a block of its own, from lo up to hi. -/
def RIn (u : World) (lo hi : Nat) (a : Option Addr) (b : Nat) (L : List Int) : Prop := OutN u lo a b L ∧ (L ≠ [] → b < hi) ∧ hi ≤ u.heap.size
section
variable {u v : World} {lo hi b c d : Nat} {a : Option Addr} {L : List Int}
theorem RIn.below (h : RIn u lo hi a b L) (k : Below u.heap.size u v) : RIn v lo hi a b L := ⟨h.1.below k, h.2.1, Nat.le_trans h.2.2 k.size⟩
theorem RIn.drew (h : RIn u lo hi a b L) : RIn u.drew lo hi a b L := h.below (Below.refl _ _).drew
theorem RIn.but2 (h : RIn u lo hi a b L) (k : But2 c d u v) (hc : hi ≤ c ∨ c < lo) (hd : hi ≤ d ∨ d < lo) : RIn v lo hi a b L := by
  obtain ⟨ho, hlt, hs⟩ := h
  refine ⟨?_, hlt, Nat.le_trans hs k.size⟩
  by_cases hne : L = []
  · subst hne
    exact ⟨rowN_nil _ _, ho.at_b, ho.new, fun h => absurd rfl h⟩
  · have h1 := hlt hne
    have h2 := ho.new
    exact ho.but2 k (by omega) (by omega)
end
theorem rin_own {u : World} {lo n : Nat} {v : Value} {L : List Int} (h : u.ownsRow lo 2 1 v n (nvs L)) (hn : L.length = n) (hle : n ≤ 1000000) : ∃ a c b, v = .slice a n c ∧ RIn u lo u.heap.size a b L := by
  by_cases hne : L = []
  · subst hne
    obtain ⟨_, ⟨hv, h0⟩ | ⟨g, cap, cur, hv, hb, _⟩⟩ := h
    · subst h0
      exact ⟨none, 0, lo, hv, ⟨rowN_nil _ _, (fun _ _ e => by cases e), Nat.le_refl _, fun h => absurd rfl h⟩, (fun h => absurd rfl h), Nat.le_refl _⟩
    · exact ⟨_, cap, g, hv, ⟨rowN_nil _ _, (fun _ _ e => by cases e; rfl), hb, fun h => absurd rfl h⟩, (fun h => absurd rfl h), Nat.le_refl _⟩
  · obtain ⟨c, b, hv, ho, hlt, _⟩ := outN_own h hn (by omega) hne
    exact ⟨_, c, b, hv, ho, (fun _ => hlt), Nat.le_refl _⟩
/-- Rows of a copy of the argument. -/
def XIn (u : World) (lo x1 x2 n1 n2 : Nat) (xs ys : List Int) : Prop := PosO u lo (some ⟨x1, 0, none⟩) (some ⟨x2, 0, none⟩) x1 x2 n1 n2 xs ys
theorem XIn.below {u v : World} {lo x1 x2 n1 n2 : Nat} {xs ys : List Int} (h : XIn u lo x1 x2 n1 n2 xs ys) (k : Below u.heap.size u v) : XIn v lo x1 x2 n1 n2 xs ys := PosO.below h k
theorem XIn.drew {u : World} {lo x1 x2 n1 n2 : Nat} {xs ys : List Int} (h : XIn u lo x1 x2 n1 n2 xs ys) : XIn u.drew lo x1 x2 n1 n2 xs ys := PosO.below h (Below.refl _ _).drew
/-- The marks in a row. -/
def GIn (u : World) (lo : Nat) (a : Option Addr) (b n : Nat) : Prop := OutN u lo a b (marksN 1 n)
theorem GIn.below {u v : World} {lo b n : Nat} {a : Option Addr} (h : GIn u lo a b n) (k : Below u.heap.size u v) : GIn v lo a b n := OutN.below h k
theorem GIn.drew {u : World} {lo b n : Nat} {a : Option Addr} (h : GIn u lo a b n) : GIn u.drew lo a b n := OutN.below h (Below.refl _ _).drew
end Go.Proofs.Ythbkdlidpdliaaa
