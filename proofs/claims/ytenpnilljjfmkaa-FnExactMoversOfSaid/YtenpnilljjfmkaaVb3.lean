/- Res7, Run8, Rm8, Ps8, Mk11, Mk12, GameO, Game1, Game2, Game3, Game4, Game5, Game6, Off8, Game7, Rn8, one after the other. No conditions. -/
import Derived.Test.YtenpnilljjfmkaaVb2
import Derived.Test.YtenpnilljjfmkaaOwn4
import Derived.Deep.AppendLies
import Derived.Test.YtenpnilljjfmkaaOpenP
import Derived.Test.YtenpnilljjfmkaaPosZ
import Derived.Deep.MidRow
import Derived.Deep.Cut
import Derived.Test.YtenpnilljjfmkaaView4
/- Res7 -/
namespace Go.Proofs.Ytenpnilljjfmkaa
open Go.Joins Go.ChangeShapes Go.WideShapes Go.ChangeAt Go.RowKit Go.Deep
set_option linter.unusedVariables false

/-- A result as numbers. -/
structure R7 where
  mv : Int
  gn : Int
  ag : Bool
  nx : Int
  xs : List Int
  ys : List Int
/-- Where the rows of a result lie. -/
structure Q7 where
  g1 : Nat
  g2 : Nat
  n1 : Nat
  k1 : Nat
  k2 : Nat
def cells7 (x : R7 × Q7) : List Value := [.int .i64 x.1.mv, .int .i64 x.1.gn, .bool x.1.ag, .slice (some ⟨x.2.g1, 0, none⟩) x.2.n1 x.2.k1, .slice (some ⟨x.2.g2, 0, none⟩) 2 x.2.k2, .int .i64 x.1.nx]
def flat7 (L : List (R7 × Q7)) : List Value := L.flatMap cells7
theorem cells7_one (x : R7 × Q7) : ∀ u ∈ cells7 x, u.oneCell' = true := by
  intro u hu
  simp only [cells7, List.mem_cons, List.not_mem_nil, or_false] at hu
  rcases hu with rfl | rfl | rfl | rfl | rfl | rfl <;> rfl
theorem flat7_len (L : List (R7 × Q7)) : (flat7 L).length = L.length * 6 := by
  induction L with
  | nil => rfl
  | cons x r ih =>
    have e : flat7 (x :: r) = cells7 x ++ flat7 r := by simp [flat7]
    rw [e, List.length_append, ih, List.length_cons]
    have : (cells7 x).length = 6 := rfl
    omega
theorem flat7_snoc (L : List (R7 × Q7)) (x : R7 × Q7) : flat7 (L ++ [x]) = flat7 L ++ cells7 x := by simp [flat7]
theorem flat7_at : ∀ (L : List (R7 × Q7)) (i : Nat) (x : R7 × Q7), L[i]? = some x → ∀ o, o < 6 → (flat7 L)[i * 6 + o]? = (cells7 x)[o]?
  | [], _, _, h, _, _ => by cases h
  | y :: r, 0, x, h, o, ho => by
    cases h
    have e : flat7 (y :: r) = cells7 y ++ flat7 r := by simp [flat7]
    rw [e, Nat.zero_mul, Nat.zero_add, List.getElem?_append_left (by show o < 6; exact ho)]
  | y :: r, i + 1, x, h, o, ho => by
    have e : flat7 (y :: r) = cells7 y ++ flat7 r := by simp [flat7]
    rw [e, List.getElem?_append_right (by show 6 ≤ _; omega)]
    have := flat7_at r i x (by simpa using h) o ho
    rw [← this]
    congr 1
    show (i + 1) * 6 + o - 6 = _
    omega
/-- A result's rows in blocks of their own. -/
structure It7 (u : World) (B : Nat) (x : R7 × Q7) : Prop where
  o : PosO u B (some ⟨x.2.g1, 0, none⟩) (some ⟨x.2.g2, 0, none⟩) x.2.g1 x.2.g2 x.2.n1 2 x.1.xs x.1.ys
  l1 : x.2.g1 < u.heap.size
  l2 : x.2.g2 < u.heap.size
  k1 : x.2.n1 ≤ x.2.k1
  k2 : 2 ≤ x.2.k2
def Far7 (x y : R7 × Q7) : Prop := x.2.g1 ≠ y.2.g1 ∧ x.2.g1 ≠ y.2.g2 ∧ x.2.g2 ≠ y.2.g1 ∧ x.2.g2 ≠ y.2.g2
/-- A row of results that a call owns. -/
structure Rs7 (u : World) (B : Nat) (v : Value) (L : List (R7 × Q7)) : Prop where
  own : u.ownsRow B 94 6 v L.length (flat7 L)
  it : ∀ x ∈ L, It7 u B x
  ne : ∀ x ∈ L, ∀ k, v.ownBlock = some k → k ≠ x.2.g1 ∧ k ≠ x.2.g2
  pw : L.Pairwise Far7
theorem own_keepS {w w' : World} {B e s n : Nat} {v : Value} {xs : List Value} (h : w.ownsRow B e s v n xs) (k : Below w.heap.size w w') : w'.ownsRow B e s v n xs := by
  obtain ⟨h1, h2 | ⟨g, cap, cur, hv, hb, hg, hr⟩⟩ := h
  · exact ⟨h1, .inl h2⟩
  · exact ⟨h1, .inr ⟨g, cap, cur, hv, hb, by rw [k.block g (Array.getElem?_eq_some_iff.1 hg).1]; exact hg, hr⟩⟩
theorem own_lt {w : World} {B e s n : Nat} {v : Value} {xs : List Value} (h : w.ownsRow B e s v n xs) (k : Nat) (hk : v.ownBlock = some k) : B ≤ k ∧ k < w.heap.size := by
  obtain ⟨h1, ⟨rfl, -⟩ | ⟨g, cap, cur, rfl, hb, hg, hr⟩⟩ := h
  · cases hk
  · simp only [Value.ownBlock, Option.some.injEq] at hk
    subst hk
    exact ⟨hb, (Array.getElem?_eq_some_iff.1 hg).1⟩
theorem PosO.grown {u v : World} {B b1 b2 n1 n2 : Nat} {a1 a2 : Option Addr} {xs ys : List Int} {row : Option Nat} (h : PosO u B a1 a2 b1 b2 n1 n2 xs ys) (hg : u.grownBy v row) (h1 : ∀ k, row = some k → k ≠ b1) (h2 : ∀ k, row = some k → k ≠ b2) : PosO v B a1 a2 b1 b2 n1 n2 xs ys :=
  ⟨h.o1.grown hg h1, h.o2.grown hg h2, h.ne, h.l1, h.l2⟩
theorem It7.below {u v : World} {B : Nat} {x : R7 × Q7} (h : It7 u B x) (k : Below u.heap.size u v) : It7 v B x :=
  ⟨h.o.below k, Nat.lt_of_lt_of_le h.l1 k.size, Nat.lt_of_lt_of_le h.l2 k.size, h.k1, h.k2⟩
theorem It7.grown {u v : World} {B : Nat} {x : R7 × Q7} {row : Option Nat} (h : It7 u B x) (hg : u.grownBy v row) (hr : ∀ k, row = some k → k ≠ x.2.g1 ∧ k ≠ x.2.g2) : It7 v B x :=
  ⟨h.o.grown hg (fun k hk => (hr k hk).1) (fun k hk => (hr k hk).2), Nat.lt_of_lt_of_le h.l1 hg.size, Nat.lt_of_lt_of_le h.l2 hg.size, h.k1, h.k2⟩
theorem Rs7.below {u v : World} {B : Nat} {x : Value} {L : List (R7 × Q7)} (h : Rs7 u B x L) (k : Below u.heap.size u v) : Rs7 v B x L :=
  ⟨own_keepS h.own k, fun y hy => (h.it y hy).below k, h.ne, h.pw⟩
theorem Rs7.drew {u : World} {B : Nat} {x : Value} {L : List (R7 × Q7)} (h : Rs7 u B x L) : Rs7 u.drew B x L := h.below (Below.refl _ _).drew
theorem rs7_nil (u : World) (B : Nat) : Rs7 u B (.slice none 0 0) [] :=
  ⟨World.ownsRow_nil _ _ _ _, (fun _ h => by cases h), (fun _ h => by cases h), List.Pairwise.nil⟩
theorem Rs7.snoc {u u' w1 : World} {B H0 g cap : Nat} {v : Value} {L : List (R7 × Q7)} {x : R7 × Q7} (h : Rs7 u B v L) (hx : It7 u B x) (hf : ∀ y ∈ L, y.2.g1 < H0 ∧ y.2.g2 < H0) (hv : ∀ k, v.ownBlock = some k → k < H0) (hx1 : H0 ≤ x.2.g1) (hx2 : H0 ≤ x.2.g2) (hu : Below u.heap.size u u')
    (hown : w1.ownsRow B 94 6 (.slice (some ⟨g, 0, none⟩) (L.length + 1) cap) (L.length + 1) (flat7 L ++ cells7 x)) (hg : u'.grownBy w1 v.ownBlock) (hat : v.ownBlock = some g ∨ g = u'.heap.size) :
    Rs7 w1 B (.slice (some ⟨g, 0, none⟩) (L.length + 1) cap) (L ++ [x]) := by
  have hgx : g ≠ x.2.g1 ∧ g ≠ x.2.g2 := by
    rcases hat with e | e
    · have := hv _ e
      omega
    · have h1 := Nat.lt_of_lt_of_le hx.l1 hu.size
      have h2 := Nat.lt_of_lt_of_le hx.l2 hu.size
      omega
  have hgy : ∀ y ∈ L, g ≠ y.2.g1 ∧ g ≠ y.2.g2 := by
    intro y hy
    rcases hat with e | e
    · exact h.ne y hy g e
    · have h1 := Nat.lt_of_lt_of_le (h.it y hy).l1 hu.size
      have h2 := Nat.lt_of_lt_of_le (h.it y hy).l2 hu.size
      omega
  refine ⟨by rw [List.length_append, List.length_singleton, flat7_snoc]; exact hown, fun y hy => ?_, fun y hy k hk => ?_, ?_⟩
  · rcases List.mem_append.1 hy with hy | hy
    · exact ((h.it y hy).below hu).grown hg (fun k hk => h.ne y hy k hk)
    · rw [List.mem_singleton] at hy
      subst hy
      exact (hx.below hu).grown hg (fun k hk => by have := hv k hk; omega)
  · have hk' : g = k := by simpa [Value.ownBlock] using hk
    subst hk'
    rcases List.mem_append.1 hy with hy | hy
    · exact hgy y hy
    · rw [List.mem_singleton] at hy
      subst hy
      exact hgx
  · rw [List.pairwise_append]
    refine ⟨h.pw, List.pairwise_singleton _ _, fun y hy z hz => ?_⟩
    rw [List.mem_singleton] at hz
    subst hz
    have := hf y hy
    unfold Far7
    omega
/-- A cell of a row of results. -/
theorem Rs7.cell {u : World} {B g n cap : Nat} {L : List (R7 × Q7)} (h : Rs7 u B (.slice (some ⟨g, 0, none⟩) n cap) L) {i : Nat} {x : R7 × Q7} (hi : L[i]? = some x) {o : Nat} (ho : o < 6) : u.cell? ⟨g, i * 6 + o, none⟩ = (cells7 x)[o]? := by
  obtain ⟨h1, ⟨e, -⟩ | ⟨g', cap', cur, hv, hb, hg, hn, hc, hs, ht⟩⟩ := h.own
  · cases e
  · simp only [Value.slice.injEq, Option.some.injEq, Addr.mk.injEq] at hv
    obtain ⟨⟨rfl, -⟩, -, rfl⟩ := hv
    have e := flat7_at L i x hi o ho
    rw [← ht, List.getElem?_take] at e
    have hL : i < L.length := (List.getElem?_eq_some_iff.1 hi).1
    rw [if_pos (by omega)] at e
    rw [← e]
    simp [World.cell?, hg]
/-- The results of the moves below n. -/
def rsF (f : Nat → Option R7) : Nat → List R7
  | 0 => []
  | n + 1 => rsF f n ++ (f n).toList
theorem rsF_len (f : Nat → Option R7) : ∀ n, (rsF f n).length ≤ n
  | 0 => Nat.le_refl _
  | n + 1 => by
    have h1 := rsF_len f n
    have h2 : (f n).toList.length ≤ 1 := by cases f n <;> simp
    simp only [rsF, List.length_append]
    omega
/-- A legal move's result. -/
def r7V (c l p pp : Int) (ag : Bool) (ys : List Int) (move : Int) (m : Res) : R7 := ⟨move, gnV c l p pp ys m, agV ag m, nxV ag pp m, tkX c l p pp m.last m.xs, tkY c l p pp m.last m.xs m.ys⟩
def f7 (p c l pp : Int) (st sk re fe ag : Bool) (xs ys : List Int) (j : Nat) : Option R7 :=
  (lgV c l p pp fe xs (mvV true p pp st sk re xs ys (j : Int))).map (r7V c l p pp ag ys (j : Int))
def agL (ag : Bool) (LV : Option Res) : Bool := match LV with | none => false | some m => agV ag m
theorem lg_none {p s c l pp : Int} {st sk re fe ag : Bool} {n1 n2 : Nat} {xs ys : List Int} {k : Bool} (hk : okP (okR p s c l st ag) p n1 n2 pp xs ys = k) (l1 : xs.length = n1) {move : Int} (h : lgV c l p pp fe xs (mvV k p pp st sk re xs ys move) = none) :
    (lgC c l p pp fe xs (mvCd k p pp st sk re xs ys move) (mvV k p pp st sk re xs ys move) == 0) = false := by
  cases hm : mvV k p pp st sk re xs ys move with
  | none =>
    show (mvCd k p pp st sk re xs ys move == 0) = false
    rcases mvV_none hk l1 hm with e | e | e | e <;> rw [e] <;> rfl
  | some m =>
    rw [hm] at h
    unfold lgV at h
    unfold lgC
    simp only at h ⊢
    split at h
    · rename_i hb
      rw [if_pos hb]
      rfl
    · cases h
theorem lg_some {p c l pp : Int} {fe : Bool} {xs : List Int} {cd : Int} {MV : Option Res} {m : Res} (h : lgV c l p pp fe xs MV = some m) : MV = some m ∧ lgC c l p pp fe xs cd MV = 0 := by
  cases MV with
  | none => cases h
  | some m0 =>
    unfold lgV at h
    unfold lgC
    simp only at h ⊢
    split at h
    · cases h
    · rename_i hb
      rw [if_neg hb]
      exact ⟨h, rfl⟩
theorem infoR : (Try.prog.info? 94).map (fun i => (i.zero, i.size, i.bytes)) = some (some (.agg #[.int .i64 0, .int .i64 0, .bool false, .slice none 0 0, .slice none 0 0, .int .i64 0]), 6, 80) := by kernel_rfl
/-- What a function that makes results leaves. -/
def RsP (rs : List R7) (w : World) (e : Ending) (w' : World) : Prop := ∃ v L, e = .returned v ∧ Rs7 w' w.heap.size v L ∧ L.map Prod.fst = rs ∧ Below w.heap.size w w'
end Go.Proofs.Ytenpnilljjfmkaa

/- Run8 -/
namespace Go.Proofs.Ytenpnilljjfmkaa
open Go.Joins Go.ChangeShapes Go.WideShapes Go.ChangeAt Go.RowKit Go.Deep
set_option linter.unusedVariables false

/-- A position as numbers. -/
structure Ps where
  pl : Int
  xs : List Int
  ys : List Int
def R7.ps (r : R7) : Ps := ⟨r.nx, r.xs, r.ys⟩
/-- A legal move. -/
def stp (p c l : Int) (st sk re fe ag : Bool) (q : Ps) (move : Int) : Option R7 := (lgV c l p q.pl fe q.xs (mvV true p q.pl st sk re q.xs q.ys move)).map (r7V c l p q.pl ag q.ys move)
/-- All moves, as far as all are legal. -/
def runO (f : Ps → Int → Option R7) : Ps → List Int → Option (List R7)
  | _, [] => some []
  | q, m :: ms => match f q m with
    | none => none
    | some r => (runO f r.ps ms).map (r :: ·)
/-- The position behind some moves. -/
def lastP (q : Ps) : List R7 → Ps
  | [] => q
  | r :: rs => lastP r.ps rs
theorem lastP_snoc (q : Ps) (rs : List R7) (r : R7) : lastP q (rs ++ [r]) = r.ps := by
  induction rs generalizing q with
  | nil => rfl
  | cons x rs ih => exact ih x.ps
theorem runO_snoc (f : Ps → Int → Option R7) (q : Ps) (ms : List Int) (m : Int) : runO f q (ms ++ [m]) = (runO f q ms).bind (fun rs => (f (lastP q rs) m).map (fun r => rs ++ [r])) := by
  induction ms generalizing q with
  | nil =>
    show (match f q m with | none => none | some r => (runO f r.ps []).map (r :: ·)) = _
    cases h : f q m <;> simp [runO, lastP, h]
  | cons a ms ih =>
    show (match f q a with | none => none | some r => (runO f r.ps (ms ++ [m])).map (r :: ·)) = (match f q a with | none => none | some r => (runO f r.ps ms).map (r :: ·)).bind _
    cases h : f q a with
    | none => rfl
    | some r =>
      show (runO f r.ps (ms ++ [m])).map (r :: ·) = ((runO f r.ps ms).map (r :: ·)).bind _
      rw [ih]
      cases h2 : runO f r.ps ms with
      | none => rfl
      | some rs =>
        show ((f (lastP r.ps rs) m).map (fun r' => rs ++ [r'])).map (r :: ·) = (f (lastP q (r :: rs)) m).map (fun r' => (r :: rs) ++ [r'])
        rw [Option.map_map]
        rfl
theorem runO_len {f : Ps → Int → Option R7} : ∀ {ms : List Int} {q : Ps} {rs : List R7}, runO f q ms = some rs → rs.length = ms.length
  | [], q, rs, h => by
    cases h
    rfl
  | a :: ms, q, rs, h => by
    unfold runO at h
    cases hf : f q a with
    | none => rw [hf] at h; cases h
    | some r =>
      rw [hf] at h
      simp only at h
      cases h2 : runO f r.ps ms with
      | none => rw [h2] at h; cases h
      | some rs' =>
        rw [h2] at h
        cases h
        simp [runO_len h2]
theorem runO_fail {f : Ps → Int → Option R7} (q : Ps) (ms ms' : List Int) (h : runO f q ms = none) : runO f q (ms ++ ms') = none := by
  induction ms' generalizing ms with
  | nil => rw [List.append_nil]; exact h
  | cons m ms' ih =>
    have e : ms ++ m :: ms' = (ms ++ [m]) ++ ms' := by simp
    rw [e]
    exact ih _ (by rw [runO_snoc, h]; rfl)
/-- One move more. -/
theorem runO_yes {f : Ps → Int → Option R7} {q : Ps} {ms : List Int} {k : Nat} {m : Int} {rs : List R7} {r : R7} (hm : ms[k]? = some m) (h : runO f q (ms.take k) = some rs) (hr : f (lastP q rs) m = some r) : runO f q (ms.take (k + 1)) = some (rs ++ [r]) := by
  rw [take_next hm, runO_snoc, h]
  show (f (lastP q rs) m).map _ = _
  rw [hr]
  rfl
theorem runO_no {f : Ps → Int → Option R7} {q : Ps} {ms : List Int} {k : Nat} {m : Int} {rs : List R7} (hm : ms[k]? = some m) (h : runO f q (ms.take k) = some rs) (hr : f (lastP q rs) m = none) : runO f q ms = none := by
  have e : runO f q (ms.take (k + 1)) = none := by
    rw [take_next hm, runO_snoc, h]
    show (f (lastP q rs) m).map _ = _
    rw [hr]
    rfl
  have := runO_fail q (ms.take (k + 1)) (ms.drop (k + 1)) e
  rwa [List.take_append_drop] at this
/-- What is known of a position of a game. -/
structure OkQ (p s c l : Int) (st ag : Bool) (n1 : Nat) (q : Ps) : Prop where
  ok : okP (okR p s c l st ag) p n1 2 q.pl q.xs q.ys = true
  l1 : q.xs.length = n1
  l2 : q.ys.length = 2
theorem stp_ok {p s c l : Int} {st sk re fe ag : Bool} {n1 : Nat} {q : Ps} {move : Int} {r : R7} (h : OkQ p s c l st ag n1 q) (hr : stp p c l st sk re fe ag q move = some r) : OkQ p s c l st ag n1 r.ps := by
  unfold stp at hr
  cases hl : lgV c l p q.pl fe q.xs (mvV true p q.pl st sk re q.xs q.ys move) with
  | none => rw [hl] at hr; cases hr
  | some m =>
    rw [hl] at hr
    cases hr
    obtain ⟨hm, -⟩ := lg_some (cd := 0) hl
    obtain ⟨-, -, -, -, fin⟩ := mvV_fin h.ok h.l1 h.l2 hm
    obtain ⟨g, x1, x2⟩ := good_fin (t := 0) p s c l st sk re fe ag h.ok fin
    obtain ⟨t1, t2, t3⟩ := g.tk x1 x2
    obtain ⟨k1, k2, -, k4, k5⟩ := okP_parts h.ok
    obtain ⟨-, -, s3⟩ := seedB_parts k5
    have ht := fin.brd.tot
    refine ⟨?_, by show (tkX c l p q.pl m.last m.xs).length = n1; rw [tkX_len]; exact x1, by show (tkY c l p q.pl m.last m.xs m.ys).length = 2; rw [tkY_len]; exact x2⟩
    show okP (okR p s c l st ag) p n1 2 (nxV ag q.pl m) (tkX c l p q.pl m.last m.xs) (tkY c l p q.pl m.last m.xs m.ys) = true
    have hn : 0 ≤ nxV ag q.pl m ∧ nxV ag q.pl m ≤ 1 := by
      unfold nxV
      split <;> omega
    unfold okP seedB
    have e3 : decide (tot (tkX c l p q.pl m.last m.xs) + tot (tkY c l p q.pl m.last m.xs m.ys) ≤ 96) = true := decide_eq_true (by omega)
    rw [k1, t1, t2, e3, decide_eq_true k2, decide_eq_true hn.1, decide_eq_true hn.2]
    rfl
theorem run_ok {p s c l : Int} {st sk re fe ag : Bool} {n1 : Nat} : ∀ {ms : List Int} {q : Ps} {rs : List R7}, OkQ p s c l st ag n1 q → runO (stp p c l st sk re fe ag) q ms = some rs → OkQ p s c l st ag n1 (lastP q rs)
  | [], q, rs, h, hr => by
    cases hr
    exact h
  | a :: ms, q, rs, h, hr => by
    unfold runO at hr
    cases hf : stp p c l st sk re fe ag q a with
    | none => rw [hf] at hr; cases hr
    | some r =>
      rw [hf] at hr
      simp only at hr
      cases h2 : runO (stp p c l st sk re fe ag) r.ps ms with
      | none => rw [h2] at hr; cases hr
      | some rs' =>
        rw [h2] at hr
        cases hr
        show OkQ p s c l st ag n1 (lastP r.ps rs')
        exact run_ok (q := r.ps) (stp_ok h hf) h2
end Go.Proofs.Ytenpnilljjfmkaa

/- Rm8 -/
namespace Go.Proofs.Ytenpnilljjfmkaa
open Go.Joins Go.ChangeShapes Go.WideShapes Go.ChangeAt Go.RowKit Go.Deep
set_option linter.unusedVariables false

/-- What l07Make leaves. -/
def MrQ (c l p pp : Int) (ag : Bool) (pn1 : Nat) (xs ys : List Int) (move : Int) (LV : Option Res) (cd : Int) (w : World) (e : Ending) (w' : World) : Prop :=
  match LV with
  | none => MrE cd w e w'
  | some m => ∃ g1 k1 g2 k2, e = .returned (.tuple #[.agg #[.int .i64 move, .int .i64 (gnV c l p pp ys m), .bool (agV ag m), .slice (some ⟨g1, 0, none⟩) pn1 k1, .slice (some ⟨g2, 0, none⟩) 2 k2, .int .i64 (nxV ag pp m)], .int .i64 cd]) ∧
    PosO w' w.heap.size (some ⟨g1, 0, none⟩) (some ⟨g2, 0, none⟩) g1 g2 pn1 2 (tkX c l p pp m.last m.xs) (tkY c l p pp m.last m.xs m.ys) ∧ g1 < w'.heap.size ∧ g2 < w'.heap.size ∧ pn1 ≤ k1 ∧ 2 ≤ k2 ∧ Below w.heap.size w w'
/-- Some result, whether the player moves again, and a code. -/
def MrD (b : Bool) (cd : Int) (w : World) (e : Ending) (w' : World) : Prop :=
  ∃ (mv gn : Int) (s1 : Option Addr) (n1 c1 : Nat) (s2 : Option Addr) (n2 c2 : Nat) (nx : Int), e = .returned (.tuple #[.agg #[.int .i64 mv, .int .i64 gn, .bool b, .slice s1 n1 c1, .slice s2 n2 c2, .int .i64 nx], .int .i64 cd]) ∧ Below w.heap.size w w'
theorem MrQ.d {c l p pp : Int} {ag : Bool} {pn1 : Nat} {xs ys : List Int} {move : Int} {LV : Option Res} {cd : Int} {w w' : World} {e : Ending} (h : MrQ c l p pp ag pn1 xs ys move LV cd w e w') : MrD (agL ag LV) cd w e w' := by
  cases LV with
  | none => exact ⟨_, _, _, _, _, _, _, _, _, h.1, h.2⟩
  | some m =>
    obtain ⟨g1, k1, g2, k2, he, -, -, -, -, -, hb⟩ := h
    exact ⟨_, _, _, _, _, _, _, _, _, he, hb⟩
theorem l07Make_any (p s c l : Int) (st sk re fe ag : Bool) (p1 p2 : Option Addr) (pn1 pc1 pn2 pc2 : Nat) (pp : Int) (xs ys : List Int) (rb pb : Nat) (move : Int) (w : World) (hr : RuAt w rb p s c l st sk re fe ag) (hq : PoAt w pb p1 p2 pn1 pc1 pn2 pc2 pp) (h : PosR w p1 p2 pn1 pn2 xs ys) (k : Bool) (hk : okP (okR p s c l st ag) p pn1 pn2 pp xs ys = k) :
    Calls Try.prog 60 #[.pointer (some ⟨rb, 0, none⟩), .pointer (some ⟨pb, 0, none⟩), .int .i64 move] w (MrQ c l p pp ag pn1 xs ys move (lgV c l p pp fe xs (mvV k p pp st sk re xs ys move)) (lgC c l p pp fe xs (mvCd k p pp st sk re xs ys move) (mvV k p pp st sk re xs ys move)) w) := by
  have hC := fun u (hu : Below w.heap.size w u) => l05Move_any p s c l st sk re fe ag p1 p2 pn1 pc1 pn2 pc2 pp xs ys rb pb move u (hr.below hu) (hq.below hu) (h.below hu) k hk
  cases hm : mvV k p pp st sk re xs ys move with
  | none =>
    rw [hm] at hC
    have h0 : (mvCd k p pp st sk re xs ys move == 0) = false := by
      rcases mvV_none hk h.l1 hm with e | e | e | e <;> rw [e] <;> rfl
    exact l07Make_err p s c l st sk re fe ag rb pb pn1 move _ h0 w hC
  | some m =>
    obtain ⟨rfl, m0, m1, hc0, fin⟩ := mvV_fin hk h.l1 h.l2 hm
    obtain ⟨rfl, hpl⟩ := pl_of_ok hk
    rw [hm, hc0] at hC
    have hX := l07Make_some p s c l st sk re fe ag p1 p2 pn1 pc1 pc2 pp move xs ys rb pb m w hr hq h hk fin hC
    rw [hc0]
    have e1 : lgV c l p pp fe xs (some m) = if illB c l p pp fe xs m then none else some m := rfl
    have e2 : lgC c l p pp fe xs 0 (some m) = if illB c l p pp fe xs m then 9 else 0 := rfl
    rw [e1, e2]
    generalize illB c l p pp fe xs m = b at *
    cases b
    · exact hX.mono (fun e w' q => by unfold MrL at q; rw [if_neg (by decide)] at q; exact q)
    · exact hX.mono (fun e w' q => by unfold MrL at q; rw [if_pos rfl] at q; exact q)
end Go.Proofs.Ytenpnilljjfmkaa

/- Ps8 -/
namespace Go.Proofs.Ytenpnilljjfmkaa
open Go.Joins Go.ChangeShapes Go.WideShapes Go.ChangeAt Go.RowKit Go.Deep
set_option linter.unusedVariables false

def cells3 (x : Ps × Q7) : List Value := [.slice (some ⟨x.2.g1, 0, none⟩) x.2.n1 x.2.k1, .slice (some ⟨x.2.g2, 0, none⟩) 2 x.2.k2, .int .i64 x.1.pl]
def flat3 (L : List (Ps × Q7)) : List Value := L.flatMap cells3
theorem cells3_one (x : Ps × Q7) : ∀ u ∈ cells3 x, u.oneCell' = true := by
  intro u hu
  simp only [cells3, List.mem_cons, List.not_mem_nil, or_false] at hu
  rcases hu with rfl | rfl | rfl <;> rfl
theorem flat3_len (L : List (Ps × Q7)) : (flat3 L).length = L.length * 3 := by
  induction L with
  | nil => rfl
  | cons x r ih =>
    have e : flat3 (x :: r) = cells3 x ++ flat3 r := by simp [flat3]
    rw [e, List.length_append, ih, List.length_cons]
    have : (cells3 x).length = 3 := rfl
    omega
theorem flat3_snoc (L : List (Ps × Q7)) (x : Ps × Q7) : flat3 (L ++ [x]) = flat3 L ++ cells3 x := by simp [flat3]
theorem flat3_at : ∀ (L : List (Ps × Q7)) (i : Nat) (x : Ps × Q7), L[i]? = some x → ∀ o, o < 3 → (flat3 L)[i * 3 + o]? = (cells3 x)[o]?
  | [], _, _, h, _, _ => by cases h
  | y :: r, 0, x, h, o, ho => by
    cases h
    have e : flat3 (y :: r) = cells3 y ++ flat3 r := by simp [flat3]
    rw [e, Nat.zero_mul, Nat.zero_add, List.getElem?_append_left (by show o < 3; exact ho)]
  | y :: r, i + 1, x, h, o, ho => by
    have e : flat3 (y :: r) = cells3 y ++ flat3 r := by simp [flat3]
    rw [e, List.getElem?_append_right (by show 3 ≤ _; omega)]
    have := flat3_at r i x (by simpa using h) o ho
    rw [← this]
    congr 1
    show (i + 1) * 3 + o - 3 = _
    omega
/-- A result's rows in blocks of their own. -/
structure It3 (u : World) (B : Nat) (x : Ps × Q7) : Prop where
  o : PosO u B (some ⟨x.2.g1, 0, none⟩) (some ⟨x.2.g2, 0, none⟩) x.2.g1 x.2.g2 x.2.n1 2 x.1.xs x.1.ys
  l1 : x.2.g1 < u.heap.size
  l2 : x.2.g2 < u.heap.size
  k1 : x.2.n1 ≤ x.2.k1
  k2 : 2 ≤ x.2.k2
def Far3 (x y : Ps × Q7) : Prop := x.2.g1 ≠ y.2.g1 ∧ x.2.g1 ≠ y.2.g2 ∧ x.2.g2 ≠ y.2.g1 ∧ x.2.g2 ≠ y.2.g2
/-- A row of results that a call owns. -/
structure Rs3 (u : World) (B : Nat) (v : Value) (L : List (Ps × Q7)) : Prop where
  own : u.ownsRow B 29 3 v L.length (flat3 L)
  it : ∀ x ∈ L, It3 u B x
  ne : ∀ x ∈ L, ∀ k, v.ownBlock = some k → k ≠ x.2.g1 ∧ k ≠ x.2.g2
  pw : L.Pairwise Far3
theorem It3.below {u v : World} {B : Nat} {x : Ps × Q7} (h : It3 u B x) (k : Below u.heap.size u v) : It3 v B x :=
  ⟨h.o.below k, Nat.lt_of_lt_of_le h.l1 k.size, Nat.lt_of_lt_of_le h.l2 k.size, h.k1, h.k2⟩
theorem It3.grown {u v : World} {B : Nat} {x : Ps × Q7} {row : Option Nat} (h : It3 u B x) (hg : u.grownBy v row) (hr : ∀ k, row = some k → k ≠ x.2.g1 ∧ k ≠ x.2.g2) : It3 v B x :=
  ⟨h.o.grown hg (fun k hk => (hr k hk).1) (fun k hk => (hr k hk).2), Nat.lt_of_lt_of_le h.l1 hg.size, Nat.lt_of_lt_of_le h.l2 hg.size, h.k1, h.k2⟩
theorem Rs3.below {u v : World} {B : Nat} {x : Value} {L : List (Ps × Q7)} (h : Rs3 u B x L) (k : Below u.heap.size u v) : Rs3 v B x L :=
  ⟨own_keepS h.own k, fun y hy => (h.it y hy).below k, h.ne, h.pw⟩
theorem Rs3.drew {u : World} {B : Nat} {x : Value} {L : List (Ps × Q7)} (h : Rs3 u B x L) : Rs3 u.drew B x L := h.below (Below.refl _ _).drew
theorem rs3_nil (u : World) (B : Nat) : Rs3 u B (.slice none 0 0) [] :=
  ⟨World.ownsRow_nil _ _ _ _, (fun _ h => by cases h), (fun _ h => by cases h), List.Pairwise.nil⟩
theorem Rs3.snoc {u u' w1 : World} {B H0 g cap : Nat} {v : Value} {L : List (Ps × Q7)} {x : Ps × Q7} (h : Rs3 u B v L) (hx : It3 u B x) (hf : ∀ y ∈ L, y.2.g1 < H0 ∧ y.2.g2 < H0) (hv : ∀ k, v.ownBlock = some k → k < H0) (hx1 : H0 ≤ x.2.g1) (hx2 : H0 ≤ x.2.g2) (hu : Below u.heap.size u u')
    (hown : w1.ownsRow B 29 3 (.slice (some ⟨g, 0, none⟩) (L.length + 1) cap) (L.length + 1) (flat3 L ++ cells3 x)) (hg : u'.grownBy w1 v.ownBlock) (hat : v.ownBlock = some g ∨ g = u'.heap.size) :
    Rs3 w1 B (.slice (some ⟨g, 0, none⟩) (L.length + 1) cap) (L ++ [x]) := by
  have hgx : g ≠ x.2.g1 ∧ g ≠ x.2.g2 := by
    rcases hat with e | e
    · have := hv _ e
      omega
    · have h1 := Nat.lt_of_lt_of_le hx.l1 hu.size
      have h2 := Nat.lt_of_lt_of_le hx.l2 hu.size
      omega
  have hgy : ∀ y ∈ L, g ≠ y.2.g1 ∧ g ≠ y.2.g2 := by
    intro y hy
    rcases hat with e | e
    · exact h.ne y hy g e
    · have h1 := Nat.lt_of_lt_of_le (h.it y hy).l1 hu.size
      have h2 := Nat.lt_of_lt_of_le (h.it y hy).l2 hu.size
      omega
  refine ⟨by rw [List.length_append, List.length_singleton, flat3_snoc]; exact hown, fun y hy => ?_, fun y hy k hk => ?_, ?_⟩
  · rcases List.mem_append.1 hy with hy | hy
    · exact ((h.it y hy).below hu).grown hg (fun k hk => h.ne y hy k hk)
    · rw [List.mem_singleton] at hy
      subst hy
      exact (hx.below hu).grown hg (fun k hk => by have := hv k hk; omega)
  · have hk' : g = k := by simpa [Value.ownBlock] using hk
    subst hk'
    rcases List.mem_append.1 hy with hy | hy
    · exact hgy y hy
    · rw [List.mem_singleton] at hy
      subst hy
      exact hgx
  · rw [List.pairwise_append]
    refine ⟨h.pw, List.pairwise_singleton _ _, fun y hy z hz => ?_⟩
    rw [List.mem_singleton] at hz
    subst hz
    have := hf y hy
    unfold Far3
    omega
/-- A cell of a row of results. -/
theorem Rs3.cell {u : World} {B g n cap : Nat} {L : List (Ps × Q7)} (h : Rs3 u B (.slice (some ⟨g, 0, none⟩) n cap) L) {i : Nat} {x : Ps × Q7} (hi : L[i]? = some x) {o : Nat} (ho : o < 3) : u.cell? ⟨g, i * 3 + o, none⟩ = (cells3 x)[o]? := by
  obtain ⟨h1, ⟨e, -⟩ | ⟨g', cap', cur, hv, hb, hg, hn, hc, hs, ht⟩⟩ := h.own
  · cases e
  · simp only [Value.slice.injEq, Option.some.injEq, Addr.mk.injEq] at hv
    obtain ⟨⟨rfl, -⟩, -, rfl⟩ := hv
    have e := flat3_at L i x hi o ho
    rw [← ht, List.getElem?_take] at e
    have hL : i < L.length := (List.getElem?_eq_some_iff.1 hi).1
    rw [if_pos (by omega)] at e
    rw [← e]
    simp [World.cell?, hg]
theorem infoPo : (Try.prog.info? 29).map (fun i => (i.zero, i.size, i.bytes)) = some (some (.agg #[.slice none 0 0, .slice none 0 0, .int .i64 0]), 3, 56) := by kernel_rfl
theorem cells3_news (u : World) (T : TypeId) (x : Ps × Q7) (H : Nat) (hH : u.heap.size = H) : ∀ j v, (cells3 x)[j]? = some v → (u.alloc (.cells #[.slice (some ⟨x.2.g1, 0, none⟩) x.2.n1 x.2.k1, .slice (some ⟨x.2.g2, 0, none⟩) 2 x.2.k2, .int .i64 x.1.pl] T)).cell? ((⟨H, 0, none⟩ : Addr).add j) = some v := by
  subst hH
  intro j v hj
  have e : ((⟨u.heap.size, 0, none⟩ : Addr).add j) = ⟨u.heap.size, 0 + j, none⟩ := by
    by_cases h : j = 0 <;> simp [Addr.add, h]
  rw [e, Nat.zero_add]
  match j, hj with
  | 0, hj => cases hj; go_simp
  | 1, hj => cases hj; go_simp
  | 2, hj => cases hj; go_simp
  | n + 3, hj => cases hj
end Go.Proofs.Ytenpnilljjfmkaa

/- Mk11 -/
namespace Go.Proofs.Ytenpnilljjfmkaa
open Go.Joins Go.ChangeShapes Go.WideShapes Go.ChangeAt Go.RowKit Go.Deep
set_option linter.unusedVariables false

/-- What makeLegal leaves. -/
def MkQ (p s c l : Int) (st sk re fe ag : Bool) (pp : Int) (pn1 : Nat) (p1 p2 : Option Addr) (pc1 pc2 : Nat) (LV : Option Res) (cd : Int) (w : World) (e : Ending) (w' : World) : Prop :=
  match LV with
  | none => e = .returned (.tuple #[.agg zero21.toArray, .int .i64 cd]) ∧ Below w.heap.size w w'
  | some m => ∃ s1 s2 sc1 sc2 g1 k1 g2 k2, e = .returned (.tuple #[.agg #[.int .i64 p, .int .i64 s, .bool st, .bool sk, .bool re, .bool fe, .bool ag, .int .i64 c, .int .i64 l, .int .i64 pp, .slice s1 pn1 sc1, .slice s2 2 sc2, .int .i64 m.last, .int .i64 m.laps, .slice p1 pn1 pc1, .slice p2 2 pc2, .int .i64 pp, .slice (some ⟨g1, 0, none⟩) pn1 k1, .slice (some ⟨g2, 0, none⟩) 2 k2, .int .i64 m.last, .int .i64 m.laps], .int .i64 cd]) ∧
    PosO w' w.heap.size (some ⟨g1, 0, none⟩) (some ⟨g2, 0, none⟩) g1 g2 pn1 2 (tkX c l p pp m.last m.xs) (tkY c l p pp m.last m.xs m.ys) ∧ g1 < w'.heap.size ∧ g2 < w'.heap.size ∧ pn1 ≤ k1 ∧ 2 ≤ k2 ∧ Below w.heap.size w w'
/-- Some made move, and a code. -/
def MkD (cd : Int) (w : World) (e : Ending) (w' : World) : Prop :=
  ∃ (p s c l : Int) (st sk re fe ag : Bool) (player : Int) (s1 s2 : Option Addr) (sn1 sc1 sn2 sc2 : Nat) (sp sq : Int) (p1 p2 : Option Addr) (pn1 pc1 pn2 pc2 : Nat) (pp : Int) (t1 t2 : Option Addr) (tn1 tc1 tn2 tc2 : Nat) (tp tq : Int), e = .returned (.tuple #[.agg #[.int .i64 p, .int .i64 s, .bool st, .bool sk, .bool re, .bool fe, .bool ag, .int .i64 c, .int .i64 l, .int .i64 player, .slice s1 sn1 sc1, .slice s2 sn2 sc2, .int .i64 sp, .int .i64 sq, .slice p1 pn1 pc1, .slice p2 pn2 pc2, .int .i64 pp, .slice t1 tn1 tc1, .slice t2 tn2 tc2, .int .i64 tp, .int .i64 tq], .int .i64 cd]) ∧ Below w.heap.size w w'
theorem MkQ.d (p s c l : Int) (st sk re fe ag : Bool) {pp : Int} {pn1 : Nat} {p1 p2 : Option Addr} {pc1 pc2 : Nat} {LV : Option Res} {cd : Int} {w : World} {e : Ending} {w' : World} (h : MkQ p s c l st sk re fe ag pp pn1 p1 p2 pc1 pc2 LV cd w e w') : MkD cd w e w' := by
  cases LV with
  | none => exact ⟨_, _, _, _, _, _, _, _, _, _, _, _, _, _, _, _, _, _, _, _, _, _, _, _, _, _, _, _, _, _, _, _, _, h.1, h.2⟩
  | some m =>
    obtain ⟨s1, s2, sc1, sc2, g1, k1, g2, k2, he, -, -, -, -, -, hb⟩ := h
    exact ⟨_, _, _, _, _, _, _, _, _, _, _, _, _, _, _, _, _, _, _, _, _, _, _, _, _, _, _, _, _, _, _, _, _, he, hb⟩
theorem makeL_any (p s c l : Int) (st sk re fe ag : Bool) (p1 p2 : Option Addr) (pn1 pc1 pn2 pc2 : Nat) (pp : Int) (xs ys : List Int) (move : Int) (w : World) (h : PosR w p1 p2 pn1 pn2 xs ys) (hcap : pn1 ≤ pc1) (k : Bool) (hk : okP (okR p s c l st ag) p pn1 pn2 pp xs ys = k) :
    Calls Try.prog 65 #[.agg #[.int .i64 p, .int .i64 s, .bool st, .bool sk, .bool re, .bool fe, .bool ag, .int .i64 c, .int .i64 l], .agg #[.slice p1 pn1 pc1, .slice p2 pn2 pc2, .int .i64 pp], .int .i64 move] w (MkQ p s c l st sk re fe ag pp pn1 p1 p2 pc1 pc2 (lgV c l p pp fe xs (mvV k p pp st sk re xs ys move)) (lgC c l p pp fe xs (mvCd k p pp st sk re xs ys move) (mvV k p pp st sk re xs ys move)) w) := by
  have hC := fun u (hu : Below w.heap.size w u) => implMove_any p s c l st sk re fe ag p1 p2 pn1 pc1 pn2 pc2 pp xs ys move u (h.below hu) k hk
  cases hm : mvV k p pp st sk re xs ys move with
  | none =>
    rw [hm] at hC
    have h0 : (mvCd k p pp st sk re xs ys move == 0) = false := by
      rcases mvV_none hk h.l1 hm with e | e | e | e <;> rw [e] <;> rfl
    exact makeL_err p s c l st sk re fe ag p1 p2 pn1 pc1 pn2 pc2 pp move _ h0 w hC
  | some m =>
    obtain ⟨rfl, m0, m1, hc0, fin⟩ := mvV_fin hk h.l1 h.l2 hm
    obtain ⟨rfl, hpl⟩ := pl_of_ok hk
    rw [hm, hc0] at hC
    have hX := makeL_some p s c l st sk re fe ag p1 p2 pn1 pc1 pc2 pp move xs ys m w h hk hcap fin hC
    rw [hc0]
    have e1 : lgV c l p pp fe xs (some m) = if illB c l p pp fe xs m then none else some m := rfl
    have e2 : lgC c l p pp fe xs 0 (some m) = if illB c l p pp fe xs m then 9 else 0 := rfl
    rw [e1, e2]
    generalize illB c l p pp fe xs m = b at *
    cases b
    · exact hX.mono (fun e w' q => by unfold MkL at q; rw [if_neg (by decide)] at q; exact q)
    · exact hX.mono (fun e w' q => by unfold MkL at q; rw [if_pos rfl] at q; exact q)
end Go.Proofs.Ytenpnilljjfmkaa

/- Mk12 -/
namespace Go.Proofs.Ytenpnilljjfmkaa
open Go.Joins Go.ChangeShapes Go.WideShapes Go.ChangeAt Go.RowKit Go.Deep
set_option linter.unusedVariables false


/-- A made move in a variable of its own. -/
theorem mkF_new {w w5 : World} (p s c l : Int) (st sk re fe ag : Bool) {pp : Int} {s1 s2 : Option Addr} {pn1 sc1 sc2 : Nat} {p1 p2 : Option Addr} {pc1 pc2 : Nat} {m : Res} {g1 k1 g2 k2 : Nat} (T : TypeId) (hb : Below w.heap.size w w5)
    (ho : PosO w5 w.heap.size (some ⟨g1, 0, none⟩) (some ⟨g2, 0, none⟩) g1 g2 pn1 2 (tkX c l p pp m.last m.xs) (tkY c l p pp m.last m.xs m.ys)) (l1 : g1 < w5.heap.size) (l2 : g2 < w5.heap.size) (h1 : pn1 ≤ k1) (h2 : 2 ≤ k2) :
    MkF w w p s c l st sk re fe ag pp s1 s2 pn1 sc1 sc2 p1 p2 pc1 pc2 m w5.heap.size g1 k1 g2 k2 ((w5.alloc (.cells zero21.toArray T)).setCells w5.heap.size 0 [.int .i64 p, .int .i64 s, .bool st, .bool sk, .bool re, .bool fe, .bool ag, .int .i64 c, .int .i64 l, .int .i64 pp, .slice s1 pn1 sc1, .slice s2 2 sc2, .int .i64 m.last, .int .i64 m.laps, .slice p1 pn1 pc1, .slice p2 2 pc2, .int .i64 pp, .slice (some ⟨g1, 0, none⟩) pn1 k1, .slice (some ⟨g2, 0, none⟩) 2 k2, .int .i64 m.last, .int .i64 m.laps]) :=
  ⟨World.rangeAt_setCells_same _ _ 0 _ (thN_new w5 T).th, by rw [size_sc]; simp, hb.size, below_sc w5.heap.size hb.size _ 0 (hb.alloc hb.size _), PosO.but (ho.below (al1 _ _)) (but_sc _ _ _ _) (by omega) (by omega), by rw [size_sc]; simp; omega, by rw [size_sc]; simp; omega, h1, h2⟩
end Go.Proofs.Ytenpnilljjfmkaa

/- GameO -/
namespace Go.Proofs.Ytenpnilljjfmkaa
open Go.Joins Go.ChangeShapes Go.WideShapes Go.ChangeAt Go.RowKit Go.Deep
set_option linter.unusedVariables false

/-- The rows of a game that came in: of whatever length. -/
structure GamW (w : World) (a1 a2 : Option Addr) (an1 an2 : Nat) (mm : Option Addr) (mn : Nat) (b1 b2 : Option Addr) (bn1 bn2 : Nat) (sx sy ms nx ny : List Int) : Prop where
  s : PosW w a1 a2 an1 an2 sx sy
  m : ms.length ≤ 1000000000000 → RowN w mm ms
  lm : ms.length = mn
  mn : mn ≤ 9223372036854775807
  n : PosW w b1 b2 bn1 bn2 nx ny
structure GV where
  x : RV
  q : PV
  mm : Option Addr
  mn : Nat
  mc : Nat
  ms : List Int
  r : PV
  rg : Int
def RV.cells (x : RV) : List Value := [.int .i64 x.p, .int .i64 x.s, .bool x.st, .bool x.sk, .bool x.re, .bool x.fe, .bool x.ag, .int .i64 x.c, .int .i64 x.l]
def PV.cells (q : PV) : List Value := [.slice q.a1 q.n1 q.c1, .slice q.a2 q.n2 q.c2, .int .i64 q.pl]
def GV.cells (g : GV) : List Value := [.int .i64 g.x.p, .int .i64 g.x.s, .bool g.x.st, .bool g.x.sk, .bool g.x.re, .bool g.x.fe, .bool g.x.ag, .int .i64 g.x.c, .int .i64 g.x.l, .slice g.q.a1 g.q.n1 g.q.c1, .slice g.q.a2 g.q.n2 g.q.c2, .int .i64 g.q.pl, .slice g.mm g.mn g.mc, .slice g.r.a1 g.r.n1 g.r.c1, .slice g.r.a2 g.r.n2 g.r.c2, .int .i64 g.r.pl, .int .i64 g.rg]
def GV.val (g : GV) : Value := .agg g.cells.toArray
def GV.In (g : GV) (w : World) : Prop := g.x.Fit ∧ I64 g.q.pl ∧ I64 g.r.pl ∧ I64 g.rg ∧ GamW w g.q.a1 g.q.a2 g.q.n1 g.q.n2 g.mm g.mn g.r.a1 g.r.a2 g.r.n1 g.r.n2 g.q.xs g.q.ys g.ms g.r.xs g.r.ys

section
variable {H : Type} {enc : TypeId × Value → H} {P : Program} {w : World} {base : Nat}
theorem rules_cells {t i b : TypeId} {f0 f1 f2 f3 f4 f5 f6 f7 f8 : Field} {fuel : Nat} {cs : List Value} {d : DataW H × List MemPlace} (hs : P.underlying t = some (.struct #[f0, f1, f2, f3, f4, f5, f6, f7, f8]))
    (hi : P.underlying i = some (.int .i64)) (hb : P.underlying b = some .bool)
    (hone : (oneCellFields P #[f0, f1, f2, f3, f4, f5, f6, f7, f8] && decide (f0.type = i) && decide (f1.type = i) && decide (f2.type = b) && decide (f3.type = b) && decide (f4.type = b) && decide (f5.type = b) && decide (f6.type = b) && decide (f7.type = i) && decide (f8.type = i)) = true) (hC : P.cellsOf t = 9)
    (hf : DataW.trod enc P w base (fun _ => true) true fuel t cs = some d) : ∃ x : RV, cs = x.cells ∧ x.Fit := by
  simp only [Bool.and_eq_true, decide_eq_true_eq] at hone
  obtain ⟨⟨⟨⟨⟨⟨⟨⟨⟨hone, t0⟩, t1⟩, t2⟩, t3⟩, t4⟩, t5⟩, t6⟩, t7⟩, t8⟩ := hone
  obtain ⟨xs, n, _, hx, hsz, hlen, hg⟩ := DataW.trod_struct hs hf
  match cs, hsz.trans hC with
  | [c0, c1, c2, c3, c4, c5, c6, c7, c8], _ =>
    obtain ⟨o0, k0⟩ := hone_of hone 0 f0 rfl
    obtain ⟨o1, k1⟩ := hone_of hone 1 f1 rfl
    obtain ⟨o2, k2⟩ := hone_of hone 2 f2 rfl
    obtain ⟨o3, k3⟩ := hone_of hone 3 f3 rfl
    obtain ⟨o4, k4⟩ := hone_of hone 4 f4 rfl
    obtain ⟨o5, k5⟩ := hone_of hone 5 f5 rfl
    obtain ⟨o6, k6⟩ := hone_of hone 6 f6 rfl
    obtain ⟨o7, k7⟩ := hone_of hone 7 f7 rfl
    obtain ⟨o8, k8⟩ := hone_of hone 8 f8 rfl
    match xs, hlen with
    | [y0, y1, y2, y3, y4, y5, y6, y7, y8], _ =>
      have g0 : DataW.trod enc P w base (fun _ => true) true n f0.type [c0] = some y0 := by simpa [o0, k0] using hg 0 f0 rfl
      rw [t0] at g0
      have g1 : DataW.trod enc P w base (fun _ => true) true n f1.type [c1] = some y1 := by simpa [o1, k1] using hg 1 f1 rfl
      rw [t1] at g1
      have g2 : DataW.trod enc P w base (fun _ => true) true n f2.type [c2] = some y2 := by simpa [o2, k2] using hg 2 f2 rfl
      rw [t2] at g2
      have g3 : DataW.trod enc P w base (fun _ => true) true n f3.type [c3] = some y3 := by simpa [o3, k3] using hg 3 f3 rfl
      rw [t3] at g3
      have g4 : DataW.trod enc P w base (fun _ => true) true n f4.type [c4] = some y4 := by simpa [o4, k4] using hg 4 f4 rfl
      rw [t4] at g4
      have g5 : DataW.trod enc P w base (fun _ => true) true n f5.type [c5] = some y5 := by simpa [o5, k5] using hg 5 f5 rfl
      rw [t5] at g5
      have g6 : DataW.trod enc P w base (fun _ => true) true n f6.type [c6] = some y6 := by simpa [o6, k6] using hg 6 f6 rfl
      rw [t6] at g6
      have g7 : DataW.trod enc P w base (fun _ => true) true n f7.type [c7] = some y7 := by simpa [o7, k7] using hg 7 f7 rfl
      rw [t7] at g7
      have g8 : DataW.trod enc P w base (fun _ => true) true n f8.type [c8] = some y8 := by simpa [o8, k8] using hg 8 f8 rfl
      rw [t8] at g8
      obtain ⟨m0, rfl, w0⟩ := cell_int hi g0
      obtain ⟨m1, rfl, w1⟩ := cell_int hi g1
      obtain ⟨m2, rfl⟩ := cell_bool hb g2
      obtain ⟨m3, rfl⟩ := cell_bool hb g3
      obtain ⟨m4, rfl⟩ := cell_bool hb g4
      obtain ⟨m5, rfl⟩ := cell_bool hb g5
      obtain ⟨m6, rfl⟩ := cell_bool hb g6
      obtain ⟨m7, rfl, w7⟩ := cell_int hi g7
      obtain ⟨m8, rfl, w8⟩ := cell_int hi g8
      exact ⟨⟨m0, m1, m2, m3, m4, m5, m6, m7, m8⟩, rfl, w0, w1, w7, w8⟩
theorem pos_cells {t s i : TypeId} {f0 f1 f2 : Field} {fuel : Nat} {cs : List Value} {d : DataW H × List MemPlace} (ht : P.underlying t = some (.struct #[f0, f1, f2])) (hs : P.underlying s = some (.slice i)) (hi : P.underlying i = some (.int .i64)) (hci : P.cellsOf i = 1)
    (hone : (oneCellFields P #[f0, f1, f2] && decide (f0.type = s) && decide (f1.type = s) && decide (f2.type = i)) = true) (hC : P.cellsOf t = 3)
    (hf : DataW.trod enc P w base (fun _ => true) true fuel t cs = some d) : ∃ q : PV, cs = q.cells ∧ q.In w := by
  simp only [Bool.and_eq_true, decide_eq_true_eq] at hone
  obtain ⟨⟨⟨hone, t0⟩, t1⟩, t2⟩ := hone
  obtain ⟨xs, n, _, hx, hsz, hlen, hg⟩ := DataW.trod_struct ht hf
  match cs, hsz.trans hC with
  | [c0, c1, c2], _ =>
    obtain ⟨o0, k0⟩ := hone_of hone 0 f0 rfl
    obtain ⟨o1, k1⟩ := hone_of hone 1 f1 rfl
    obtain ⟨o2, k2⟩ := hone_of hone 2 f2 rfl
    match xs, hlen with
    | [y0, y1, y2], _ =>
      have g0 : DataW.trod enc P w base (fun _ => true) true n f0.type [c0] = some y0 := by simpa [o0, k0] using hg 0 f0 rfl
      rw [t0] at g0
      have g1 : DataW.trod enc P w base (fun _ => true) true n f1.type [c1] = some y1 := by simpa [o1, k1] using hg 1 f1 rfl
      rw [t1] at g1
      have g2 : DataW.trod enc P w base (fun _ => true) true n f2.type [c2] = some y2 := by simpa [o2, k2] using hg 2 f2 rfl
      rw [t2] at g2
      obtain ⟨a1, n1, e1, us, rfl, l1, m1, r1⟩ := cell_row hs hi hci g0
      obtain ⟨a2, n2, e2, vs, rfl, l2, m2, r2⟩ := cell_row hs hi hci g1
      obtain ⟨m, rfl, hw⟩ := cell_int hi g2
      exact ⟨⟨a1, a2, n1, e1, n2, e2, m, us, vs⟩, rfl, hw, ⟨r1, r2, l1, l2, m1, m2⟩⟩
theorem open_game {r : Reach} {b0 : Nat} {t R Q s i b : TypeId} {h0 h1 h2 h3 h4 f0 f1 f2 f3 f4 f5 f6 f7 f8 e0 e1 e2 : Field} {v : Value} {d : DataW H} {ps : List MemPlace} (hG : P.underlying t = some (.struct #[h0, h1, h2, h3, h4])) (hR : P.underlying R = some (.struct #[f0, f1, f2, f3, f4, f5, f6, f7, f8])) (hQ : P.underlying Q = some (.struct #[e0, e1, e2]))
    (hs : P.underlying s = some (.slice i)) (hi : P.underlying i = some (.int .i64)) (hb : P.underlying b = some .bool) (hci : P.cellsOf i = 1)
    (hk : (decide (h0.type = R) && decide (h1.type = Q) && decide (h2.type = s) && decide (h3.type = Q) && decide (h4.type = i) && decide (h0.offset = 0) && decide (h1.offset = 9) && decide (h2.offset = 12) && decide (h3.offset = 13) && decide (h4.offset = 16) && decide (P.cellsOf R = 9) && decide (P.cellsOf Q = 3) && decide (P.cellsOf s = 1)) = true) (hC : P.cellsOf t = 17)
    (hone : (oneCellFields P #[f0, f1, f2, f3, f4, f5, f6, f7, f8] && decide (f0.type = i) && decide (f1.type = i) && decide (f2.type = b) && decide (f3.type = b) && decide (f4.type = b) && decide (f5.type = b) && decide (f6.type = b) && decide (f7.type = i) && decide (f8.type = i)) = true)
    (hone2 : (oneCellFields P #[e0, e1, e2] && decide (e0.type = s) && decide (e1.type = s) && decide (e2.type = i)) = true)
    (hv : Value.okWide P w r b0 t v) (h : DataW.Trod enc P w base (fun _ => true) true t v d ps) : ∃ g : GV, v = g.val ∧ g.In w := by
  simp only [Bool.and_eq_true, decide_eq_true_eq] at hk
  obtain ⟨⟨⟨⟨⟨⟨⟨⟨⟨⟨⟨⟨t0, t1⟩, t2⟩, t3⟩, t4⟩, o0⟩, o1⟩, o2⟩, o3⟩, o4⟩, kR⟩, kQ⟩, ks⟩ := hk
  obtain ⟨cs, rfl, hsz⟩ := okWide_struct hG hv
  obtain ⟨l⟩ := cs
  match l, hsz.trans hC with
  | [c0, c1, c2, c3, c4, c5, c6, c7, c8, c9, c10, c11, c12, c13, c14, c15, c16], _ =>
    obtain ⟨fuel, hf⟩ := h
    obtain ⟨xs, n, _, hx, _, hlen, hg⟩ := DataW.trod_struct hG hf
    match xs, hlen with
    | [y0, y1, y2, y3, y4], _ =>
      have g0 : DataW.trod enc P w base (fun _ => true) true n R [c0, c1, c2, c3, c4, c5, c6, c7, c8] = some y0 := by simpa [Value.cells, o0, t0, kR] using hg 0 h0 rfl
      have g1 : DataW.trod enc P w base (fun _ => true) true n Q [c9, c10, c11] = some y1 := by simpa [Value.cells, o1, t1, kQ] using hg 1 h1 rfl
      have g2 : DataW.trod enc P w base (fun _ => true) true n s [c12] = some y2 := by simpa [Value.cells, o2, t2, ks] using hg 2 h2 rfl
      have g3 : DataW.trod enc P w base (fun _ => true) true n Q [c13, c14, c15] = some y3 := by simpa [Value.cells, o3, t3, kQ] using hg 3 h3 rfl
      have g4 : DataW.trod enc P w base (fun _ => true) true n i [c16] = some y4 := by simpa [Value.cells, o4, t4, hci] using hg 4 h4 rfl
      obtain ⟨x, ex, hx⟩ := rules_cells hR hi hb hone kR g0
      obtain ⟨q, eq, hq⟩ := pos_cells hQ hs hi hci hone2 kQ g1
      obtain ⟨mm, mn, mc, ms, rfl, lm, hm, rm⟩ := cell_row hs hi hci g2
      obtain ⟨r, er, hr⟩ := pos_cells hQ hs hi hci hone2 kQ g3
      obtain ⟨rg, rfl, hrg⟩ := cell_int hi g4
      simp only [RV.cells, List.cons.injEq, and_true] at ex
      obtain ⟨rfl, rfl, rfl, rfl, rfl, rfl, rfl, rfl, rfl⟩ := ex
      simp only [PV.cells, List.cons.injEq, and_true] at eq er
      obtain ⟨rfl, rfl, rfl⟩ := eq
      obtain ⟨rfl, rfl, rfl⟩ := er
      exact ⟨⟨x, q, mm, mn, mc, ms, r, rg⟩, rfl, hx, hq.1, hr.1, hrg, ⟨hq.2, rm, lm, hm, hr.2⟩⟩
end
end Go.Proofs.Ytenpnilljjfmkaa

/- Game1 -/
namespace Go.Proofs.Ytenpnilljjfmkaa
open Go.Joins Go.ChangeShapes Go.WideShapes Go.ChangeAt Go.RowKit Go.Deep
set_option linter.unusedVariables false

/-- A game in a block. -/
def GmAt (u : World) (b : Nat) (ggp ggs ggc ggl : Int) (ggst ggsk ggre ggfe ggag : Bool) (gga1 gga2 : Option Addr) (ggan1 ggac1 ggan2 ggac2 : Nat) (ggap : Int) (ggm : Option Addr) (ggmn ggmc : Nat) (ggb1 ggb2 : Option Addr) (ggbn1 ggbc1 ggbn2 ggbc2 : Nat) (ggbp ggrg : Int) : Prop := (b < u.heap.size ∧ u.cell? ⟨b, 0, none⟩ = some (.int .i64 ggp) ∧ u.cell? ⟨b, 1, none⟩ = some (.int .i64 ggs) ∧ u.cell? ⟨b, 2, none⟩ = some (.bool ggst) ∧ u.cell? ⟨b, 3, none⟩ = some (.bool ggsk) ∧ u.cell? ⟨b, 4, none⟩ = some (.bool ggre) ∧ u.cell? ⟨b, 5, none⟩ = some (.bool ggfe) ∧ u.cell? ⟨b, 6, none⟩ = some (.bool ggag) ∧ u.cell? ⟨b, 7, none⟩ = some (.int .i64 ggc) ∧ u.cell? ⟨b, 8, none⟩ = some (.int .i64 ggl) ∧ u.cell? ⟨b, 9, none⟩ = some (.slice gga1 ggan1 ggac1) ∧ u.cell? ⟨b, 10, none⟩ = some (.slice gga2 ggan2 ggac2) ∧ u.cell? ⟨b, 11, none⟩ = some (.int .i64 ggap) ∧ u.cell? ⟨b, 12, none⟩ = some (.slice ggm ggmn ggmc) ∧ u.cell? ⟨b, 13, none⟩ = some (.slice ggb1 ggbn1 ggbc1) ∧ u.cell? ⟨b, 14, none⟩ = some (.slice ggb2 ggbn2 ggbc2) ∧ u.cell? ⟨b, 15, none⟩ = some (.int .i64 ggbp) ∧ u.cell? ⟨b, 16, none⟩ = some (.int .i64 ggrg))
/-- The rows of a game. -/
structure GamR (w : World) (a1 a2 : Option Addr) (an1 an2 : Nat) (mm : Option Addr) (mn : Nat) (b1 b2 : Option Addr) (bn1 bn2 : Nat) (sx sy ms nx ny : List Int) : Prop where
  s : PosR w a1 a2 an1 an2 sx sy
  m : RowN w mm ms
  lm : ms.length = mn
  n : PosR w b1 b2 bn1 bn2 nx ny
section
variable {u v w : World} {b z : Nat} {ggp ggs ggc ggl : Int} {ggst ggsk ggre ggfe ggag : Bool} {gga1 gga2 : Option Addr} {ggan1 ggac1 ggan2 ggac2 : Nat} {ggap : Int} {ggm : Option Addr} {ggmn ggmc : Nat} {ggb1 ggb2 : Option Addr} {ggbn1 ggbc1 ggbn2 ggbc2 : Nat} {ggbp ggrg : Int} {sx sy ms nx ny : List Int}
theorem GmAt.below (h : GmAt u b ggp ggs ggc ggl ggst ggsk ggre ggfe ggag gga1 gga2 ggan1 ggac1 ggan2 ggac2 ggap ggm ggmn ggmc ggb1 ggb2 ggbn1 ggbc1 ggbn2 ggbc2 ggbp ggrg) (k : Below u.heap.size u v) : GmAt v b ggp ggs ggc ggl ggst ggsk ggre ggfe ggag gga1 gga2 ggan1 ggac1 ggan2 ggac2 ggap ggm ggmn ggmc ggb1 ggb2 ggbn1 ggbc1 ggbn2 ggbc2 ggbp ggrg := by
  obtain ⟨hb, h⟩ := h
  have e := fun o => k.cell (p := ⟨b, o, none⟩) hb
  exact ⟨Nat.lt_of_lt_of_le hb k.size, by rw [e, e, e, e, e, e, e, e, e, e, e, e, e, e, e, e, e]; exact h⟩
theorem GmAt.but (h : GmAt u b ggp ggs ggc ggl ggst ggsk ggre ggfe ggag gga1 gga2 ggan1 ggac1 ggan2 ggac2 ggap ggm ggmn ggmc ggb1 ggb2 ggbn1 ggbc1 ggbn2 ggbc2 ggbp ggrg) (k : But z u v) (hz : b ≠ z) : GmAt v b ggp ggs ggc ggl ggst ggsk ggre ggfe ggag gga1 gga2 ggan1 ggac1 ggan2 ggac2 ggap ggm ggmn ggmc ggb1 ggb2 ggbn1 ggbc1 ggbn2 ggbc2 ggbp ggrg := by
  obtain ⟨hb, h⟩ := h
  have e := fun o => k.cell (o := o) hb hz
  exact ⟨Nat.lt_of_lt_of_le hb k.size, by rw [e, e, e, e, e, e, e, e, e, e, e, e, e, e, e, e, e]; exact h⟩
theorem GmAt.range (h : GmAt u b ggp ggs ggc ggl ggst ggsk ggre ggfe ggag gga1 gga2 ggan1 ggac1 ggan2 ggac2 ggap ggm ggmn ggmc ggb1 ggb2 ggbn1 ggbc1 ggbn2 ggbc2 ggbp ggrg) : u.rangeAt b 0 [.int .i64 ggp, .int .i64 ggs, .bool ggst, .bool ggsk, .bool ggre, .bool ggfe, .bool ggag, .int .i64 ggc, .int .i64 ggl, .slice gga1 ggan1 ggac1, .slice gga2 ggan2 ggac2, .int .i64 ggap, .slice ggm ggmn ggmc, .slice ggb1 ggbn1 ggbc1, .slice ggb2 ggbn2 ggbc2, .int .i64 ggbp, .int .i64 ggrg] := by
  obtain ⟨_, m0, m1, m2, m3, m4, m5, m6, m7, m8, m9, m10, m11, m12, m13, m14, m15, m16⟩ := h
  intro j x hj
  match j, hj with
  | 0, hj => cases hj; exact m0
  | 1, hj => cases hj; exact m1
  | 2, hj => cases hj; exact m2
  | 3, hj => cases hj; exact m3
  | 4, hj => cases hj; exact m4
  | 5, hj => cases hj; exact m5
  | 6, hj => cases hj; exact m6
  | 7, hj => cases hj; exact m7
  | 8, hj => cases hj; exact m8
  | 9, hj => cases hj; exact m9
  | 10, hj => cases hj; exact m10
  | 11, hj => cases hj; exact m11
  | 12, hj => cases hj; exact m12
  | 13, hj => cases hj; exact m13
  | 14, hj => cases hj; exact m14
  | 15, hj => cases hj; exact m15
  | 16, hj => cases hj; exact m16
  | n + 17, hj => simp at hj
theorem GamR.below (h : GamR w gga1 gga2 ggan1 ggan2 ggm ggmn ggb1 ggb2 ggbn1 ggbn2 sx sy ms nx ny) (k : Below w.heap.size w v) : GamR v gga1 gga2 ggan1 ggan2 ggm ggmn ggb1 ggb2 ggbn1 ggbn2 sx sy ms nx ny :=
  ⟨h.s.below k, h.m.below k, h.lm, h.n.below k⟩
theorem GamW.toR (h : GamW w gga1 gga2 ggan1 ggan2 ggm ggmn ggb1 ggb2 ggbn1 ggbn2 sx sy ms nx ny) (hn : (ggan1 : Int) + ggan2 + ggmn + ggbn1 + ggbn2 ≤ 1048576) : GamR w gga1 gga2 ggan1 ggan2 ggm ggmn ggb1 ggb2 ggbn1 ggbn2 sx sy ms nx ny :=
  ⟨h.s.toR (by omega), h.m (by rw [h.lm]; omega), h.lm, h.n.toR (by omega)⟩
end
theorem gm_new (ggp ggs ggc ggl : Int) (ggst ggsk ggre ggfe ggag : Bool) (gga1 gga2 : Option Addr) (ggan1 ggac1 ggan2 ggac2 : Nat) (ggap : Int) (ggm : Option Addr) (ggmn ggmc : Nat) (ggb1 ggb2 : Option Addr) (ggbn1 ggbc1 ggbn2 ggbc2 : Nat) (ggbp ggrg : Int) (w : World) (T : TypeId) : GmAt (w.alloc (.cells #[.int .i64 ggp, .int .i64 ggs, .bool ggst, .bool ggsk, .bool ggre, .bool ggfe, .bool ggag, .int .i64 ggc, .int .i64 ggl, .slice gga1 ggan1 ggac1, .slice gga2 ggan2 ggac2, .int .i64 ggap, .slice ggm ggmn ggmc, .slice ggb1 ggbn1 ggbc1, .slice ggb2 ggbn2 ggbc2, .int .i64 ggbp, .int .i64 ggrg] T)) w.heap.size ggp ggs ggc ggl ggst ggsk ggre ggfe ggag gga1 gga2 ggan1 ggac1 ggan2 ggac2 ggap ggm ggmn ggmc ggb1 ggb2 ggbn1 ggbc1 ggbn2 ggbc2 ggbp ggrg :=
  ⟨by simp, by go_simp, by go_simp, by go_simp, by go_simp, by go_simp, by go_simp, by go_simp, by go_simp, by go_simp, by go_simp, by go_simp, by go_simp, by go_simp, by go_simp, by go_simp, by go_simp, by go_simp⟩
/-- A variable of 17 cells that may be written. -/
structure G17 (u : World) (z : Nat) (v0 v1 v2 v3 v4 v5 v6 v7 v8 v9 v10 v11 v12 v13 v14 v15 v16 : Value) : Prop where
  lt : z < u.heap.size
  c0 : u.cell? ⟨z, 0, none⟩ = some v0
  c1 : u.cell? ⟨z, 1, none⟩ = some v1
  c2 : u.cell? ⟨z, 2, none⟩ = some v2
  c3 : u.cell? ⟨z, 3, none⟩ = some v3
  c4 : u.cell? ⟨z, 4, none⟩ = some v4
  c5 : u.cell? ⟨z, 5, none⟩ = some v5
  c6 : u.cell? ⟨z, 6, none⟩ = some v6
  c7 : u.cell? ⟨z, 7, none⟩ = some v7
  c8 : u.cell? ⟨z, 8, none⟩ = some v8
  c9 : u.cell? ⟨z, 9, none⟩ = some v9
  c10 : u.cell? ⟨z, 10, none⟩ = some v10
  c11 : u.cell? ⟨z, 11, none⟩ = some v11
  c12 : u.cell? ⟨z, 12, none⟩ = some v12
  c13 : u.cell? ⟨z, 13, none⟩ = some v13
  c14 : u.cell? ⟨z, 14, none⟩ = some v14
  c15 : u.cell? ⟨z, 15, none⟩ = some v15
  c16 : u.cell? ⟨z, 16, none⟩ = some v16
  fr : ∀ o, u.frozen? ⟨z, o, none⟩ = false
theorem G17.below {u v : World} {z : Nat} {v0 v1 v2 v3 v4 v5 v6 v7 v8 v9 v10 v11 v12 v13 v14 v15 v16 : Value} (h : G17 u z v0 v1 v2 v3 v4 v5 v6 v7 v8 v9 v10 v11 v12 v13 v14 v15 v16) (k : Below u.heap.size u v) : G17 v z v0 v1 v2 v3 v4 v5 v6 v7 v8 v9 v10 v11 v12 v13 v14 v15 v16 := by
  have e := fun o => k.cell (p := ⟨z, o, none⟩) h.lt
  exact ⟨Nat.lt_of_lt_of_le h.lt k.size, (e _).trans h.c0, (e _).trans h.c1, (e _).trans h.c2, (e _).trans h.c3, (e _).trans h.c4, (e _).trans h.c5, (e _).trans h.c6, (e _).trans h.c7, (e _).trans h.c8, (e _).trans h.c9, (e _).trans h.c10, (e _).trans h.c11, (e _).trans h.c12, (e _).trans h.c13, (e _).trans h.c14, (e _).trans h.c15, (e _).trans h.c16, fun o => (k.frozen (p := ⟨z, o, none⟩) h.lt).trans (h.fr o)⟩
theorem G17.but {u v : World} {z b : Nat} {v0 v1 v2 v3 v4 v5 v6 v7 v8 v9 v10 v11 v12 v13 v14 v15 v16 : Value} (h : G17 u z v0 v1 v2 v3 v4 v5 v6 v7 v8 v9 v10 v11 v12 v13 v14 v15 v16) (k : But b u v) (hb : z ≠ b) : G17 v z v0 v1 v2 v3 v4 v5 v6 v7 v8 v9 v10 v11 v12 v13 v14 v15 v16 := by
  have e := fun o => k.cell (o := o) h.lt hb
  exact ⟨Nat.lt_of_lt_of_le h.lt k.size, (e _).trans h.c0, (e _).trans h.c1, (e _).trans h.c2, (e _).trans h.c3, (e _).trans h.c4, (e _).trans h.c5, (e _).trans h.c6, (e _).trans h.c7, (e _).trans h.c8, (e _).trans h.c9, (e _).trans h.c10, (e _).trans h.c11, (e _).trans h.c12, (e _).trans h.c13, (e _).trans h.c14, (e _).trans h.c15, (e _).trans h.c16, fun o => (k.frozen h.lt hb).trans (h.fr o)⟩
theorem G17.there {u : World} {z : Nat} {v0 v1 v2 v3 v4 v5 v6 v7 v8 v9 v10 v11 v12 v13 v14 v15 v16 : Value} (h : G17 u z v0 v1 v2 v3 v4 v5 v6 v7 v8 v9 v10 v11 v12 v13 v14 v15 v16) : u.there z 0 17 := fun j hj => by
  match j, hj with
  | 0, _ => exact ⟨by show (u.cell? ⟨z, 0, none⟩).isSome = true; rw [h.c0]; rfl, h.fr 0⟩
  | 1, _ => exact ⟨by show (u.cell? ⟨z, 1, none⟩).isSome = true; rw [h.c1]; rfl, h.fr 1⟩
  | 2, _ => exact ⟨by show (u.cell? ⟨z, 2, none⟩).isSome = true; rw [h.c2]; rfl, h.fr 2⟩
  | 3, _ => exact ⟨by show (u.cell? ⟨z, 3, none⟩).isSome = true; rw [h.c3]; rfl, h.fr 3⟩
  | 4, _ => exact ⟨by show (u.cell? ⟨z, 4, none⟩).isSome = true; rw [h.c4]; rfl, h.fr 4⟩
  | 5, _ => exact ⟨by show (u.cell? ⟨z, 5, none⟩).isSome = true; rw [h.c5]; rfl, h.fr 5⟩
  | 6, _ => exact ⟨by show (u.cell? ⟨z, 6, none⟩).isSome = true; rw [h.c6]; rfl, h.fr 6⟩
  | 7, _ => exact ⟨by show (u.cell? ⟨z, 7, none⟩).isSome = true; rw [h.c7]; rfl, h.fr 7⟩
  | 8, _ => exact ⟨by show (u.cell? ⟨z, 8, none⟩).isSome = true; rw [h.c8]; rfl, h.fr 8⟩
  | 9, _ => exact ⟨by show (u.cell? ⟨z, 9, none⟩).isSome = true; rw [h.c9]; rfl, h.fr 9⟩
  | 10, _ => exact ⟨by show (u.cell? ⟨z, 10, none⟩).isSome = true; rw [h.c10]; rfl, h.fr 10⟩
  | 11, _ => exact ⟨by show (u.cell? ⟨z, 11, none⟩).isSome = true; rw [h.c11]; rfl, h.fr 11⟩
  | 12, _ => exact ⟨by show (u.cell? ⟨z, 12, none⟩).isSome = true; rw [h.c12]; rfl, h.fr 12⟩
  | 13, _ => exact ⟨by show (u.cell? ⟨z, 13, none⟩).isSome = true; rw [h.c13]; rfl, h.fr 13⟩
  | 14, _ => exact ⟨by show (u.cell? ⟨z, 14, none⟩).isSome = true; rw [h.c14]; rfl, h.fr 14⟩
  | 15, _ => exact ⟨by show (u.cell? ⟨z, 15, none⟩).isSome = true; rw [h.c15]; rfl, h.fr 15⟩
  | 16, _ => exact ⟨by show (u.cell? ⟨z, 16, none⟩).isSome = true; rw [h.c16]; rfl, h.fr 16⟩
  | n + 17, h => exact absurd h (by omega)
theorem g17_new (w : World) (T : TypeId) : G17 (w.alloc (.cells #[.int .i64 0, .int .i64 0, .bool false, .bool false, .bool false, .bool false, .bool false, .int .i64 0, .int .i64 0, .slice none 0 0, .slice none 0 0, .int .i64 0, .slice none 0 0, .slice none 0 0, .slice none 0 0, .int .i64 0, .int .i64 0] T)) w.heap.size (.int .i64 0) (.int .i64 0) (.bool false) (.bool false) (.bool false) (.bool false) (.bool false) (.int .i64 0) (.int .i64 0) (.slice none 0 0) (.slice none 0 0) (.int .i64 0) (.slice none 0 0) (.slice none 0 0) (.slice none 0 0) (.int .i64 0) (.int .i64 0) :=
  ⟨by simp, by go_simp, by go_simp, by go_simp, by go_simp, by go_simp, by go_simp, by go_simp, by go_simp, by go_simp, by go_simp, by go_simp, by go_simp, by go_simp, by go_simp, by go_simp, by go_simp, by go_simp, fun o => by go_simp⟩
theorem G17.gm {u : World} {z : Nat} {ggp ggs ggc ggl : Int} {ggst ggsk ggre ggfe ggag : Bool} {gga1 gga2 : Option Addr} {ggan1 ggac1 ggan2 ggac2 : Nat} {ggap : Int} {ggm : Option Addr} {ggmn ggmc : Nat} {ggb1 ggb2 : Option Addr} {ggbn1 ggbc1 ggbn2 ggbc2 : Nat} {ggbp ggrg : Int} (h : G17 u z (.int .i64 ggp) (.int .i64 ggs) (.bool ggst) (.bool ggsk) (.bool ggre) (.bool ggfe) (.bool ggag) (.int .i64 ggc) (.int .i64 ggl) (.slice gga1 ggan1 ggac1) (.slice gga2 ggan2 ggac2) (.int .i64 ggap) (.slice ggm ggmn ggmc) (.slice ggb1 ggbn1 ggbc1) (.slice ggb2 ggbn2 ggbc2) (.int .i64 ggbp) (.int .i64 ggrg)) : GmAt u z ggp ggs ggc ggl ggst ggsk ggre ggfe ggag gga1 gga2 ggan1 ggac1 ggan2 ggac2 ggap ggm ggmn ggmc ggb1 ggb2 ggbn1 ggbc1 ggbn2 ggbc2 ggbp ggrg := ⟨h.lt, h.c0, h.c1, h.c2, h.c3, h.c4, h.c5, h.c6, h.c7, h.c8, h.c9, h.c10, h.c11, h.c12, h.c13, h.c14, h.c15, h.c16⟩
theorem G17.setR {u : World} {z : Nat} {v0 v1 v2 v3 v4 v5 v6 v7 v8 v9 v10 v11 v12 v13 v14 v15 v16 : Value} (h : G17 u z v0 v1 v2 v3 v4 v5 v6 v7 v8 v9 v10 v11 v12 v13 v14 v15 v16) (x0 x1 x2 x3 x4 x5 x6 x7 x8 : Value) : G17 (((((((((u.setCell ⟨z, 0, none⟩ x0).setCell ⟨z, 1, none⟩ x1).setCell ⟨z, 2, none⟩ x2).setCell ⟨z, 3, none⟩ x3).setCell ⟨z, 4, none⟩ x4).setCell ⟨z, 5, none⟩ x5).setCell ⟨z, 6, none⟩ x6).setCell ⟨z, 7, none⟩ x7).setCell ⟨z, 8, none⟩ x8) z x0 x1 x2 x3 x4 x5 x6 x7 x8 v9 v10 v11 v12 v13 v14 v15 v16 := by
  obtain ⟨zl, z0, z1, z2, z3, z4, z5, z6, z7, z8, z9, z10, z11, z12, z13, z14, z15, z16, zf⟩ := h
  have f0 := zf 0
  have f1 := zf 1
  have f2 := zf 2
  have f3 := zf 3
  have f4 := zf 4
  have f5 := zf 5
  have f6 := zf 6
  have f7 := zf 7
  have f8 := zf 8
  exact ⟨by simpa using zl, by go_simp, by go_simp, by go_simp, by go_simp, by go_simp, by go_simp, by go_simp, by go_simp, by go_simp, by go_simp, by go_simp, by go_simp, by go_simp, by go_simp, by go_simp, by go_simp, by go_simp, fun o => by have := zf o; go_simp⟩
theorem but_setR (z : Nat) (u : World) (x0 x1 x2 x3 x4 x5 x6 x7 x8 : Value) : But z u (((((((((u.setCell ⟨z, 0, none⟩ x0).setCell ⟨z, 1, none⟩ x1).setCell ⟨z, 2, none⟩ x2).setCell ⟨z, 3, none⟩ x3).setCell ⟨z, 4, none⟩ x4).setCell ⟨z, 5, none⟩ x5).setCell ⟨z, 6, none⟩ x6).setCell ⟨z, 7, none⟩ x7).setCell ⟨z, 8, none⟩ x8) := (((((((((But.refl z u).setCell (p := ⟨z, 0, none⟩) rfl x0).setCell (p := ⟨z, 1, none⟩) rfl x1).setCell (p := ⟨z, 2, none⟩) rfl x2).setCell (p := ⟨z, 3, none⟩) rfl x3).setCell (p := ⟨z, 4, none⟩) rfl x4).setCell (p := ⟨z, 5, none⟩) rfl x5).setCell (p := ⟨z, 6, none⟩) rfl x6).setCell (p := ⟨z, 7, none⟩) rfl x7).setCell (p := ⟨z, 8, none⟩) rfl x8
theorem G17.setS {u : World} {z : Nat} {v0 v1 v2 v3 v4 v5 v6 v7 v8 v9 v10 v11 v12 v13 v14 v15 v16 : Value} (h : G17 u z v0 v1 v2 v3 v4 v5 v6 v7 v8 v9 v10 v11 v12 v13 v14 v15 v16) (x9 x10 x11 : Value) : G17 (((u.setCell ⟨z, 9, none⟩ x9).setCell ⟨z, 10, none⟩ x10).setCell ⟨z, 11, none⟩ x11) z v0 v1 v2 v3 v4 v5 v6 v7 v8 x9 x10 x11 v12 v13 v14 v15 v16 := by
  obtain ⟨zl, z0, z1, z2, z3, z4, z5, z6, z7, z8, z9, z10, z11, z12, z13, z14, z15, z16, zf⟩ := h
  have f9 := zf 9
  have f10 := zf 10
  have f11 := zf 11
  exact ⟨by simpa using zl, by go_simp, by go_simp, by go_simp, by go_simp, by go_simp, by go_simp, by go_simp, by go_simp, by go_simp, by go_simp, by go_simp, by go_simp, by go_simp, by go_simp, by go_simp, by go_simp, by go_simp, fun o => by have := zf o; go_simp⟩
theorem but_setS (z : Nat) (u : World) (x9 x10 x11 : Value) : But z u (((u.setCell ⟨z, 9, none⟩ x9).setCell ⟨z, 10, none⟩ x10).setCell ⟨z, 11, none⟩ x11) := (((But.refl z u).setCell (p := ⟨z, 9, none⟩) rfl x9).setCell (p := ⟨z, 10, none⟩) rfl x10).setCell (p := ⟨z, 11, none⟩) rfl x11
theorem G17.setM {u : World} {z : Nat} {v0 v1 v2 v3 v4 v5 v6 v7 v8 v9 v10 v11 v12 v13 v14 v15 v16 : Value} (h : G17 u z v0 v1 v2 v3 v4 v5 v6 v7 v8 v9 v10 v11 v12 v13 v14 v15 v16) (x12 : Value) : G17 (u.setCell ⟨z, 12, none⟩ x12) z v0 v1 v2 v3 v4 v5 v6 v7 v8 v9 v10 v11 x12 v13 v14 v15 v16 := by
  obtain ⟨zl, z0, z1, z2, z3, z4, z5, z6, z7, z8, z9, z10, z11, z12, z13, z14, z15, z16, zf⟩ := h
  have f12 := zf 12
  exact ⟨by simpa using zl, by go_simp, by go_simp, by go_simp, by go_simp, by go_simp, by go_simp, by go_simp, by go_simp, by go_simp, by go_simp, by go_simp, by go_simp, by go_simp, by go_simp, by go_simp, by go_simp, by go_simp, fun o => by have := zf o; go_simp⟩
theorem but_setM (z : Nat) (u : World) (x12 : Value) : But z u (u.setCell ⟨z, 12, none⟩ x12) := (But.refl z u).setCell (p := ⟨z, 12, none⟩) rfl x12
theorem G17.setN {u : World} {z : Nat} {v0 v1 v2 v3 v4 v5 v6 v7 v8 v9 v10 v11 v12 v13 v14 v15 v16 : Value} (h : G17 u z v0 v1 v2 v3 v4 v5 v6 v7 v8 v9 v10 v11 v12 v13 v14 v15 v16) (x13 x14 x15 : Value) : G17 (((u.setCell ⟨z, 13, none⟩ x13).setCell ⟨z, 14, none⟩ x14).setCell ⟨z, 15, none⟩ x15) z v0 v1 v2 v3 v4 v5 v6 v7 v8 v9 v10 v11 v12 x13 x14 x15 v16 := by
  obtain ⟨zl, z0, z1, z2, z3, z4, z5, z6, z7, z8, z9, z10, z11, z12, z13, z14, z15, z16, zf⟩ := h
  have f13 := zf 13
  have f14 := zf 14
  have f15 := zf 15
  exact ⟨by simpa using zl, by go_simp, by go_simp, by go_simp, by go_simp, by go_simp, by go_simp, by go_simp, by go_simp, by go_simp, by go_simp, by go_simp, by go_simp, by go_simp, by go_simp, by go_simp, by go_simp, by go_simp, fun o => by have := zf o; go_simp⟩
theorem but_setN (z : Nat) (u : World) (x13 x14 x15 : Value) : But z u (((u.setCell ⟨z, 13, none⟩ x13).setCell ⟨z, 14, none⟩ x14).setCell ⟨z, 15, none⟩ x15) := (((But.refl z u).setCell (p := ⟨z, 13, none⟩) rfl x13).setCell (p := ⟨z, 14, none⟩) rfl x14).setCell (p := ⟨z, 15, none⟩) rfl x15
theorem G17.setG {u : World} {z : Nat} {v0 v1 v2 v3 v4 v5 v6 v7 v8 v9 v10 v11 v12 v13 v14 v15 v16 : Value} (h : G17 u z v0 v1 v2 v3 v4 v5 v6 v7 v8 v9 v10 v11 v12 v13 v14 v15 v16) (x16 : Value) : G17 (u.setCell ⟨z, 16, none⟩ x16) z v0 v1 v2 v3 v4 v5 v6 v7 v8 v9 v10 v11 v12 v13 v14 v15 x16 := by
  obtain ⟨zl, z0, z1, z2, z3, z4, z5, z6, z7, z8, z9, z10, z11, z12, z13, z14, z15, z16, zf⟩ := h
  have f16 := zf 16
  exact ⟨by simpa using zl, by go_simp, by go_simp, by go_simp, by go_simp, by go_simp, by go_simp, by go_simp, by go_simp, by go_simp, by go_simp, by go_simp, by go_simp, by go_simp, by go_simp, by go_simp, by go_simp, by go_simp, fun o => by have := zf o; go_simp⟩
theorem but_setG (z : Nat) (u : World) (x16 : Value) : But z u (u.setCell ⟨z, 16, none⟩ x16) := (But.refl z u).setCell (p := ⟨z, 16, none⟩) rfl x16
end Go.Proofs.Ytenpnilljjfmkaa

/- Game2 -/
namespace Go.Proofs.Ytenpnilljjfmkaa
open Go.Joins Go.ChangeShapes Go.WideShapes Go.ChangeAt Go.RowKit Go.Deep
set_option linter.unusedVariables false

/-- The rows of a game of a call's own. -/
structure GamO (w : World) (B : Nat) (a1 a2 : Option Addr) (k1 k2 an1 an2 : Nat) (mm : Option Addr) (k3 mn : Nat) (b1 b2 : Option Addr) (k4 k5 bn1 bn2 : Nat) (sx sy ms nx ny : List Int) : Prop where
  s : PosO w B a1 a2 k1 k2 an1 an2 sx sy
  m : OutN w B mm k3 ms
  lm : ms.length = mn
  n : PosO w B b1 b2 k4 k5 bn1 bn2 nx ny
theorem GamO.r {w : World} {B : Nat} {a1 a2 : Option Addr} {k1 k2 an1 an2 : Nat} {mm : Option Addr} {k3 mn : Nat} {b1 b2 : Option Addr} {k4 k5 bn1 bn2 : Nat} {sx sy ms nx ny : List Int} (h : GamO w B a1 a2 k1 k2 an1 an2 mm k3 mn b1 b2 k4 k5 bn1 bn2 sx sy ms nx ny) : GamR w a1 a2 an1 an2 mm mn b1 b2 bn1 bn2 sx sy ms nx ny :=
  ⟨h.s.r, h.m.row, h.lm, h.n.r⟩
theorem GamO.below {w v : World} {B : Nat} {a1 a2 : Option Addr} {k1 k2 an1 an2 : Nat} {mm : Option Addr} {k3 mn : Nat} {b1 b2 : Option Addr} {k4 k5 bn1 bn2 : Nat} {sx sy ms nx ny : List Int} (h : GamO w B a1 a2 k1 k2 an1 an2 mm k3 mn b1 b2 k4 k5 bn1 bn2 sx sy ms nx ny) (k : Below w.heap.size w v) : GamO v B a1 a2 k1 k2 an1 an2 mm k3 mn b1 b2 k4 k5 bn1 bn2 sx sy ms nx ny :=
  ⟨h.s.below k, h.m.below k, h.lm, h.n.below k⟩
/-- A turned game. -/
def GamP (p s c l : Int) (st sk re fe ag : Bool) (an1 an2 : Nat) (ap : Int) (mn bn1 bn2 : Nat) (bp rg : Int) (sx sy ms nx ny : List Int) (w : World) (e : Ending) (w' : World) : Prop :=
  ∃ g1 g2 g3 g4 g5, e = .returned (.agg #[.int .i64 p, .int .i64 s, .bool st, .bool sk, .bool re, .bool fe, .bool ag, .int .i64 c, .int .i64 l, .slice (some ⟨g1, 0, none⟩) an1 an1, .slice (some ⟨g2, 0, none⟩) an2 an2, .int .i64 ap, .slice (some ⟨g3, 0, none⟩) mn mn, .slice (some ⟨g4, 0, none⟩) bn1 bn1, .slice (some ⟨g5, 0, none⟩) bn2 bn2, .int .i64 bp, .int .i64 rg]) ∧ GamO w' w.heap.size (some ⟨g1, 0, none⟩) (some ⟨g2, 0, none⟩) g1 g2 an1 an2 (some ⟨g3, 0, none⟩) g3 mn (some ⟨g4, 0, none⟩) (some ⟨g5, 0, none⟩) g4 g5 bn1 bn2 sx sy ms nx ny ∧ (g1 < w'.heap.size ∧ g2 < w'.heap.size ∧ g3 < w'.heap.size ∧ g4 < w'.heap.size ∧ g5 < w'.heap.size) ∧ Below w.heap.size w w'
/-- What the walk of toGame holds: the game's own box, the result's variable, the game under way. -/
structure TGm (w u : World) (ggp ggs ggc ggl : Int) (ggst ggsk ggre ggfe ggag : Bool) (gga1 gga2 : Option Addr) (ggan1 ggac1 ggan2 ggac2 : Nat) (ggap : Int) (ggm : Option Addr) (ggmn ggmc : Nat) (ggb1 ggb2 : Option Addr) (ggbn1 ggbc1 ggbn2 ggbc2 : Nat) (ggbp ggrg : Int) (v0 v1 v2 v3 v4 v5 v6 v7 v8 v9 v10 v11 v12 v13 v14 v15 v16 : Value) : Prop where
  a : GmAt u w.heap.size ggp ggs ggc ggl ggst ggsk ggre ggfe ggag gga1 gga2 ggan1 ggac1 ggan2 ggac2 ggap ggm ggmn ggmc ggb1 ggb2 ggbn1 ggbc1 ggbn2 ggbc2 ggbp ggrg
  r : G17 u (w.heap.size + 1) (.int .i64 0) (.int .i64 0) (.bool false) (.bool false) (.bool false) (.bool false) (.bool false) (.int .i64 0) (.int .i64 0) (.slice none 0 0) (.slice none 0 0) (.int .i64 0) (.slice none 0 0) (.slice none 0 0) (.slice none 0 0) (.int .i64 0) (.int .i64 0)
  z : G17 u (w.heap.size + 1 + 1) v0 v1 v2 v3 v4 v5 v6 v7 v8 v9 v10 v11 v12 v13 v14 v15 v16
  b : Below w.heap.size w u
section
variable {w u v : World} {b : Nat} {ggp ggs ggc ggl : Int} {ggst ggsk ggre ggfe ggag : Bool} {gga1 gga2 : Option Addr} {ggan1 ggac1 ggan2 ggac2 : Nat} {ggap : Int} {ggm : Option Addr} {ggmn ggmc : Nat} {ggb1 ggb2 : Option Addr} {ggbn1 ggbc1 ggbn2 ggbc2 : Nat} {ggbp ggrg : Int} {v0 v1 v2 v3 v4 v5 v6 v7 v8 v9 v10 v11 v12 v13 v14 v15 v16 : Value}
theorem TGm.below (h : TGm w u ggp ggs ggc ggl ggst ggsk ggre ggfe ggag gga1 gga2 ggan1 ggac1 ggan2 ggac2 ggap ggm ggmn ggmc ggb1 ggb2 ggbn1 ggbc1 ggbn2 ggbc2 ggbp ggrg v0 v1 v2 v3 v4 v5 v6 v7 v8 v9 v10 v11 v12 v13 v14 v15 v16) (k : Below u.heap.size u v) : TGm w v ggp ggs ggc ggl ggst ggsk ggre ggfe ggag gga1 gga2 ggan1 ggac1 ggan2 ggac2 ggap ggm ggmn ggmc ggb1 ggb2 ggbn1 ggbc1 ggbn2 ggbc2 ggbp ggrg v0 v1 v2 v3 v4 v5 v6 v7 v8 v9 v10 v11 v12 v13 v14 v15 v16 :=
  ⟨h.a.below k, h.r.below k, h.z.below k, h.b.trans (k.mono h.b.size)⟩
theorem TGm.setR (h : TGm w u ggp ggs ggc ggl ggst ggsk ggre ggfe ggag gga1 gga2 ggan1 ggac1 ggan2 ggac2 ggap ggm ggmn ggmc ggb1 ggb2 ggbn1 ggbc1 ggbn2 ggbc2 ggbp ggrg v0 v1 v2 v3 v4 v5 v6 v7 v8 v9 v10 v11 v12 v13 v14 v15 v16) (x0 x1 x2 x3 x4 x5 x6 x7 x8 : Value) : TGm w (((((((((u.setCell ⟨w.heap.size + 1 + 1, 0, none⟩ x0).setCell ⟨w.heap.size + 1 + 1, 1, none⟩ x1).setCell ⟨w.heap.size + 1 + 1, 2, none⟩ x2).setCell ⟨w.heap.size + 1 + 1, 3, none⟩ x3).setCell ⟨w.heap.size + 1 + 1, 4, none⟩ x4).setCell ⟨w.heap.size + 1 + 1, 5, none⟩ x5).setCell ⟨w.heap.size + 1 + 1, 6, none⟩ x6).setCell ⟨w.heap.size + 1 + 1, 7, none⟩ x7).setCell ⟨w.heap.size + 1 + 1, 8, none⟩ x8) ggp ggs ggc ggl ggst ggsk ggre ggfe ggag gga1 gga2 ggan1 ggac1 ggan2 ggac2 ggap ggm ggmn ggmc ggb1 ggb2 ggbn1 ggbc1 ggbn2 ggbc2 ggbp ggrg x0 x1 x2 x3 x4 x5 x6 x7 x8 v9 v10 v11 v12 v13 v14 v15 v16 :=
  have k := but_setR (w.heap.size + 1 + 1) u x0 x1 x2 x3 x4 x5 x6 x7 x8
  ⟨h.a.but k (by omega), h.r.but k (by omega), h.z.setR x0 x1 x2 x3 x4 x5 x6 x7 x8, But.below h.b k (by omega) h.b.size⟩
theorem TGm.setS (h : TGm w u ggp ggs ggc ggl ggst ggsk ggre ggfe ggag gga1 gga2 ggan1 ggac1 ggan2 ggac2 ggap ggm ggmn ggmc ggb1 ggb2 ggbn1 ggbc1 ggbn2 ggbc2 ggbp ggrg v0 v1 v2 v3 v4 v5 v6 v7 v8 v9 v10 v11 v12 v13 v14 v15 v16) (x9 x10 x11 : Value) : TGm w (((u.setCell ⟨w.heap.size + 1 + 1, 9, none⟩ x9).setCell ⟨w.heap.size + 1 + 1, 10, none⟩ x10).setCell ⟨w.heap.size + 1 + 1, 11, none⟩ x11) ggp ggs ggc ggl ggst ggsk ggre ggfe ggag gga1 gga2 ggan1 ggac1 ggan2 ggac2 ggap ggm ggmn ggmc ggb1 ggb2 ggbn1 ggbc1 ggbn2 ggbc2 ggbp ggrg v0 v1 v2 v3 v4 v5 v6 v7 v8 x9 x10 x11 v12 v13 v14 v15 v16 :=
  have k := but_setS (w.heap.size + 1 + 1) u x9 x10 x11
  ⟨h.a.but k (by omega), h.r.but k (by omega), h.z.setS x9 x10 x11, But.below h.b k (by omega) h.b.size⟩
theorem TGm.setM (h : TGm w u ggp ggs ggc ggl ggst ggsk ggre ggfe ggag gga1 gga2 ggan1 ggac1 ggan2 ggac2 ggap ggm ggmn ggmc ggb1 ggb2 ggbn1 ggbc1 ggbn2 ggbc2 ggbp ggrg v0 v1 v2 v3 v4 v5 v6 v7 v8 v9 v10 v11 v12 v13 v14 v15 v16) (x12 : Value) : TGm w (u.setCell ⟨w.heap.size + 1 + 1, 12, none⟩ x12) ggp ggs ggc ggl ggst ggsk ggre ggfe ggag gga1 gga2 ggan1 ggac1 ggan2 ggac2 ggap ggm ggmn ggmc ggb1 ggb2 ggbn1 ggbc1 ggbn2 ggbc2 ggbp ggrg v0 v1 v2 v3 v4 v5 v6 v7 v8 v9 v10 v11 x12 v13 v14 v15 v16 :=
  have k := but_setM (w.heap.size + 1 + 1) u x12
  ⟨h.a.but k (by omega), h.r.but k (by omega), h.z.setM x12, But.below h.b k (by omega) h.b.size⟩
theorem TGm.setN (h : TGm w u ggp ggs ggc ggl ggst ggsk ggre ggfe ggag gga1 gga2 ggan1 ggac1 ggan2 ggac2 ggap ggm ggmn ggmc ggb1 ggb2 ggbn1 ggbc1 ggbn2 ggbc2 ggbp ggrg v0 v1 v2 v3 v4 v5 v6 v7 v8 v9 v10 v11 v12 v13 v14 v15 v16) (x13 x14 x15 : Value) : TGm w (((u.setCell ⟨w.heap.size + 1 + 1, 13, none⟩ x13).setCell ⟨w.heap.size + 1 + 1, 14, none⟩ x14).setCell ⟨w.heap.size + 1 + 1, 15, none⟩ x15) ggp ggs ggc ggl ggst ggsk ggre ggfe ggag gga1 gga2 ggan1 ggac1 ggan2 ggac2 ggap ggm ggmn ggmc ggb1 ggb2 ggbn1 ggbc1 ggbn2 ggbc2 ggbp ggrg v0 v1 v2 v3 v4 v5 v6 v7 v8 v9 v10 v11 v12 x13 x14 x15 v16 :=
  have k := but_setN (w.heap.size + 1 + 1) u x13 x14 x15
  ⟨h.a.but k (by omega), h.r.but k (by omega), h.z.setN x13 x14 x15, But.below h.b k (by omega) h.b.size⟩
theorem TGm.setG (h : TGm w u ggp ggs ggc ggl ggst ggsk ggre ggfe ggag gga1 gga2 ggan1 ggac1 ggan2 ggac2 ggap ggm ggmn ggmc ggb1 ggb2 ggbn1 ggbc1 ggbn2 ggbc2 ggbp ggrg v0 v1 v2 v3 v4 v5 v6 v7 v8 v9 v10 v11 v12 v13 v14 v15 v16) (x16 : Value) : TGm w (u.setCell ⟨w.heap.size + 1 + 1, 16, none⟩ x16) ggp ggs ggc ggl ggst ggsk ggre ggfe ggag gga1 gga2 ggan1 ggac1 ggan2 ggac2 ggap ggm ggmn ggmc ggb1 ggb2 ggbn1 ggbc1 ggbn2 ggbc2 ggbp ggrg v0 v1 v2 v3 v4 v5 v6 v7 v8 v9 v10 v11 v12 v13 v14 v15 x16 :=
  have k := but_setG (w.heap.size + 1 + 1) u x16
  ⟨h.a.but k (by omega), h.r.but k (by omega), h.z.setG x16, But.below h.b k (by omega) h.b.size⟩
theorem TGm.rg (h : G17 u b v0 v1 v2 v3 v4 v5 v6 v7 v8 v9 v10 v11 v12 v13 v14 v15 v16) : u.rangeAt b 0 [v0, v1, v2, v3, v4, v5, v6, v7, v8, v9, v10, v11, v12, v13, v14, v15, v16] := by
  intro j x hj
  match j, hj with
  | 0, hj => cases hj; exact h.c0
  | 1, hj => cases hj; exact h.c1
  | 2, hj => cases hj; exact h.c2
  | 3, hj => cases hj; exact h.c3
  | 4, hj => cases hj; exact h.c4
  | 5, hj => cases hj; exact h.c5
  | 6, hj => cases hj; exact h.c6
  | 7, hj => cases hj; exact h.c7
  | 8, hj => cases hj; exact h.c8
  | 9, hj => cases hj; exact h.c9
  | 10, hj => cases hj; exact h.c10
  | 11, hj => cases hj; exact h.c11
  | 12, hj => cases hj; exact h.c12
  | 13, hj => cases hj; exact h.c13
  | 14, hj => cases hj; exact h.c14
  | 15, hj => cases hj; exact h.c15
  | 16, hj => cases hj; exact h.c16
  | n + 17, hj => simp at hj
end
theorem tgm_new (ggp ggs ggc ggl : Int) (ggst ggsk ggre ggfe ggag : Bool) (gga1 gga2 : Option Addr) (ggan1 ggac1 ggan2 ggac2 : Nat) (ggap : Int) (ggm : Option Addr) (ggmn ggmc : Nat) (ggb1 ggb2 : Option Addr) (ggbn1 ggbc1 ggbn2 ggbc2 : Nat) (ggbp ggrg : Int) (w : World) (T U : TypeId) : TGm w (((w.alloc (.cells #[.int .i64 ggp, .int .i64 ggs, .bool ggst, .bool ggsk, .bool ggre, .bool ggfe, .bool ggag, .int .i64 ggc, .int .i64 ggl, .slice gga1 ggan1 ggac1, .slice gga2 ggan2 ggac2, .int .i64 ggap, .slice ggm ggmn ggmc, .slice ggb1 ggbn1 ggbc1, .slice ggb2 ggbn2 ggbc2, .int .i64 ggbp, .int .i64 ggrg] T)).alloc (.cells #[.int .i64 0, .int .i64 0, .bool false, .bool false, .bool false, .bool false, .bool false, .int .i64 0, .int .i64 0, .slice none 0 0, .slice none 0 0, .int .i64 0, .slice none 0 0, .slice none 0 0, .slice none 0 0, .int .i64 0, .int .i64 0] U)).alloc (.cells #[.int .i64 0, .int .i64 0, .bool false, .bool false, .bool false, .bool false, .bool false, .int .i64 0, .int .i64 0, .slice none 0 0, .slice none 0 0, .int .i64 0, .slice none 0 0, .slice none 0 0, .slice none 0 0, .int .i64 0, .int .i64 0] U)) ggp ggs ggc ggl ggst ggsk ggre ggfe ggag gga1 gga2 ggan1 ggac1 ggan2 ggac2 ggap ggm ggmn ggmc ggb1 ggb2 ggbn1 ggbc1 ggbn2 ggbc2 ggbp ggrg (.int .i64 0) (.int .i64 0) (.bool false) (.bool false) (.bool false) (.bool false) (.bool false) (.int .i64 0) (.int .i64 0) (.slice none 0 0) (.slice none 0 0) (.int .i64 0) (.slice none 0 0) (.slice none 0 0) (.slice none 0 0) (.int .i64 0) (.int .i64 0) := by
  have k1 := al2 (w.alloc (.cells #[.int .i64 ggp, .int .i64 ggs, .bool ggst, .bool ggsk, .bool ggre, .bool ggfe, .bool ggag, .int .i64 ggc, .int .i64 ggl, .slice gga1 ggan1 ggac1, .slice gga2 ggan2 ggac2, .int .i64 ggap, .slice ggm ggmn ggmc, .slice ggb1 ggbn1 ggbc1, .slice ggb2 ggbn2 ggbc2, .int .i64 ggbp, .int .i64 ggrg] T)) (.cells #[.int .i64 0, .int .i64 0, .bool false, .bool false, .bool false, .bool false, .bool false, .int .i64 0, .int .i64 0, .slice none 0 0, .slice none 0 0, .int .i64 0, .slice none 0 0, .slice none 0 0, .slice none 0 0, .int .i64 0, .int .i64 0] U) (.cells #[.int .i64 0, .int .i64 0, .bool false, .bool false, .bool false, .bool false, .bool false, .int .i64 0, .int .i64 0, .slice none 0 0, .slice none 0 0, .int .i64 0, .slice none 0 0, .slice none 0 0, .slice none 0 0, .int .i64 0, .int .i64 0] U)
  have k2 := al1 ((w.alloc (.cells #[.int .i64 ggp, .int .i64 ggs, .bool ggst, .bool ggsk, .bool ggre, .bool ggfe, .bool ggag, .int .i64 ggc, .int .i64 ggl, .slice gga1 ggan1 ggac1, .slice gga2 ggan2 ggac2, .int .i64 ggap, .slice ggm ggmn ggmc, .slice ggb1 ggbn1 ggbc1, .slice ggb2 ggbn2 ggbc2, .int .i64 ggbp, .int .i64 ggrg] T)).alloc (.cells #[.int .i64 0, .int .i64 0, .bool false, .bool false, .bool false, .bool false, .bool false, .int .i64 0, .int .i64 0, .slice none 0 0, .slice none 0 0, .int .i64 0, .slice none 0 0, .slice none 0 0, .slice none 0 0, .int .i64 0, .int .i64 0] U)) (.cells #[.int .i64 0, .int .i64 0, .bool false, .bool false, .bool false, .bool false, .bool false, .int .i64 0, .int .i64 0, .slice none 0 0, .slice none 0 0, .int .i64 0, .slice none 0 0, .slice none 0 0, .slice none 0 0, .int .i64 0, .int .i64 0] U)
  have r := (g17_new (w.alloc (.cells #[.int .i64 ggp, .int .i64 ggs, .bool ggst, .bool ggsk, .bool ggre, .bool ggfe, .bool ggag, .int .i64 ggc, .int .i64 ggl, .slice gga1 ggan1 ggac1, .slice gga2 ggan2 ggac2, .int .i64 ggap, .slice ggm ggmn ggmc, .slice ggb1 ggbn1 ggbc1, .slice ggb2 ggbn2 ggbc2, .int .i64 ggbp, .int .i64 ggrg] T)) U).below k2
  have z := g17_new ((w.alloc (.cells #[.int .i64 ggp, .int .i64 ggs, .bool ggst, .bool ggsk, .bool ggre, .bool ggfe, .bool ggag, .int .i64 ggc, .int .i64 ggl, .slice gga1 ggan1 ggac1, .slice gga2 ggan2 ggac2, .int .i64 ggap, .slice ggm ggmn ggmc, .slice ggb1 ggbn1 ggbc1, .slice ggb2 ggbn2 ggbc2, .int .i64 ggbp, .int .i64 ggrg] T)).alloc (.cells #[.int .i64 0, .int .i64 0, .bool false, .bool false, .bool false, .bool false, .bool false, .int .i64 0, .int .i64 0, .slice none 0 0, .slice none 0 0, .int .i64 0, .slice none 0 0, .slice none 0 0, .slice none 0 0, .int .i64 0, .int .i64 0] U)) U
  rw [show (w.alloc (.cells #[.int .i64 ggp, .int .i64 ggs, .bool ggst, .bool ggsk, .bool ggre, .bool ggfe, .bool ggag, .int .i64 ggc, .int .i64 ggl, .slice gga1 ggan1 ggac1, .slice gga2 ggan2 ggac2, .int .i64 ggap, .slice ggm ggmn ggmc, .slice ggb1 ggbn1 ggbc1, .slice ggb2 ggbn2 ggbc2, .int .i64 ggbp, .int .i64 ggrg] T)).heap.size = w.heap.size + 1 by simp] at r
  rw [show ((w.alloc (.cells #[.int .i64 ggp, .int .i64 ggs, .bool ggst, .bool ggsk, .bool ggre, .bool ggfe, .bool ggag, .int .i64 ggc, .int .i64 ggl, .slice gga1 ggan1 ggac1, .slice gga2 ggan2 ggac2, .int .i64 ggap, .slice ggm ggmn ggmc, .slice ggb1 ggbn1 ggbc1, .slice ggb2 ggbn2 ggbc2, .int .i64 ggbp, .int .i64 ggrg] T)).alloc (.cells #[.int .i64 0, .int .i64 0, .bool false, .bool false, .bool false, .bool false, .bool false, .int .i64 0, .int .i64 0, .slice none 0 0, .slice none 0 0, .int .i64 0, .slice none 0 0, .slice none 0 0, .slice none 0 0, .int .i64 0, .int .i64 0] U)).heap.size = w.heap.size + 1 + 1 by simp] at z
  exact ⟨(gm_new ggp ggs ggc ggl ggst ggsk ggre ggfe ggag gga1 gga2 ggan1 ggac1 ggan2 ggac2 ggap ggm ggmn ggmc ggb1 ggb2 ggbn1 ggbc1 ggbn2 ggbc2 ggbp ggrg w T).below k1, r, z, (al1 w _).trans (k1.mono (by simp))⟩
theorem below_scg {B : Nat} {a : World} (b : Nat) (hb : B ≤ b) : ∀ (vs : List Value) (o : Nat) {w : World}, Below B a w → Below B a (w.setCells b o vs)
  | [], _, _, h => h
  | v :: r, o, _, h => below_scg b hb r (o + 1) (h.setCell (p := ⟨b, o, none⟩) hb v)
theorem but_scg {a : World} (b : Nat) : ∀ (vs : List Value) (o : Nat) {w : World}, But b a w → But b a (w.setCells b o vs)
  | [], _, _, h => h
  | v :: r, o, _, h => but_scg b r (o + 1) (h.setCell (p := ⟨b, o, none⟩) rfl v)
theorem size_scg (b : Nat) : ∀ (vs : List Value) (o : Nat) (u : World), (u.setCells b o vs).heap.size = u.heap.size
  | [], _, _ => rfl
  | v :: r, o, u => by rw [World.setCells, size_scg b r]; simp
theorem gm_one (p s c l ap bp rg : Int) (st sk re fe ag : Bool) (m1 m2 m3 m4 m5 : Option Addr) (n1 c1 n2 c2 n3 c3 n4 c4 n5 c5 : Nat) : (List.toArray ([.int .i64 p, .int .i64 s, .bool st, .bool sk, .bool re, .bool fe, .bool ag, .int .i64 c, .int .i64 l, .slice m1 n1 c1, .slice m2 n2 c2, .int .i64 ap, .slice m3 n3 c3, .slice m4 n4 c4, .slice m5 n5 c5, .int .i64 bp, .int .i64 rg] : List Value)).all (·.oneCell') = true := all_oneCell_toArray (by simp [Value.oneCell'])
set_option maxHeartbeats 4000000 in
set_option maxRecDepth 100000 in
theorem toG_any (ggp ggs ggc ggl : Int) (ggst ggsk ggre ggfe ggag : Bool) (gga1 gga2 : Option Addr) (ggan1 ggac1 ggan2 ggac2 : Nat) (ggap : Int) (ggm : Option Addr) (ggmn ggmc : Nat) (ggb1 ggb2 : Option Addr) (ggbn1 ggbc1 ggbn2 ggbc2 : Nat) (ggbp ggrg : Int) (sx sy ms nx ny : List Int) (w : World) (h : GamR w gga1 gga2 ggan1 ggan2 ggm ggmn ggb1 ggb2 ggbn1 ggbn2 sx sy ms nx ny) :
    Calls Try.prog 20 #[.agg #[.int .i64 ggp, .int .i64 ggs, .bool ggst, .bool ggsk, .bool ggre, .bool ggfe, .bool ggag, .int .i64 ggc, .int .i64 ggl, .slice gga1 ggan1 ggac1, .slice gga2 ggan2 ggac2, .int .i64 ggap, .slice ggm ggmn ggmc, .slice ggb1 ggbn1 ggbc1, .slice ggb2 ggbn2 ggbc2, .int .i64 ggbp, .int .i64 ggrg]] w (GamP ggp ggs ggc ggl ggst ggsk ggre ggfe ggag ggan1 ggan2 ggap ggmn ggbn1 ggbn2 ggbp ggrg sx sy ms nx ny w) := by
  have H := Lib.hid h
  clear h
  have HS := Lib.hid (tgm_new ggp ggs ggc ggl ggst ggsk ggre ggfe ggag gga1 gga2 ggan1 ggac1 ggan2 ggac2 ggap ggm ggmn ggmc ggb1 ggb2 ggbn1 ggbc1 ggbn2 ggbc2 ggbp ggrg w 42 31)
  go_enter Try.func20, Try.ntmps20
  go_wp2_with fail
  refine (toRules_any ggp ggs ggc ggl ggst ggsk ggre ggfe ggag _).mono ?_
  rintro e u1 ⟨rfl, b1⟩
  have HS := Lib.hid (HS.out.below b1)
  clear b1
  have lz1 := HS.out.z.lt
  obtain ⟨⟨_, d0, d1, d2, d3, d4, d5, d6, d7, d8, d9, d10, d11, d12, d13, d14, d15, d16⟩, -, ⟨_, z0, z1, z2, z3, z4, z5, z6, z7, z8, z9, z10, z11, z12, z13, z14, z15, z16, zf⟩, -⟩ := HS.out
  go_wp2_with fail
  refine (toPos_any gga1 gga2 ggan1 ggac1 ggan2 ggac2 ggap sx sy _ (H.out.s.below ((HS.out.setR (.int .i64 ggp) (.int .i64 ggs) (.bool ggst) (.bool ggsk) (.bool ggre) (.bool ggfe) (.bool ggag) (.int .i64 ggc) (.int .i64 ggl)).b))).mono ?_
  rintro e u2 ⟨g1, g2, rfl, o2, l1, l2, b2⟩
  have e1 : w.heap.size + 1 + 1 < g1 := by have := o2.o1.new; simp at this; omega
  have e2 : w.heap.size + 1 + 1 < g2 := by have := o2.o2.new; simp at this; omega
  have O2 := Lib.hid (o2.lower (C := w.heap.size) (by simp; omega))
  have HS := Lib.hid ((HS.out.setR (.int .i64 ggp) (.int .i64 ggs) (.bool ggst) (.bool ggsk) (.bool ggre) (.bool ggfe) (.bool ggag) (.int .i64 ggc) (.int .i64 ggl)).below b2)
  clear b2 o2 d0 z0 d1 z1 d2 z2 d3 z3 d4 z4 d5 z5 d6 z6 d7 z7 d8 z8 d9 z9 d10 z10 d11 z11 d12 z12 d13 z13 d14 z14 d15 z15 d16 z16 zf
  have lz2 := HS.out.z.lt
  obtain ⟨⟨_, d0, d1, d2, d3, d4, d5, d6, d7, d8, d9, d10, d11, d12, d13, d14, d15, d16⟩, -, ⟨_, z0, z1, z2, z3, z4, z5, z6, z7, z8, z9, z10, z11, z12, z13, z14, z15, z16, zf⟩, -⟩ := HS.out
  go_wp2_with fail
  refine (toRow_any ggm ggmc ggmn ms _ H.out.lm (H.out.m.below ((HS.out.setS (.slice (some ⟨g1, 0, none⟩) ggan1 ggan1) (.slice (some ⟨g2, 0, none⟩) ggan2 ggan2) (.int .i64 ggap)).b))).mono ?_
  rintro e u3 ⟨g3, rfl, o3, l3, b3⟩
  have e3 : w.heap.size + 1 + 1 < g3 := by have := o3.new; simp at this; omega
  have O3 := Lib.hid (o3.lower (C := w.heap.size) (by simp; omega))
  have O2 := Lib.hid ((O2.out.but (but_setS (w.heap.size + 1 + 1) u2 (.slice (some ⟨g1, 0, none⟩) ggan1 ggan1) (.slice (some ⟨g2, 0, none⟩) ggan2 ggan2) (.int .i64 ggap)) (by omega) (by omega)).below b3)
  have HS := Lib.hid ((HS.out.setS (.slice (some ⟨g1, 0, none⟩) ggan1 ggan1) (.slice (some ⟨g2, 0, none⟩) ggan2 ggan2) (.int .i64 ggap)).below b3)
  have s3 := b3.size
  simp at s3
  clear b3 o3 d0 z0 d1 z1 d2 z2 d3 z3 d4 z4 d5 z5 d6 z6 d7 z7 d8 z8 d9 z9 d10 z10 d11 z11 d12 z12 d13 z13 d14 z14 d15 z15 d16 z16 zf
  have lz3 := HS.out.z.lt
  obtain ⟨⟨_, d0, d1, d2, d3, d4, d5, d6, d7, d8, d9, d10, d11, d12, d13, d14, d15, d16⟩, -, ⟨_, z0, z1, z2, z3, z4, z5, z6, z7, z8, z9, z10, z11, z12, z13, z14, z15, z16, zf⟩, -⟩ := HS.out
  go_wp2_with fail
  refine (toPos_any ggb1 ggb2 ggbn1 ggbc1 ggbn2 ggbc2 ggbp nx ny _ (H.out.n.below ((HS.out.setM (.slice (some ⟨g3, 0, none⟩) ggmn ggmn)).b))).mono ?_
  rintro e u4 ⟨g4, g5, rfl, o4, l4, l5, b4⟩
  have e4 : w.heap.size + 1 + 1 < g4 := by have := o4.o1.new; simp at this; omega
  have e5 : w.heap.size + 1 + 1 < g5 := by have := o4.o2.new; simp at this; omega
  have O4 := Lib.hid (o4.lower (C := w.heap.size) (by simp; omega))
  have O3 := Lib.hid ((O3.out.but (but_setM (w.heap.size + 1 + 1) u3 (.slice (some ⟨g3, 0, none⟩) ggmn ggmn)) (by omega)).below b4)
  have O2 := Lib.hid ((O2.out.but (but_setM (w.heap.size + 1 + 1) u3 (.slice (some ⟨g3, 0, none⟩) ggmn ggmn)) (by omega) (by omega)).below b4)
  have HS := Lib.hid ((HS.out.setM (.slice (some ⟨g3, 0, none⟩) ggmn ggmn)).below b4)
  have s4 := b4.size
  simp at s4
  clear b4 o4 d0 z0 d1 z1 d2 z2 d3 z3 d4 z4 d5 z5 d6 z6 d7 z7 d8 z8 d9 z9 d10 z10 d11 z11 d12 z12 d13 z13 d14 z14 d15 z15 d16 z16 zf
  have d16 := HS.out.a.2.2.2.2.2.2.2.2.2.2.2.2.2.2.2.2.2
  have z13 := HS.out.z.c13
  have z14 := HS.out.z.c14
  have z15 := HS.out.z.c15
  have z16 := HS.out.z.c16
  have zf := HS.out.z.fr
  have HE := Lib.hid ((HS.out.setN (.slice (some ⟨g4, 0, none⟩) ggbn1 ggbn1) (.slice (some ⟨g5, 0, none⟩) ggbn2 ggbn2) (.int .i64 ggbp)).setG (.int .i64 ggrg))
  go_upto_region 7 with fail
  go_step
  have hrg := TGm.rg HE.out.z
  have hth := HE.out.r.there
  refine wpList_load_mid rfl 31 (.tmp 3) rfl (w.heap.size + 1 + 1) 0 rfl _ _ hrg Try.underlying31 rfl (by kernel_rfl) ?_
  refine wpList_store_mid rfl 31 (.tmp 2) (.tmp 23) rfl (w.heap.size + 1) 0 (List.toArray [.int .i64 ggp, .int .i64 ggs, .bool ggst, .bool ggsk, .bool ggre, .bool ggfe, .bool ggag, .int .i64 ggc, .int .i64 ggl, .slice (some ⟨g1, 0, none⟩) ggan1 ggan1, .slice (some ⟨g2, 0, none⟩) ggan2 ggan2, .int .i64 ggap, .slice (some ⟨g3, 0, none⟩) ggmn ggmn, .slice (some ⟨g4, 0, none⟩) ggbn1 ggbn1, .slice (some ⟨g5, 0, none⟩) ggbn2 ggbn2, .int .i64 ggbp, .int .i64 ggrg]) rfl rfl hth (by kernel_rfl) (gm_one _ _ _ _ _ _ _ _ _ _ _ _ _ _ _ _ _ _ _ _ _ _ _ _ _ _ _) ?_
  clear hrg hth
  simp only [Act.put, List.setIfInBounds_toArray, List.set_cons_zero, List.set_cons_succ]
  go_wp2_with fail
  have hrun := run_loadVar_mid (P := Try.prog) _ (w.heap.size + 1) 0 31 [.int .i64 ggp, .int .i64 ggs, .bool ggst, .bool ggsk, .bool ggre, .bool ggfe, .bool ggag, .int .i64 ggc, .int .i64 ggl, .slice (some ⟨g1, 0, none⟩) ggan1 ggan1, .slice (some ⟨g2, 0, none⟩) ggan2 ggan2, .int .i64 ggap, .slice (some ⟨g3, 0, none⟩) ggmn ggmn, .slice (some ⟨g4, 0, none⟩) ggbn1 ggbn1, .slice (some ⟨g5, 0, none⟩) ggbn2 ggbn2, .int .i64 ggbp, .int .i64 ggrg] _ (World.rangeAt_setCells_same _ (w.heap.size + 1) 0 [.int .i64 ggp, .int .i64 ggs, .bool ggst, .bool ggsk, .bool ggre, .bool ggfe, .bool ggag, .int .i64 ggc, .int .i64 ggl, .slice (some ⟨g1, 0, none⟩) ggan1 ggan1, .slice (some ⟨g2, 0, none⟩) ggan2 ggan2, .int .i64 ggap, .slice (some ⟨g3, 0, none⟩) ggmn ggmn, .slice (some ⟨g4, 0, none⟩) ggbn1 ggbn1, .slice (some ⟨g5, 0, none⟩) ggbn2 ggbn2, .int .i64 ggbp, .int .i64 ggrg] HE.out.r.there) Try.underlying31 rfl (by kernel_rfl)
  refine bodyPost_ret (v := .agg (List.toArray [.int .i64 ggp, .int .i64 ggs, .bool ggst, .bool ggsk, .bool ggre, .bool ggfe, .bool ggag, .int .i64 ggc, .int .i64 ggl, .slice (some ⟨g1, 0, none⟩) ggan1 ggan1, .slice (some ⟨g2, 0, none⟩) ggan2 ggan2, .int .i64 ggap, .slice (some ⟨g3, 0, none⟩) ggmn ggmn, .slice (some ⟨g4, 0, none⟩) ggbn1 ggbn1, .slice (some ⟨g5, 0, none⟩) ggbn2 ggbn2, .int .i64 ggbp, .int .i64 ggrg])) ?_ rfl ⟨g1, g2, g3, g4, g5, rfl, ⟨?_, ?_, H.out.lm, ?_⟩, ?_, ?_⟩
  · simp [results, Try.results20, asAddr, hrun]
  · exact (((O2.out.but (but_setN (w.heap.size + 1 + 1) u4 (.slice (some ⟨g4, 0, none⟩) ggbn1 ggbn1) (.slice (some ⟨g5, 0, none⟩) ggbn2 ggbn2) (.int .i64 ggbp)) (by omega) (by omega)).but (but_setG (w.heap.size + 1 + 1) _ (.int .i64 ggrg)) (by omega) (by omega)).but (but_scg (w.heap.size + 1) [.int .i64 ggp, .int .i64 ggs, .bool ggst, .bool ggsk, .bool ggre, .bool ggfe, .bool ggag, .int .i64 ggc, .int .i64 ggl, .slice (some ⟨g1, 0, none⟩) ggan1 ggan1, .slice (some ⟨g2, 0, none⟩) ggan2 ggan2, .int .i64 ggap, .slice (some ⟨g3, 0, none⟩) ggmn ggmn, .slice (some ⟨g4, 0, none⟩) ggbn1 ggbn1, .slice (some ⟨g5, 0, none⟩) ggbn2 ggbn2, .int .i64 ggbp, .int .i64 ggrg] 0 (But.refl _ _)) (by omega) (by omega))
  · exact (((O3.out.but (but_setN (w.heap.size + 1 + 1) u4 (.slice (some ⟨g4, 0, none⟩) ggbn1 ggbn1) (.slice (some ⟨g5, 0, none⟩) ggbn2 ggbn2) (.int .i64 ggbp)) (by omega)).but (but_setG (w.heap.size + 1 + 1) _ (.int .i64 ggrg)) (by omega)).but (but_scg (w.heap.size + 1) [.int .i64 ggp, .int .i64 ggs, .bool ggst, .bool ggsk, .bool ggre, .bool ggfe, .bool ggag, .int .i64 ggc, .int .i64 ggl, .slice (some ⟨g1, 0, none⟩) ggan1 ggan1, .slice (some ⟨g2, 0, none⟩) ggan2 ggan2, .int .i64 ggap, .slice (some ⟨g3, 0, none⟩) ggmn ggmn, .slice (some ⟨g4, 0, none⟩) ggbn1 ggbn1, .slice (some ⟨g5, 0, none⟩) ggbn2 ggbn2, .int .i64 ggbp, .int .i64 ggrg] 0 (But.refl _ _)) (by omega))
  · exact (((O4.out.but (but_setN (w.heap.size + 1 + 1) u4 (.slice (some ⟨g4, 0, none⟩) ggbn1 ggbn1) (.slice (some ⟨g5, 0, none⟩) ggbn2 ggbn2) (.int .i64 ggbp)) (by omega) (by omega)).but (but_setG (w.heap.size + 1 + 1) _ (.int .i64 ggrg)) (by omega) (by omega)).but (but_scg (w.heap.size + 1) [.int .i64 ggp, .int .i64 ggs, .bool ggst, .bool ggsk, .bool ggre, .bool ggfe, .bool ggag, .int .i64 ggc, .int .i64 ggl, .slice (some ⟨g1, 0, none⟩) ggan1 ggan1, .slice (some ⟨g2, 0, none⟩) ggan2 ggan2, .int .i64 ggap, .slice (some ⟨g3, 0, none⟩) ggmn ggmn, .slice (some ⟨g4, 0, none⟩) ggbn1 ggbn1, .slice (some ⟨g5, 0, none⟩) ggbn2 ggbn2, .int .i64 ggbp, .int .i64 ggrg] 0 (But.refl _ _)) (by omega) (by omega))
  · rw [size_scg]
    simp
    omega
  · exact below_scg (w.heap.size + 1) (by omega) [.int .i64 ggp, .int .i64 ggs, .bool ggst, .bool ggsk, .bool ggre, .bool ggfe, .bool ggag, .int .i64 ggc, .int .i64 ggl, .slice (some ⟨g1, 0, none⟩) ggan1 ggan1, .slice (some ⟨g2, 0, none⟩) ggan2 ggan2, .int .i64 ggap, .slice (some ⟨g3, 0, none⟩) ggmn ggmn, .slice (some ⟨g4, 0, none⟩) ggbn1 ggbn1, .slice (some ⟨g5, 0, none⟩) ggbn2 ggbn2, .int .i64 ggbp, .int .i64 ggrg] 0 HE.out.b
end Go.Proofs.Ytenpnilljjfmkaa

/- Game3 -/
namespace Go.Proofs.Ytenpnilljjfmkaa
open Go.Joins Go.ChangeShapes Go.WideShapes Go.ChangeAt Go.RowKit Go.Deep
set_option linter.unusedVariables false

/-- Two games in boxes. -/
def TG2 (w : World) (ggp ggs ggc ggl : Int) (ggst ggsk ggre ggfe ggag : Bool) (gga1 gga2 : Option Addr) (ggan1 ggac1 ggan2 ggac2 : Nat) (ggap : Int) (ggm : Option Addr) (ggmn ggmc : Nat) (ggb1 ggb2 : Option Addr) (ggbn1 ggbc1 ggbn2 ggbc2 : Nat) (ggbp ggrg : Int) (hhp hhs hhc hhl : Int) (hhst hhsk hhre hhfe hhag : Bool) (hha1 hha2 : Option Addr) (hhan1 hhac1 hhan2 hhac2 : Nat) (hhap : Int) (hhm : Option Addr) (hhmn hhmc : Nat) (hhb1 hhb2 : Option Addr) (hhbn1 hhbc1 hhbn2 hhbc2 : Nat) (hhbp hhrg : Int) (u : World) : Prop := GmAt u w.heap.size ggp ggs ggc ggl ggst ggsk ggre ggfe ggag gga1 gga2 ggan1 ggac1 ggan2 ggac2 ggap ggm ggmn ggmc ggb1 ggb2 ggbn1 ggbc1 ggbn2 ggbc2 ggbp ggrg ∧ GmAt u (w.heap.size + 1) hhp hhs hhc hhl hhst hhsk hhre hhfe hhag hha1 hha2 hhan1 hhac1 hhan2 hhac2 hhap hhm hhmn hhmc hhb1 hhb2 hhbn1 hhbc1 hhbn2 hhbc2 hhbp hhrg ∧ Below w.heap.size w u
theorem tg2_new (ggp ggs ggc ggl : Int) (ggst ggsk ggre ggfe ggag : Bool) (gga1 gga2 : Option Addr) (ggan1 ggac1 ggan2 ggac2 : Nat) (ggap : Int) (ggm : Option Addr) (ggmn ggmc : Nat) (ggb1 ggb2 : Option Addr) (ggbn1 ggbc1 ggbn2 ggbc2 : Nat) (ggbp ggrg : Int) (hhp hhs hhc hhl : Int) (hhst hhsk hhre hhfe hhag : Bool) (hha1 hha2 : Option Addr) (hhan1 hhac1 hhan2 hhac2 : Nat) (hhap : Int) (hhm : Option Addr) (hhmn hhmc : Nat) (hhb1 hhb2 : Option Addr) (hhbn1 hhbc1 hhbn2 hhbc2 : Nat) (hhbp hhrg : Int) (w : World) (T : TypeId) : TG2 w ggp ggs ggc ggl ggst ggsk ggre ggfe ggag gga1 gga2 ggan1 ggac1 ggan2 ggac2 ggap ggm ggmn ggmc ggb1 ggb2 ggbn1 ggbc1 ggbn2 ggbc2 ggbp ggrg hhp hhs hhc hhl hhst hhsk hhre hhfe hhag hha1 hha2 hhan1 hhac1 hhan2 hhac2 hhap hhm hhmn hhmc hhb1 hhb2 hhbn1 hhbc1 hhbn2 hhbc2 hhbp hhrg ((w.alloc (.cells #[.int .i64 ggp, .int .i64 ggs, .bool ggst, .bool ggsk, .bool ggre, .bool ggfe, .bool ggag, .int .i64 ggc, .int .i64 ggl, .slice gga1 ggan1 ggac1, .slice gga2 ggan2 ggac2, .int .i64 ggap, .slice ggm ggmn ggmc, .slice ggb1 ggbn1 ggbc1, .slice ggb2 ggbn2 ggbc2, .int .i64 ggbp, .int .i64 ggrg] T)).alloc (.cells #[.int .i64 hhp, .int .i64 hhs, .bool hhst, .bool hhsk, .bool hhre, .bool hhfe, .bool hhag, .int .i64 hhc, .int .i64 hhl, .slice hha1 hhan1 hhac1, .slice hha2 hhan2 hhac2, .int .i64 hhap, .slice hhm hhmn hhmc, .slice hhb1 hhbn1 hhbc1, .slice hhb2 hhbn2 hhbc2, .int .i64 hhbp, .int .i64 hhrg] T)) := by
  have k := al1 (w.alloc (.cells #[.int .i64 ggp, .int .i64 ggs, .bool ggst, .bool ggsk, .bool ggre, .bool ggfe, .bool ggag, .int .i64 ggc, .int .i64 ggl, .slice gga1 ggan1 ggac1, .slice gga2 ggan2 ggac2, .int .i64 ggap, .slice ggm ggmn ggmc, .slice ggb1 ggbn1 ggbc1, .slice ggb2 ggbn2 ggbc2, .int .i64 ggbp, .int .i64 ggrg] T)) (.cells #[.int .i64 hhp, .int .i64 hhs, .bool hhst, .bool hhsk, .bool hhre, .bool hhfe, .bool hhag, .int .i64 hhc, .int .i64 hhl, .slice hha1 hhan1 hhac1, .slice hha2 hhan2 hhac2, .int .i64 hhap, .slice hhm hhmn hhmc, .slice hhb1 hhbn1 hhbc1, .slice hhb2 hhbn2 hhbc2, .int .i64 hhbp, .int .i64 hhrg] T)
  have z := gm_new hhp hhs hhc hhl hhst hhsk hhre hhfe hhag hha1 hha2 hhan1 hhac1 hhan2 hhac2 hhap hhm hhmn hhmc hhb1 hhb2 hhbn1 hhbc1 hhbn2 hhbc2 hhbp hhrg (w.alloc (.cells #[.int .i64 ggp, .int .i64 ggs, .bool ggst, .bool ggsk, .bool ggre, .bool ggfe, .bool ggag, .int .i64 ggc, .int .i64 ggl, .slice gga1 ggan1 ggac1, .slice gga2 ggan2 ggac2, .int .i64 ggap, .slice ggm ggmn ggmc, .slice ggb1 ggbn1 ggbc1, .slice ggb2 ggbn2 ggbc2, .int .i64 ggbp, .int .i64 ggrg] T)) T
  rw [show (w.alloc (.cells #[.int .i64 ggp, .int .i64 ggs, .bool ggst, .bool ggsk, .bool ggre, .bool ggfe, .bool ggag, .int .i64 ggc, .int .i64 ggl, .slice gga1 ggan1 ggac1, .slice gga2 ggan2 ggac2, .int .i64 ggap, .slice ggm ggmn ggmc, .slice ggb1 ggbn1 ggbc1, .slice ggb2 ggbn2 ggbc2, .int .i64 ggbp, .int .i64 ggrg] T)).heap.size = w.heap.size + 1 by simp] at z
  exact ⟨(gm_new ggp ggs ggc ggl ggst ggsk ggre ggfe ggag gga1 gga2 ggan1 ggac1 ggan2 ggac2 ggap ggm ggmn ggmc ggb1 ggb2 ggbn1 ggbc1 ggbn2 ggbc2 ggbp ggrg w T).below k, z, (al1 w _).trans (k.mono (by simp))⟩
theorem TG2.below {w u v : World} {ggp ggs ggc ggl : Int} {ggst ggsk ggre ggfe ggag : Bool} {gga1 gga2 : Option Addr} {ggan1 ggac1 ggan2 ggac2 : Nat} {ggap : Int} {ggm : Option Addr} {ggmn ggmc : Nat} {ggb1 ggb2 : Option Addr} {ggbn1 ggbc1 ggbn2 ggbc2 : Nat} {ggbp ggrg : Int} {hhp hhs hhc hhl : Int} {hhst hhsk hhre hhfe hhag : Bool} {hha1 hha2 : Option Addr} {hhan1 hhac1 hhan2 hhac2 : Nat} {hhap : Int} {hhm : Option Addr} {hhmn hhmc : Nat} {hhb1 hhb2 : Option Addr} {hhbn1 hhbc1 hhbn2 hhbc2 : Nat} {hhbp hhrg : Int} (h : TG2 w ggp ggs ggc ggl ggst ggsk ggre ggfe ggag gga1 gga2 ggan1 ggac1 ggan2 ggac2 ggap ggm ggmn ggmc ggb1 ggb2 ggbn1 ggbc1 ggbn2 ggbc2 ggbp ggrg hhp hhs hhc hhl hhst hhsk hhre hhfe hhag hha1 hha2 hhan1 hhac1 hhan2 hhac2 hhap hhm hhmn hhmc hhb1 hhb2 hhbn1 hhbc1 hhbn2 hhbc2 hhbp hhrg u) (k : Below u.heap.size u v) : TG2 w ggp ggs ggc ggl ggst ggsk ggre ggfe ggag gga1 gga2 ggan1 ggac1 ggan2 ggac2 ggap ggm ggmn ggmc ggb1 ggb2 ggbn1 ggbc1 ggbn2 ggbc2 ggbp ggrg hhp hhs hhc hhl hhst hhsk hhre hhfe hhag hha1 hha2 hhan1 hhac1 hhan2 hhac2 hhap hhm hhmn hhmc hhb1 hhb2 hhbn1 hhbc1 hhbn2 hhbc2 hhbp hhrg v :=
  ⟨h.1.below k, h.2.1.below k, h.2.2.trans (k.mono h.2.2.size)⟩
theorem al2b (w : World) (o q : Obj) : Below w.heap.size w ((w.alloc o).alloc q) := al2 w o q
theorem still_below {W u : World} (h : ∃ m, u = W.drewN m) : Below W.heap.size W u := by
  obtain ⟨m, rfl⟩ := h
  exact below_dn (Below.refl _ _) m
/-- Two games are equal. -/
def gmB (rules : Bool) (sx sy ms nx ny tx ty ns mx my : List Int) (p1 p2 q1 q2 r1 r2 : Int) : Bool :=
  rules && (sameB sx tx sy ty p1 p2 && (decide (ms = ns) && (sameB nx mx ny my q1 q2 && (r1 == r2))))
/-- A position within a block. -/
def At3 (u : World) (b : Nat) (a1 a2 : Option Addr) (n1 c1 n2 c2 : Nat) (pl : Int) (o0 o1 o2 : Nat) : Prop :=
  b < u.heap.size ∧ u.cell? ⟨b, o0, none⟩ = some (.slice a1 n1 c1) ∧ u.cell? ⟨b, o1, none⟩ = some (.slice a2 n2 c2) ∧ u.cell? ⟨b, o2, none⟩ = some (.int .i64 pl)
theorem GmAt.s9 {u : World} {b : Nat} {ggp ggs ggc ggl : Int} {ggst ggsk ggre ggfe ggag : Bool} {gga1 gga2 : Option Addr} {ggan1 ggac1 ggan2 ggac2 : Nat} {ggap : Int} {ggm : Option Addr} {ggmn ggmc : Nat} {ggb1 ggb2 : Option Addr} {ggbn1 ggbc1 ggbn2 ggbc2 : Nat} {ggbp ggrg : Int} (h : GmAt u b ggp ggs ggc ggl ggst ggsk ggre ggfe ggag gga1 gga2 ggan1 ggac1 ggan2 ggac2 ggap ggm ggmn ggmc ggb1 ggb2 ggbn1 ggbc1 ggbn2 ggbc2 ggbp ggrg) : At3 u b gga1 gga2 ggan1 ggac1 ggan2 ggac2 ggap 9 10 11 := ⟨h.1, h.2.2.2.2.2.2.2.2.2.2.1, h.2.2.2.2.2.2.2.2.2.2.2.1, h.2.2.2.2.2.2.2.2.2.2.2.2.1⟩
theorem GmAt.s13 {u : World} {b : Nat} {ggp ggs ggc ggl : Int} {ggst ggsk ggre ggfe ggag : Bool} {gga1 gga2 : Option Addr} {ggan1 ggac1 ggan2 ggac2 : Nat} {ggap : Int} {ggm : Option Addr} {ggmn ggmc : Nat} {ggb1 ggb2 : Option Addr} {ggbn1 ggbc1 ggbn2 ggbc2 : Nat} {ggbp ggrg : Int} (h : GmAt u b ggp ggs ggc ggl ggst ggsk ggre ggfe ggag gga1 gga2 ggan1 ggac1 ggan2 ggac2 ggap ggm ggmn ggmc ggb1 ggb2 ggbn1 ggbc1 ggbn2 ggbc2 ggbp ggrg) : At3 u b ggb1 ggb2 ggbn1 ggbc1 ggbn2 ggbc2 ggbp 13 14 15 := ⟨h.1, h.2.2.2.2.2.2.2.2.2.2.2.2.2.2.1, h.2.2.2.2.2.2.2.2.2.2.2.2.2.2.2.1, h.2.2.2.2.2.2.2.2.2.2.2.2.2.2.2.2.1⟩
theorem TG2.drewN {w u : World} {ggp ggs ggc ggl : Int} {ggst ggsk ggre ggfe ggag : Bool} {gga1 gga2 : Option Addr} {ggan1 ggac1 ggan2 ggac2 : Nat} {ggap : Int} {ggm : Option Addr} {ggmn ggmc : Nat} {ggb1 ggb2 : Option Addr} {ggbn1 ggbc1 ggbn2 ggbc2 : Nat} {ggbp ggrg : Int} {hhp hhs hhc hhl : Int} {hhst hhsk hhre hhfe hhag : Bool} {hha1 hha2 : Option Addr} {hhan1 hhac1 hhan2 hhac2 : Nat} {hhap : Int} {hhm : Option Addr} {hhmn hhmc : Nat} {hhb1 hhb2 : Option Addr} {hhbn1 hhbc1 hhbn2 hhbc2 : Nat} {hhbp hhrg : Int} (h : TG2 w ggp ggs ggc ggl ggst ggsk ggre ggfe ggag gga1 gga2 ggan1 ggac1 ggan2 ggac2 ggap ggm ggmn ggmc ggb1 ggb2 ggbn1 ggbc1 ggbn2 ggbc2 ggbp ggrg hhp hhs hhc hhl hhst hhsk hhre hhfe hhag hha1 hha2 hhan1 hhac1 hhan2 hhac2 hhap hhm hhmn hhmc hhb1 hhb2 hhbn1 hhbc1 hhbn2 hhbc2 hhbp hhrg u) (m : Nat) : TG2 w ggp ggs ggc ggl ggst ggsk ggre ggfe ggag gga1 gga2 ggan1 ggac1 ggan2 ggac2 ggap ggm ggmn ggmc ggb1 ggb2 ggbn1 ggbc1 ggbn2 ggbc2 ggbp ggrg hhp hhs hhc hhl hhst hhsk hhre hhfe hhag hha1 hha2 hhan1 hhac1 hhan2 hhac2 hhap hhm hhmn hhmc hhb1 hhb2 hhbn1 hhbc1 hhbn2 hhbc2 hhbp hhrg (u.drewN m) := h.below (below_dn (Below.refl _ _) m)
set_option maxHeartbeats 2000000 in
theorem l04Same9_any (p1 p2 : Option Addr) (pn1 pc1 pn2 pc2 : Nat) (pp : Int) (x1 x2 : Option Addr) (xn1 xc1 xn2 xc2 : Nat) (xp : Int) (xs ys us vs : List Int) (b d : Nat) (w : World) (hp : At3 w b p1 p2 pn1 pc1 pn2 pc2 pp 9 10 11) (hx : At3 w d x1 x2 xn1 xc1 xn2 xc2 xp 9 10 11) (h1 : PosR w p1 p2 pn1 pn2 xs ys) (h2 : PosR w x1 x2 xn1 xn2 us vs) :
    Calls Try.prog 56 #[.pointer (some ⟨b, 9, none⟩), .pointer (some ⟨d, 9, none⟩)] w (Still (.bool (sameB xs us ys vs pp xp)) w) := by
  obtain ⟨_, g0, g1, g2⟩ := hp
  obtain ⟨_, k0, k1, k2⟩ := hx
  have C1 := Lib.hid (fun m => l00Same_any p1 x1 pc1 xc1 pn1 xn1 xs us (w.drewN m) h1.l1 h2.l1 (h1.drewN m).r1 (h2.drewN m).r1)
  have C2 := Lib.hid (fun m => l00Same_any p2 x2 pc2 xc2 pn2 xn2 ys vs (w.drewN m) h1.l2 h2.l2 (h1.drewN m).r2 (h2.drewN m).r2)
  clear h1 h2
  unfold sameB
  generalize hv1 : decide (xs = us) = v1 at *
  generalize hv2 : decide (ys = vs) = v2 at *
  clear hv1 hv2
  cases v1
  · go_enter Try.func56, Try.ntmps56
    go_wp2_with fail
    go_quiet ((go_at_call 64; with_reducible exact quiet_s (C1.out _) ⟨_, rfl⟩))
    go_wp2_with fail
    go_ret
    exact ⟨rfl, _, rfl⟩
  · cases v2
    all_goals
      go_enter Try.func56, Try.ntmps56
      go_wp2_with fail
      go_quiet ((first | (go_at_call 64; with_reducible exact quiet_s (C1.out _) ⟨_, rfl⟩) | (go_at_call 64; with_reducible exact quiet_s (C2.out _) ⟨_, rfl⟩)))
      go_wp2_with fail
      go_ret
      exact ⟨rfl, _, rfl⟩
set_option maxHeartbeats 2000000 in
theorem l04Same13_any (p1 p2 : Option Addr) (pn1 pc1 pn2 pc2 : Nat) (pp : Int) (x1 x2 : Option Addr) (xn1 xc1 xn2 xc2 : Nat) (xp : Int) (xs ys us vs : List Int) (b d : Nat) (w : World) (hp : At3 w b p1 p2 pn1 pc1 pn2 pc2 pp 13 14 15) (hx : At3 w d x1 x2 xn1 xc1 xn2 xc2 xp 13 14 15) (h1 : PosR w p1 p2 pn1 pn2 xs ys) (h2 : PosR w x1 x2 xn1 xn2 us vs) :
    Calls Try.prog 56 #[.pointer (some ⟨b, 13, none⟩), .pointer (some ⟨d, 13, none⟩)] w (Still (.bool (sameB xs us ys vs pp xp)) w) := by
  obtain ⟨_, g0, g1, g2⟩ := hp
  obtain ⟨_, k0, k1, k2⟩ := hx
  have C1 := Lib.hid (fun m => l00Same_any p1 x1 pc1 xc1 pn1 xn1 xs us (w.drewN m) h1.l1 h2.l1 (h1.drewN m).r1 (h2.drewN m).r1)
  have C2 := Lib.hid (fun m => l00Same_any p2 x2 pc2 xc2 pn2 xn2 ys vs (w.drewN m) h1.l2 h2.l2 (h1.drewN m).r2 (h2.drewN m).r2)
  clear h1 h2
  unfold sameB
  generalize hv1 : decide (xs = us) = v1 at *
  generalize hv2 : decide (ys = vs) = v2 at *
  clear hv1 hv2
  cases v1
  · go_enter Try.func56, Try.ntmps56
    go_wp2_with fail
    go_quiet ((go_at_call 64; with_reducible exact quiet_s (C1.out _) ⟨_, rfl⟩))
    go_wp2_with fail
    go_ret
    exact ⟨rfl, _, rfl⟩
  · cases v2
    all_goals
      go_enter Try.func56, Try.ntmps56
      go_wp2_with fail
      go_quiet ((first | (go_at_call 64; with_reducible exact quiet_s (C1.out _) ⟨_, rfl⟩) | (go_at_call 64; with_reducible exact quiet_s (C2.out _) ⟨_, rfl⟩)))
      go_wp2_with fail
      go_ret
      exact ⟨rfl, _, rfl⟩
end Go.Proofs.Ytenpnilljjfmkaa

/- Game4 -/
namespace Go.Proofs.Ytenpnilljjfmkaa
open Go.Joins Go.ChangeShapes Go.WideShapes Go.ChangeAt Go.RowKit Go.Deep
set_option linter.unusedVariables false

/-- How many numbers a game's rows hold. -/
def gmN (an1 an2 mn bn1 bn2 : Nat) : Int := (an1 : Int) + an2 + mn + bn1 + bn2
/-- The rest behind a game. -/
def szW (left n : Int) : Int := if n ≤ left then left - n else -1
theorem szW_yes {left n : Int} (h : n ≤ left) : szW left n = left - n := if_pos h
theorem szW_no {left n : Int} (h : ¬ n ≤ left) : szW left n = -1 := if_neg h
set_option maxHeartbeats 4000000 in
set_option maxRecDepth 100000 in
theorem szG_any (ggp ggs ggc ggl : Int) (ggst ggsk ggre ggfe ggag : Bool) (gga1 gga2 : Option Addr) (ggan1 ggac1 ggan2 ggac2 : Nat) (ggap : Int) (ggm : Option Addr) (ggmn ggmc : Nat) (ggb1 ggb2 : Option Addr) (ggbn1 ggbc1 ggbn2 ggbc2 : Nat) (ggbp ggrg : Int) (left : Int) (hl : 0 ≤ left) (hl2 : left ≤ 1048576) (ha1 : ggan1 ≤ 9223372036854775807) (ha2 : ggan2 ≤ 9223372036854775807) (hm : ggmn ≤ 9223372036854775807) (hb1 : ggbn1 ≤ 9223372036854775807) (hb2 : ggbn2 ≤ 9223372036854775807) (w : World) :
    Calls Try.prog 18 #[.agg #[.int .i64 ggp, .int .i64 ggs, .bool ggst, .bool ggsk, .bool ggre, .bool ggfe, .bool ggag, .int .i64 ggc, .int .i64 ggl, .slice gga1 ggan1 ggac1, .slice gga2 ggan2 ggac2, .int .i64 ggap, .slice ggm ggmn ggmc, .slice ggb1 ggbn1 ggbc1, .slice ggb2 ggbn2 ggbc2, .int .i64 ggbp, .int .i64 ggrg], .int .i64 left] w fun e w' => e = .returned (.int .i64 (szW left (gmN ggan1 ggan2 ggmn ggbn1 ggbn2))) ∧ Below w.heap.size w w' := by
  unfold gmN
  by_cases h1 : (ggan1 : Int) + ggan2 ≤ left
  rotate_left
  · have E1 := Lib.hid (szV_no h1)
    rw [szW_no (by omega)]
    go_enter Try.func18, Try.ntmps18
    go_wp2_with fail
    refine (szP_any gga1 gga2 ggan1 ggac1 ggan2 ggac2 ggap left hl hl2 ha1 ha2 _).mono ?_
    rintro e u1 ⟨rfl, b1⟩
    rw [E1.out]
    have B1 := Lib.hid ((al1 w (.cells #[.int .i64 ggp, .int .i64 ggs, .bool ggst, .bool ggsk, .bool ggre, .bool ggfe, .bool ggag, .int .i64 ggc, .int .i64 ggl, .slice gga1 ggan1 ggac1, .slice gga2 ggan2 ggac2, .int .i64 ggap, .slice ggm ggmn ggmc, .slice ggb1 ggbn1 ggbc1, .slice ggb2 ggbn2 ggbc2, .int .i64 ggbp, .int .i64 ggrg] 42)).trans (b1.mono (by simp)))
    clear b1
    go_wp2_with fail
    go_ret
    exact ⟨rfl, B1.out⟩
  have E1 := Lib.hid (szV_yes h1)
  by_cases h2 : (ggmn : Int) ≤ left - ggan1 - ggan2
  rotate_left
  · have e2 : (if (ggmn : Int) ≤ left - ggan1 - ggan2 then left - ggan1 - ggan2 - ggmn else -1) = -1 := if_neg h2
    have E2 := Lib.hid e2
    have q0 : 0 ≤ left - ggan1 - ggan2 := by omega
    rw [szW_no (by omega)]
    clear e2
    go_enter Try.func18, Try.ntmps18
    go_wp2_with fail
    refine (szP_any gga1 gga2 ggan1 ggac1 ggan2 ggac2 ggap left hl hl2 ha1 ha2 _).mono ?_
    rintro e u1 ⟨rfl, b1⟩
    rw [E1.out]
    have A1 := Lib.hid ((gm_new ggp ggs ggc ggl ggst ggsk ggre ggfe ggag gga1 gga2 ggan1 ggac1 ggan2 ggac2 ggap ggm ggmn ggmc ggb1 ggb2 ggbn1 ggbc1 ggbn2 ggbc2 ggbp ggrg w 42).below b1)
    have B1 := Lib.hid ((al1 w (.cells #[.int .i64 ggp, .int .i64 ggs, .bool ggst, .bool ggsk, .bool ggre, .bool ggfe, .bool ggag, .int .i64 ggc, .int .i64 ggl, .slice gga1 ggan1 ggac1, .slice gga2 ggan2 ggac2, .int .i64 ggap, .slice ggm ggmn ggmc, .slice ggb1 ggbn1 ggbc1, .slice ggb2 ggbn2 ggbc2, .int .i64 ggbp, .int .i64 ggrg] 42)).trans (b1.mono (by simp)))
    clear b1
    obtain ⟨_, d0, d1, d2, d3, d4, d5, d6, d7, d8, d9, d10, d11, d12, d13, d14, d15, d16⟩ := A1.out
    go_wp2_with fail
    refine (szN_any ggm ggmc ggmn _ q0 (by omega) hm _).mono ?_
    rintro e w' ⟨rfl, rfl⟩
    rw [E2.out]
    go_wp2_with fail
    go_ret
    exact ⟨rfl, B1.out⟩
  have e2 : (if (ggmn : Int) ≤ left - ggan1 - ggan2 then left - ggan1 - ggan2 - ggmn else -1) = left - ggan1 - ggan2 - ggmn := if_pos h2
  have E2 := Lib.hid e2
  have q0 : 0 ≤ left - ggan1 - ggan2 := by omega
  have q1 : 0 ≤ left - ggan1 - ggan2 - ggmn := by omega
  obtain ⟨t, ht, hz⟩ : ∃ t, szV (left - ggan1 - ggan2 - ggmn) ggbn1 ggbn2 = t ∧ (szW left ((ggan1 : Int) + ggan2 + ggmn + ggbn1 + ggbn2) = if t < 0 then -1 else t) := by
    refine ⟨_, rfl, ?_⟩
    by_cases h3 : (ggbn1 : Int) + ggbn2 ≤ left - ggan1 - ggan2 - ggmn
    · rw [szV_yes h3, szW_yes (by omega), if_neg (by omega)]
      omega
    · rw [szV_no h3, szW_no (by omega)]
      rfl
  have E3 := Lib.hid ht
  obtain ⟨r, hr⟩ : ∃ r, (if t < 0 then (-1 : Int) else t) = r := ⟨_, rfl⟩
  rw [hz, hr]
  have HR := Lib.hid hr
  clear e2 ht hz hr
  go_enter Try.func18, Try.ntmps18
  go_wp2_with fail
  refine (szP_any gga1 gga2 ggan1 ggac1 ggan2 ggac2 ggap left hl hl2 ha1 ha2 _).mono ?_
  rintro e u1 ⟨rfl, b1⟩
  rw [E1.out]
  have A1 := Lib.hid ((gm_new ggp ggs ggc ggl ggst ggsk ggre ggfe ggag gga1 gga2 ggan1 ggac1 ggan2 ggac2 ggap ggm ggmn ggmc ggb1 ggb2 ggbn1 ggbc1 ggbn2 ggbc2 ggbp ggrg w 42).below b1)
  have B1 := Lib.hid ((al1 w (.cells #[.int .i64 ggp, .int .i64 ggs, .bool ggst, .bool ggsk, .bool ggre, .bool ggfe, .bool ggag, .int .i64 ggc, .int .i64 ggl, .slice gga1 ggan1 ggac1, .slice gga2 ggan2 ggac2, .int .i64 ggap, .slice ggm ggmn ggmc, .slice ggb1 ggbn1 ggbc1, .slice ggb2 ggbn2 ggbc2, .int .i64 ggbp, .int .i64 ggrg] 42)).trans (b1.mono (by simp)))
  clear b1
  obtain ⟨_, d0, d1, d2, d3, d4, d5, d6, d7, d8, d9, d10, d11, d12, d13, d14, d15, d16⟩ := A1.out
  go_wp2_with fail
  refine (szN_any ggm ggmc ggmn _ q0 (by omega) hm _).mono ?_
  rintro e w' ⟨rfl, rfl⟩
  rw [E2.out]
  go_wp2_with fail
  refine (szP_any ggb1 ggb2 ggbn1 ggbc1 ggbn2 ggbc2 ggbp _ q1 (by omega) hb1 hb2 _).mono ?_
  rintro e u3 ⟨rfl, b3⟩
  rw [E3.out]
  have B3 := Lib.hid (B1.out.trans (b3.mono B1.out.size))
  clear b3
  by_cases hlt : t < 0
  · obtain rfl : r = -1 := by rw [← HR.out, if_pos hlt]
    go_wp2_with fail
    go_ret
    exact ⟨rfl, B3.out⟩
  · obtain rfl : r = t := by rw [← HR.out, if_neg hlt]
    go_wp2_with fail
    go_ret
    exact ⟨rfl, B3.out⟩
theorem eqRulesG_same (p s c l : Int) (st sk re fe ag : Bool) (w : World) :
    Calls Try.prog 37 #[.agg #[.int .i64 p, .int .i64 s, .bool st, .bool sk, .bool re, .bool fe, .bool ag, .int .i64 c, .int .i64 l], .agg #[.int .i64 p, .int .i64 s, .bool st, .bool sk, .bool re, .bool fe, .bool ag, .int .i64 c, .int .i64 l]] w fun e w' => e = .returned (.bool true) ∧ Below w.heap.size w w' := by
  go_enter Try.func37, Try.ntmps37
  go_wp2
  go_ret
  exact ⟨rfl, (by repeat (first | exact Below.refl _ _ | assumption | (refine Below.drew ?_) | (refine Below.setCell ?_ (by first | omega | (simp; done) | (simp; omega)) _) | (refine Below.alloc ?_ (by first | omega | (simp; done) | (simp; omega)) _) | (refine Below.trans ?_ (Below.mono (by assumption) (by first | omega | (simp; done) | (simp; omega))))))⟩
set_option maxHeartbeats 4000000 in
set_option maxRecDepth 100000 in
theorem eqG_same (ggp ggs ggc ggl : Int) (ggst ggsk ggre ggfe ggag : Bool) (gga1 gga2 : Option Addr) (ggan1 ggac1 ggan2 ggac2 : Nat) (ggap : Int) (ggm : Option Addr) (ggmn ggmc : Nat) (ggb1 ggb2 : Option Addr) (ggbn1 ggbc1 ggbn2 ggbc2 : Nat) (ggbp ggrg : Int) (hha1 hha2 : Option Addr) (hhac1 hhac2 : Nat) (hhm : Option Addr) (hhmc : Nat) (hhb1 hhb2 : Option Addr) (hhbc1 hhbc2 : Nat) (sx sy ms nx ny : List Int) (w : World) (h1 : GamR w gga1 gga2 ggan1 ggan2 ggm ggmn ggb1 ggb2 ggbn1 ggbn2 sx sy ms nx ny) (h2 : GamR w hha1 hha2 ggan1 ggan2 hhm ggmn hhb1 hhb2 ggbn1 ggbn2 sx sy ms nx ny) :
    Calls Try.prog 13 #[.agg #[.int .i64 ggp, .int .i64 ggs, .bool ggst, .bool ggsk, .bool ggre, .bool ggfe, .bool ggag, .int .i64 ggc, .int .i64 ggl, .slice gga1 ggan1 ggac1, .slice gga2 ggan2 ggac2, .int .i64 ggap, .slice ggm ggmn ggmc, .slice ggb1 ggbn1 ggbc1, .slice ggb2 ggbn2 ggbc2, .int .i64 ggbp, .int .i64 ggrg], .agg #[.int .i64 ggp, .int .i64 ggs, .bool ggst, .bool ggsk, .bool ggre, .bool ggfe, .bool ggag, .int .i64 ggc, .int .i64 ggl, .slice hha1 ggan1 hhac1, .slice hha2 ggan2 hhac2, .int .i64 ggap, .slice hhm ggmn hhmc, .slice hhb1 ggbn1 hhbc1, .slice hhb2 ggbn2 hhbc2, .int .i64 ggbp, .int .i64 ggrg]] w fun e w' => e = .returned (.bool true) ∧ Below w.heap.size w w' := by
  have HS := Lib.hid (tg2_new ggp ggs ggc ggl ggst ggsk ggre ggfe ggag gga1 gga2 ggan1 ggac1 ggan2 ggac2 ggap ggm ggmn ggmc ggb1 ggb2 ggbn1 ggbc1 ggbn2 ggbc2 ggbp ggrg ggp ggs ggc ggl ggst ggsk ggre ggfe ggag hha1 hha2 ggan1 hhac1 ggan2 hhac2 ggap hhm ggmn hhmc hhb1 hhb2 ggbn1 hhbc1 ggbn2 hhbc2 ggbp ggrg w 31)
  have H1 := Lib.hid h1
  have H2 := Lib.hid h2
  clear h1 h2
  go_enter Try.func13, Try.ntmps13
  go_wp2_with fail
  refine (eqRulesG_same ggp ggs ggc ggl ggst ggsk ggre ggfe ggag _).mono ?_
  rintro e u1 ⟨rfl, hb⟩
  have HS := Lib.hid (HS.out.below hb)
  clear hb
  obtain ⟨⟨_, d0, d1, d2, d3, d4, d5, d6, d7, d8, d9, d10, d11, d12, d13, d14, d15, d16⟩, ⟨_, e0, e1, e2, e3, e4, e5, e6, e7, e8, e9, e10, e11, e12, e13, e14, e15, e16⟩, _⟩ := HS.out
  go_wp2_with fail
  refine (eqP_same gga1 gga2 hha1 hha2 ggan1 ggan2 ggac1 ggac2 hhac1 hhac2 ggap sx sy _ (H1.out.s.below HS.out.2.2) (H2.out.s.below HS.out.2.2)).mono ?_
  rintro e u2 ⟨rfl, hb⟩
  clear d0 e0 d1 e1 d2 e2 d3 e3 d4 e4 d5 e5 d6 e6 d7 e7 d8 e8 d9 e9 d10 e10 d11 e11 d12 e12 d13 e13 d14 e14 d15 e15 d16 e16
  have HS := Lib.hid (HS.out.below hb)
  clear hb
  obtain ⟨⟨_, d0, d1, d2, d3, d4, d5, d6, d7, d8, d9, d10, d11, d12, d13, d14, d15, d16⟩, ⟨_, e0, e1, e2, e3, e4, e5, e6, e7, e8, e9, e10, e11, e12, e13, e14, e15, e16⟩, _⟩ := HS.out
  go_wp2_with fail
  refine (eqN_same ggm hhm ggmc hhmc ggmn ms _ H1.out.lm (H1.out.m.below HS.out.2.2) (H2.out.m.below HS.out.2.2)).mono ?_
  rintro e u3 ⟨rfl, hb⟩
  clear d0 e0 d1 e1 d2 e2 d3 e3 d4 e4 d5 e5 d6 e6 d7 e7 d8 e8 d9 e9 d10 e10 d11 e11 d12 e12 d13 e13 d14 e14 d15 e15 d16 e16
  have HS := Lib.hid (HS.out.below hb)
  clear hb
  obtain ⟨⟨_, d0, d1, d2, d3, d4, d5, d6, d7, d8, d9, d10, d11, d12, d13, d14, d15, d16⟩, ⟨_, e0, e1, e2, e3, e4, e5, e6, e7, e8, e9, e10, e11, e12, e13, e14, e15, e16⟩, _⟩ := HS.out
  go_wp2_with fail
  refine (eqP_same ggb1 ggb2 hhb1 hhb2 ggbn1 ggbn2 ggbc1 ggbc2 hhbc1 hhbc2 ggbp nx ny _ (H1.out.n.below HS.out.2.2) (H2.out.n.below HS.out.2.2)).mono ?_
  rintro e u4 ⟨rfl, hb⟩
  clear d0 e0 d1 e1 d2 e2 d3 e3 d4 e4 d5 e5 d6 e6 d7 e7 d8 e8 d9 e9 d10 e10 d11 e11 d12 e12 d13 e13 d14 e14 d15 e15 d16 e16
  have HS := Lib.hid (HS.out.below hb)
  clear hb
  obtain ⟨⟨_, d0, d1, d2, d3, d4, d5, d6, d7, d8, d9, d10, d11, d12, d13, d14, d15, d16⟩, ⟨_, e0, e1, e2, e3, e4, e5, e6, e7, e8, e9, e10, e11, e12, e13, e14, e15, e16⟩, _⟩ := HS.out
  go_wp2_with fail
  go_ret
  exact ⟨rfl, HS.out.2.2⟩
/-- A turned game in a block: its rows are the call's own. -/
def TgAt (u : World) (A : Nat) (p s c l : Int) (st sk re fe ag : Bool) (an1 an2 : Nat) (ap : Int) (mn bn1 bn2 : Nat) (bp rg : Int) (sx sy ms nx ny : List Int) : Prop :=
  ∃ g1 g2 g3 g4 g5 : Nat, GmAt u A p s c l st sk re fe ag (some ⟨g1, 0, none⟩) (some ⟨g2, 0, none⟩) an1 an1 an2 an2 ap (some ⟨g3, 0, none⟩) mn mn (some ⟨g4, 0, none⟩) (some ⟨g5, 0, none⟩) bn1 bn1 bn2 bn2 bp rg ∧ GamR u (some ⟨g1, 0, none⟩) (some ⟨g2, 0, none⟩) an1 an2 (some ⟨g3, 0, none⟩) mn (some ⟨g4, 0, none⟩) (some ⟨g5, 0, none⟩) bn1 bn2 sx sy ms nx ny
theorem TgAt.below {u v : World} {A : Nat} {p s c l : Int} {st sk re fe ag : Bool} {an1 an2 : Nat} {ap : Int} {mn bn1 bn2 : Nat} {bp rg : Int} {sx sy ms nx ny : List Int} (h : TgAt u A p s c l st sk re fe ag an1 an2 ap mn bn1 bn2 bp rg sx sy ms nx ny) (k : Below u.heap.size u v) : TgAt v A p s c l st sk re fe ag an1 an2 ap mn bn1 bn2 bp rg sx sy ms nx ny := by
  obtain ⟨g1, g2, g3, g4, g5, h1, h2⟩ := h
  exact ⟨g1, g2, g3, g4, g5, h1.below k, h2.below k⟩
theorem gm_of_rg {u : World} {b : Nat} {ggp ggs ggc ggl : Int} {ggst ggsk ggre ggfe ggag : Bool} {gga1 gga2 : Option Addr} {ggan1 ggac1 ggan2 ggac2 : Nat} {ggap : Int} {ggm : Option Addr} {ggmn ggmc : Nat} {ggb1 ggb2 : Option Addr} {ggbn1 ggbc1 ggbn2 ggbc2 : Nat} {ggbp ggrg : Int} (hb : b < u.heap.size) (h : u.rangeAt b 0 [.int .i64 ggp, .int .i64 ggs, .bool ggst, .bool ggsk, .bool ggre, .bool ggfe, .bool ggag, .int .i64 ggc, .int .i64 ggl, .slice gga1 ggan1 ggac1, .slice gga2 ggan2 ggac2, .int .i64 ggap, .slice ggm ggmn ggmc, .slice ggb1 ggbn1 ggbc1, .slice ggb2 ggbn2 ggbc2, .int .i64 ggbp, .int .i64 ggrg]) : GmAt u b ggp ggs ggc ggl ggst ggsk ggre ggfe ggag gga1 gga2 ggan1 ggac1 ggan2 ggac2 ggap ggm ggmn ggmc ggb1 ggb2 ggbn1 ggbc1 ggbn2 ggbc2 ggbp ggrg :=
  ⟨hb, h 0 _ rfl, h 1 _ rfl, h 2 _ rfl, h 3 _ rfl, h 4 _ rfl, h 5 _ rfl, h 6 _ rfl, h 7 _ rfl, h 8 _ rfl, h 9 _ rfl, h 10 _ rfl, h 11 _ rfl, h 12 _ rfl, h 13 _ rfl, h 14 _ rfl, h 15 _ rfl, h 16 _ rfl⟩
theorem there17 (v : World) (T : TypeId) : (v.alloc (.cells #[.int .i64 0, .int .i64 0, .bool false, .bool false, .bool false, .bool false, .bool false, .int .i64 0, .int .i64 0, .slice none 0 0, .slice none 0 0, .int .i64 0, .slice none 0 0, .slice none 0 0, .slice none 0 0, .int .i64 0, .int .i64 0] T)).there v.heap.size 0 17 := (g17_new v T).there
/-- A turned game stored into a variable. -/
theorem tg_stored {v : World} {B : Nat} {p s c l : Int} {st sk re fe ag : Bool} {g1 g2 g3 g4 g5 an1 an2 : Nat} {ap : Int} {mn bn1 bn2 : Nat} {bp rg : Int} {sx sy ms nx ny : List Int} (T : TypeId)
    (h : GamO v B (some ⟨g1, 0, none⟩) (some ⟨g2, 0, none⟩) g1 g2 an1 an2 (some ⟨g3, 0, none⟩) g3 mn (some ⟨g4, 0, none⟩) (some ⟨g5, 0, none⟩) g4 g5 bn1 bn2 sx sy ms nx ny) :
    TgAt ((v.alloc (.cells #[.int .i64 0, .int .i64 0, .bool false, .bool false, .bool false, .bool false, .bool false, .int .i64 0, .int .i64 0, .slice none 0 0, .slice none 0 0, .int .i64 0, .slice none 0 0, .slice none 0 0, .slice none 0 0, .int .i64 0, .int .i64 0] T)).setCells v.heap.size 0 [.int .i64 p, .int .i64 s, .bool st, .bool sk, .bool re, .bool fe, .bool ag, .int .i64 c, .int .i64 l, .slice (some ⟨g1, 0, none⟩) an1 an1, .slice (some ⟨g2, 0, none⟩) an2 an2, .int .i64 ap, .slice (some ⟨g3, 0, none⟩) mn mn, .slice (some ⟨g4, 0, none⟩) bn1 bn1, .slice (some ⟨g5, 0, none⟩) bn2 bn2, .int .i64 bp, .int .i64 rg]) v.heap.size p s c l st sk re fe ag an1 an2 ap mn bn1 bn2 bp rg sx sy ms nx ny :=
  ⟨g1, g2, g3, g4, g5, gm_of_rg (by rw [size_scg]; simp) (World.rangeAt_setCells_same _ _ 0 [.int .i64 p, .int .i64 s, .bool st, .bool sk, .bool re, .bool fe, .bool ag, .int .i64 c, .int .i64 l, .slice (some ⟨g1, 0, none⟩) an1 an1, .slice (some ⟨g2, 0, none⟩) an2 an2, .int .i64 ap, .slice (some ⟨g3, 0, none⟩) mn mn, .slice (some ⟨g4, 0, none⟩) bn1 bn1, .slice (some ⟨g5, 0, none⟩) bn2 bn2, .int .i64 bp, .int .i64 rg] (there17 v T)), h.r.below (below_scg v.heap.size (Nat.le_refl _) _ 0 (al1 v _))⟩
theorem below_stored (v : World) (T : TypeId) (vs : List Value) : Below v.heap.size v ((v.alloc (.cells #[.int .i64 0, .int .i64 0, .bool false, .bool false, .bool false, .bool false, .bool false, .int .i64 0, .int .i64 0, .slice none 0 0, .slice none 0 0, .int .i64 0, .slice none 0 0, .slice none 0 0, .slice none 0 0, .int .i64 0, .int .i64 0] T)).setCells v.heap.size 0 vs) := below_scg v.heap.size (Nat.le_refl _) _ 0 (al1 v _)
end Go.Proofs.Ytenpnilljjfmkaa

/- Game5 -/
namespace Go.Proofs.Ytenpnilljjfmkaa
open Go.Joins Go.ChangeShapes Go.WideShapes Go.ChangeAt Go.RowKit Go.Deep
set_option linter.unusedVariables false

/-- The rows of a game lie in blocks that are all different. -/
structure GamD (w : World) (k1 k2 k3 k4 k5 : Nat) : Prop where
  l1 : k1 < w.heap.size
  l2 : k2 < w.heap.size
  l3 : k3 < w.heap.size
  l4 : k4 < w.heap.size
  l5 : k5 < w.heap.size
  n13 : k1 ≠ k3
  n23 : k2 ≠ k3
  n14 : k1 ≠ k4
  n24 : k2 ≠ k4
  n15 : k1 ≠ k5
  n25 : k2 ≠ k5
  n34 : k3 ≠ k4
  n35 : k3 ≠ k5
theorem GmAt.but2 {u v : World} {b c d : Nat} {ggp ggs ggc ggl : Int} {ggst ggsk ggre ggfe ggag : Bool} {gga1 gga2 : Option Addr} {ggan1 ggac1 ggan2 ggac2 : Nat} {ggap : Int} {ggm : Option Addr} {ggmn ggmc : Nat} {ggb1 ggb2 : Option Addr} {ggbn1 ggbc1 ggbn2 ggbc2 : Nat} {ggbp ggrg : Int} (h : GmAt u b ggp ggs ggc ggl ggst ggsk ggre ggfe ggag gga1 gga2 ggan1 ggac1 ggan2 ggac2 ggap ggm ggmn ggmc ggb1 ggb2 ggbn1 ggbc1 ggbn2 ggbc2 ggbp ggrg) (k : But2 c d u v) (hc : b ≠ c) (hd : b ≠ d) : GmAt v b ggp ggs ggc ggl ggst ggsk ggre ggfe ggag gga1 gga2 ggan1 ggac1 ggan2 ggac2 ggap ggm ggmn ggmc ggb1 ggb2 ggbn1 ggbc1 ggbn2 ggbc2 ggbp ggrg := by
  obtain ⟨hb, h⟩ := h
  have e := fun o => k.cell (o := o) hb hc hd
  exact ⟨Nat.lt_of_lt_of_le hb k.size, by rw [e, e, e, e, e, e, e, e, e, e, e, e, e, e, e, e, e]; exact h⟩
/-- w' is w but for new blocks and the five blocks. -/
structure But5 (k1 k2 k3 k4 k5 : Nat) (w w' : World) : Prop where
  os : w'.os = w.os
  tape : w'.tape = w.tape
  output : w'.output = w.output
  size : w.heap.size ≤ w'.heap.size
  block : ∀ k, k < w.heap.size → k ≠ k1 → k ≠ k2 → k ≠ k3 → k ≠ k4 → k ≠ k5 → w'.heap[k]? = w.heap[k]?
section
variable {k1 k2 k3 k4 k5 : Nat} {w u v : World}
theorem But5.of_below (h : Below w.heap.size w u) : But5 k1 k2 k3 k4 k5 w u := ⟨h.os, h.tape, h.output, h.size, fun k hk _ _ _ _ _ => h.block k hk⟩
theorem But5.of12 (h : But2 k1 k2 w u) : But5 k1 k2 k3 k4 k5 w u := ⟨h.os, h.tape, h.output, h.size, fun k hk a b _ _ _ => h.block k hk a b⟩
theorem But5.of3 (h : But k3 w u) : But5 k1 k2 k3 k4 k5 w u := ⟨h.os, h.tape, h.output, h.size, fun k hk _ _ a _ _ => h.block k hk a⟩
theorem But5.of45 (h : But2 k4 k5 w u) : But5 k1 k2 k3 k4 k5 w u := ⟨h.os, h.tape, h.output, h.size, fun k hk _ _ _ a b => h.block k hk a b⟩
theorem But5.trans (h : But5 k1 k2 k3 k4 k5 w u) (k : But5 k1 k2 k3 k4 k5 u v) : But5 k1 k2 k3 k4 k5 w v :=
  ⟨k.os.trans h.os, k.tape.trans h.tape, k.output.trans h.output, Nat.le_trans h.size k.size, fun i hi a b c d e => (k.block i (Nat.lt_of_lt_of_le hi h.size) a b c d e).trans (h.block i hi a b c d e)⟩
/-- Below where all five blocks lie. -/
theorem But5.below {B : Nat} (h : But5 k1 k2 k3 k4 k5 w u) (hB : B ≤ w.heap.size) (a1 : B ≤ k1) (a2 : B ≤ k2) (a3 : B ≤ k3) (a4 : B ≤ k4) (a5 : B ≤ k5) : Below B w u :=
  ⟨h.os, h.tape, h.output, h.size, fun i hi => h.block i (by omega) (by omega) (by omega) (by omega) (by omega) (by omega)⟩
theorem But5.cell (h : But5 k1 k2 k3 k4 k5 w u) {c o : Nat} (hc : c < w.heap.size) (a1 : c ≠ k1) (a2 : c ≠ k2) (a3 : c ≠ k3) (a4 : c ≠ k4) (a5 : c ≠ k5) : u.cell? ⟨c, o, none⟩ = w.cell? ⟨c, o, none⟩ := World.cell?_of_block (w := w) (h.block c hc a1 a2 a3 a4 a5)
theorem GmAt.but5 {b : Nat} {ggp ggs ggc ggl : Int} {ggst ggsk ggre ggfe ggag : Bool} {gga1 gga2 : Option Addr} {ggan1 ggac1 ggan2 ggac2 : Nat} {ggap : Int} {ggm : Option Addr} {ggmn ggmc : Nat} {ggb1 ggb2 : Option Addr} {ggbn1 ggbc1 ggbn2 ggbc2 : Nat} {ggbp ggrg : Int} (h : GmAt u b ggp ggs ggc ggl ggst ggsk ggre ggfe ggag gga1 gga2 ggan1 ggac1 ggan2 ggac2 ggap ggm ggmn ggmc ggb1 ggb2 ggbn1 ggbc1 ggbn2 ggbc2 ggbp ggrg) (k : But5 k1 k2 k3 k4 k5 u v) (a1 : b ≠ k1) (a2 : b ≠ k2) (a3 : b ≠ k3) (a4 : b ≠ k4) (a5 : b ≠ k5) : GmAt v b ggp ggs ggc ggl ggst ggsk ggre ggfe ggag gga1 gga2 ggan1 ggac1 ggan2 ggac2 ggap ggm ggmn ggmc ggb1 ggb2 ggbn1 ggbc1 ggbn2 ggbc2 ggbp ggrg := by
  obtain ⟨hb, h⟩ := h
  have e := fun o => k.cell (o := o) hb a1 a2 a3 a4 a5
  exact ⟨Nat.lt_of_lt_of_le hb k.size, by rw [e, e, e, e, e, e, e, e, e, e, e, e, e, e, e, e, e]; exact h⟩
end
set_option maxHeartbeats 1000000 in
theorem markPw_any (B b1 b2 : Nat) (a1 a2 : Option Addr) (n1 n2 c1 c2 k : Nat) (pl : Int) (xs ys : List Int) (w : World) (h : PosO w B a1 a2 b1 b2 n1 n2 xs ys) (hB : B ≤ w.heap.size) (hlt : b1 < w.heap.size ∧ b2 < w.heap.size) (hk2 : k ≤ 10000000) (hn : n1 ≤ 10000000) :
    Calls Try.prog 15 #[.agg #[.slice a1 n1 c1, .slice a2 n2 c2, .int .i64 pl], .int .i64 k] w (MarkPP B b1 b2 a1 a2 n1 n2 k w) := by
  have H := Lib.hid h
  obtain ⟨hl1, hl2⟩ := hlt
  clear h
  go_enter Try.func15, Try.ntmps15
  go_wp2_with fail
  refine (marksN_any B b1 a1 c1 n1 k xs _ H.out.l1 (H.out.o1.alloc _) (by omega)).mono ?_
  rintro e u ⟨rfl, b1', o1⟩
  have hs1 := b1'.size
  simp at hs1
  have x1 := fun o => b1'.cell (c := w.heap.size) (o := o) (by simp) (by omega)
  have O2 := Lib.hid ((H.out.o2.alloc _).but b1' (by have := H.out.ne; omega))
  have O1 := Lib.hid o1
  have B1 := Lib.hid b1'
  clear o1 b1'
  go_wp2_with fail
  refine (marksN_any B b2 a2 c2 n2 (k + n1) ys _ H.out.l2 O2.out (by omega)).mono ?_
  rintro e u2 ⟨rfl, b2', o2⟩
  have O1' := Lib.hid (O1.out.but b2' H.out.ne)
  have O2' := Lib.hid o2
  have B2 := Lib.hid b2'
  clear b2' o2
  go_wp2_with fail
  go_ret
  exact ⟨rfl, ((But2.of_below ((Below.refl _ _).alloc (Nat.le_refl _) _)).trans (.of_l B1.out)).trans (.of_r B2.out), O1'.out, O2'.out, H.out.ne, marksN_len _ _, marksN_len _ _⟩
set_option maxHeartbeats 2000000 in
set_option maxRecDepth 100000 in
theorem markG_any (B k1 k2 k3 k4 k5 k : Nat) (ggp ggs ggc ggl : Int) (ggst ggsk ggre ggfe ggag : Bool) (gga1 gga2 : Option Addr) (ggan1 ggac1 ggan2 ggac2 : Nat) (ggap : Int) (ggm : Option Addr) (ggmn ggmc : Nat) (ggb1 ggb2 : Option Addr) (ggbn1 ggbc1 ggbn2 ggbc2 : Nat) (ggbp ggrg : Int) (sx sy ms nx ny : List Int) (w : World) (h : GamO w B gga1 gga2 k1 k2 ggan1 ggan2 ggm k3 ggmn ggb1 ggb2 k4 k5 ggbn1 ggbn2 sx sy ms nx ny) (hd : GamD w k1 k2 k3 k4 k5) (hB : B ≤ w.heap.size) (hk : k ≤ 1000) (ht : ggan1 + ggan2 + ggmn + ggbn1 + ggbn2 ≤ 9000000) :
    Calls Try.prog 16 #[.agg #[.int .i64 ggp, .int .i64 ggs, .bool ggst, .bool ggsk, .bool ggre, .bool ggfe, .bool ggag, .int .i64 ggc, .int .i64 ggl, .slice gga1 ggan1 ggac1, .slice gga2 ggan2 ggac2, .int .i64 ggap, .slice ggm ggmn ggmc, .slice ggb1 ggbn1 ggbc1, .slice ggb2 ggbn2 ggbc2, .int .i64 ggbp, .int .i64 ggrg], .int .i64 k] w fun e w' => e = .returned (.int .i64 ((k + ggan1 + ggan2 + ggmn + ggbn1 + ggbn2 : Nat) : Int)) ∧ But5 k1 k2 k3 k4 k5 w w' ∧ GamO w' B gga1 gga2 k1 k2 ggan1 ggan2 ggm k3 ggmn ggb1 ggb2 k4 k5 ggbn1 ggbn2 (marksN k ggan1) (marksN (k + ggan1) ggan2) (marksN (k + ggan1 + ggan2) ggmn) (marksN (k + ggan1 + ggan2 + ggmn) ggbn1) (marksN (k + ggan1 + ggan2 + ggmn + ggbn1) ggbn2) := by
  have H := Lib.hid h
  have HD := Lib.hid hd
  clear h hd
  go_enter Try.func16, Try.ntmps16
  go_wp2_with fail
  have b0 := al1 w (.cells #[.int .i64 ggp, .int .i64 ggs, .bool ggst, .bool ggsk, .bool ggre, .bool ggfe, .bool ggag, .int .i64 ggc, .int .i64 ggl, .slice gga1 ggan1 ggac1, .slice gga2 ggan2 ggac2, .int .i64 ggap, .slice ggm ggmn ggmc, .slice ggb1 ggbn1 ggbc1, .slice ggb2 ggbn2 ggbc2, .int .i64 ggbp, .int .i64 ggrg] 31)
  have s0 := b0.size
  refine (markPw_any B k1 k2 gga1 gga2 ggan1 ggan2 ggac1 ggac2 k ggap sx sy _ (H.out.s.below b0) (Nat.le_trans hB s0) ⟨Nat.lt_of_lt_of_le HD.out.l1 s0, Nat.lt_of_lt_of_le HD.out.l2 s0⟩ (by omega) (by omega)).mono ?_
  rintro e u1 ⟨rfl, b1, o1⟩
  have A1 := Lib.hid ((gm_new ggp ggs ggc ggl ggst ggsk ggre ggfe ggag gga1 gga2 ggan1 ggac1 ggan2 ggac2 ggap ggm ggmn ggmc ggb1 ggb2 ggbn1 ggbc1 ggbn2 ggbc2 ggbp ggrg w 31).but2 b1 (by have := HD.out.l1; omega) (by have := HD.out.l2; omega))
  have O1 := Lib.hid o1
  have M1 := Lib.hid ((H.out.m.below b0).but2 b1 (by have := HD.out.n13; omega) (by have := HD.out.n23; omega))
  have N1 := Lib.hid ((H.out.n.below b0).but2 b1 (by have := HD.out.n14; omega) (by have := HD.out.n15; omega) (by have := HD.out.n24; omega) (by have := HD.out.n25; omega))
  have B1 : Hid (But5 k1 k2 k3 k4 k5 w u1) := Lib.hid ((But5.of_below b0).trans (But5.of12 b1))
  have L1 := Lib.hid (Nat.le_trans s0 b1.size)
  clear b1 o1 b0 s0
  obtain ⟨_, d0, d1, d2, d3, d4, d5, d6, d7, d8, d9, d10, d11, d12, d13, d14, d15, d16⟩ := A1.out
  go_wp2_with fail
  refine (marksN_any B k3 ggm ggmc ggmn (k + ggan1 + ggan2) ms _ H.out.lm M1.out (by omega)).mono ?_
  rintro e u2 ⟨rfl, b2, o2⟩
  clear d0 d1 d2 d3 d4 d5 d6 d7 d8 d9 d10 d11 d12 d13 d14 d15 d16
  have A2 := Lib.hid (A1.out.but b2 (by have := HD.out.l3; omega))
  have O2 := Lib.hid (O1.out.but b2 (by have := HD.out.n13; omega) (by have := HD.out.n23; omega))
  have M2 := Lib.hid o2
  have N2 := Lib.hid (N1.out.but b2 (by have := HD.out.n34; omega) (by have := HD.out.n35; omega))
  have B2 : Hid (But5 k1 k2 k3 k4 k5 w u2) := Lib.hid (B1.out.trans (But5.of3 b2))
  have L2 := Lib.hid (Nat.le_trans L1.out b2.size)
  clear b2 o2 A1 O1 M1 N1 B1
  obtain ⟨_, d0, d1, d2, d3, d4, d5, d6, d7, d8, d9, d10, d11, d12, d13, d14, d15, d16⟩ := A2.out
  go_wp2_with fail
  refine (markPw_any B k4 k5 ggb1 ggb2 ggbn1 ggbn2 ggbc1 ggbc2 (k + ggan1 + ggan2 + ggmn) ggbp nx ny _ N2.out (Nat.le_trans hB L2.out) ⟨Nat.lt_of_lt_of_le HD.out.l4 L2.out, Nat.lt_of_lt_of_le HD.out.l5 L2.out⟩ (by omega) (by omega)).mono ?_
  rintro e u3 ⟨rfl, b3, o3⟩
  clear d0 d1 d2 d3 d4 d5 d6 d7 d8 d9 d10 d11 d12 d13 d14 d15 d16
  have O3 := Lib.hid (O2.out.but2 b3 (by have := HD.out.n14; omega) (by have := HD.out.n24; omega) (by have := HD.out.n15; omega) (by have := HD.out.n25; omega))
  have M3 := Lib.hid (M2.out.but2 b3 (by have := HD.out.n34; omega) (by have := HD.out.n35; omega))
  have N3 := Lib.hid o3
  have B3 : Hid (But5 k1 k2 k3 k4 k5 w u3) := Lib.hid (B2.out.trans (But5.of45 b3))
  clear b3 o3
  go_wp2_with fail
  go_ret
  exact ⟨rfl, B3.out, O3.out, M3.out, marksN_len _ _, N3.out⟩
theorem heldPw_any (a1 a2 : Option Addr) (n1 n2 c1 c2 k : Nat) (pl : Int) (w : World) (h : PosR w a1 a2 n1 n2 (marksN k n1) (marksN (k + n1) n2)) (hk2 : k ≤ 10000000) (hn : n1 ≤ 10000000) :
    Calls Try.prog 38 #[.agg #[.slice a1 n1 c1, .slice a2 n2 c2, .int .i64 pl], .int .i64 k] w fun e w' => e = .returned (.int .i64 ((k + n1 + n2 : Nat) : Int)) ∧ Below w.heap.size w w' := by
  have H := Lib.hid h
  have hl2 : n2 ≤ 1000000000000 := by have := h.r2.1; rwa [marksN_len] at this
  clear h
  go_enter Try.func38, Try.ntmps38
  go_wp2_with fail
  refine (heldN_any a1 c1 n1 k _ (H.out.r1.alloc _) (by omega)).mono ?_
  rintro e u ⟨rfl, b1⟩
  have hs1 := b1.size
  simp at hs1
  have x1 := fun o => (bcell b1).1 w.heap.size o (by simp)
  have R2 := Lib.hid ((H.out.r2.alloc _).below b1)
  have B1 := Lib.hid b1
  have q0 : (0 : Int) ≤ ((k + n1 : Nat) : Int) := by omega
  clear b1
  go_wp2_with fail
  refine (heldN_any a2 c2 n2 (k + n1) _ R2.out (by omega)).mono ?_
  rintro e u2 ⟨rfl, b2⟩
  have B2 := Lib.hid b2
  have q1 : (0 : Int) ≤ ((k + n1 + n2 : Nat) : Int) := by omega
  clear b2
  go_wp2_with fail
  go_ret
  exact ⟨rfl, ((Below.refl _ _).alloc (Nat.le_refl _) _).trans ((B1.out.mono (by simp)).trans (B2.out.mono (by omega)))⟩
set_option maxHeartbeats 2000000 in
set_option maxRecDepth 100000 in
theorem heldG_any (k : Nat) (ggp ggs ggc ggl : Int) (ggst ggsk ggre ggfe ggag : Bool) (gga1 gga2 : Option Addr) (ggan1 ggac1 ggan2 ggac2 : Nat) (ggap : Int) (ggm : Option Addr) (ggmn ggmc : Nat) (ggb1 ggb2 : Option Addr) (ggbn1 ggbc1 ggbn2 ggbc2 : Nat) (ggbp ggrg : Int) (w : World) (h : GamR w gga1 gga2 ggan1 ggan2 ggm ggmn ggb1 ggb2 ggbn1 ggbn2 (marksN k ggan1) (marksN (k + ggan1) ggan2) (marksN (k + ggan1 + ggan2) ggmn) (marksN (k + ggan1 + ggan2 + ggmn) ggbn1) (marksN (k + ggan1 + ggan2 + ggmn + ggbn1) ggbn2)) (hk : k ≤ 1000) (ht : ggan1 + ggan2 + ggmn + ggbn1 + ggbn2 ≤ 9000000) :
    Calls Try.prog 17 #[.agg #[.int .i64 ggp, .int .i64 ggs, .bool ggst, .bool ggsk, .bool ggre, .bool ggfe, .bool ggag, .int .i64 ggc, .int .i64 ggl, .slice gga1 ggan1 ggac1, .slice gga2 ggan2 ggac2, .int .i64 ggap, .slice ggm ggmn ggmc, .slice ggb1 ggbn1 ggbc1, .slice ggb2 ggbn2 ggbc2, .int .i64 ggbp, .int .i64 ggrg], .int .i64 k] w fun e w' => e = .returned (.int .i64 ((k + ggan1 + ggan2 + ggmn + ggbn1 + ggbn2 : Nat) : Int)) ∧ Below w.heap.size w w' := by
  have H := Lib.hid h
  clear h
  go_enter Try.func17, Try.ntmps17
  go_wp2_with fail
  have b0 := al1 w (.cells #[.int .i64 ggp, .int .i64 ggs, .bool ggst, .bool ggsk, .bool ggre, .bool ggfe, .bool ggag, .int .i64 ggc, .int .i64 ggl, .slice gga1 ggan1 ggac1, .slice gga2 ggan2 ggac2, .int .i64 ggap, .slice ggm ggmn ggmc, .slice ggb1 ggbn1 ggbc1, .slice ggb2 ggbn2 ggbc2, .int .i64 ggbp, .int .i64 ggrg] 31)
  refine (heldPw_any gga1 gga2 ggan1 ggan2 ggac1 ggac2 k ggap _ (H.out.s.below b0) (by omega) (by omega)).mono ?_
  rintro e u1 ⟨rfl, b1⟩
  have A1 := Lib.hid ((gm_new ggp ggs ggc ggl ggst ggsk ggre ggfe ggag gga1 gga2 ggan1 ggac1 ggan2 ggac2 ggap ggm ggmn ggmc ggb1 ggb2 ggbn1 ggbc1 ggbn2 ggbc2 ggbp ggrg w 31).below b1)
  have B1 := Lib.hid (b0.trans (b1.mono b0.size))
  have q0 : ¬ ((k + ggan1 + ggan2 : Nat) : Int) < 0 := by omega
  clear b1 b0
  obtain ⟨_, d0, d1, d2, d3, d4, d5, d6, d7, d8, d9, d10, d11, d12, d13, d14, d15, d16⟩ := A1.out
  go_wp2_with fail
  refine (heldN_any ggm ggmc ggmn (k + ggan1 + ggan2) _ (H.out.m.below B1.out) (by omega)).mono ?_
  rintro e u2 ⟨rfl, b2⟩
  clear d0 d1 d2 d3 d4 d5 d6 d7 d8 d9 d10 d11 d12 d13 d14 d15 d16
  have A2 := Lib.hid (A1.out.below b2)
  have B2 := Lib.hid (B1.out.trans (b2.mono B1.out.size))
  have q1 : ¬ ((k + ggan1 + ggan2 + ggmn : Nat) : Int) < 0 := by omega
  clear b2 q0 A1
  obtain ⟨_, d0, d1, d2, d3, d4, d5, d6, d7, d8, d9, d10, d11, d12, d13, d14, d15, d16⟩ := A2.out
  go_wp2_with fail
  refine (heldPw_any ggb1 ggb2 ggbn1 ggbn2 ggbc1 ggbc2 (k + ggan1 + ggan2 + ggmn) ggbp _ (H.out.n.below B2.out) (by omega) (by omega)).mono ?_
  rintro e u3 ⟨rfl, b3⟩
  clear d0 d1 d2 d3 d4 d5 d6 d7 d8 d9 d10 d11 d12 d13 d14 d15 d16
  have B3 := Lib.hid (B2.out.trans (b3.mono B2.out.size))
  have q2 : ¬ ((k + ggan1 + ggan2 + ggmn + ggbn1 + ggbn2 : Nat) : Int) < 0 := by omega
  clear b3 q1
  go_wp2_with fail
  go_ret
  exact ⟨rfl, B3.out⟩
end Go.Proofs.Ytenpnilljjfmkaa

/- Game6 -/
namespace Go.Proofs.Ytenpnilljjfmkaa
open Go.Joins Go.ChangeShapes Go.WideShapes Go.ChangeAt Go.RowKit Go.Deep
set_option linter.unusedVariables false

theorem RuAt.range9 {u : World} {b : Nat} {p s c l : Int} {st sk re fe ag : Bool} (h : RuAt u b p s c l st sk re fe ag) : u.rangeAt b 0 [.int .i64 p, .int .i64 s, .bool st, .bool sk, .bool re, .bool fe, .bool ag, .int .i64 c, .int .i64 l] := by
  obtain ⟨_, m0, m1, m2, m3, m4, m5, m6, m7, m8⟩ := h
  intro j x hj
  match j, hj with
  | 0, hj => cases hj; exact m0
  | 1, hj => cases hj; exact m1
  | 2, hj => cases hj; exact m2
  | 3, hj => cases hj; exact m3
  | 4, hj => cases hj; exact m4
  | 5, hj => cases hj; exact m5
  | 6, hj => cases hj; exact m6
  | 7, hj => cases hj; exact m7
  | 8, hj => cases hj; exact m8
  | n + 9, hj => simp at hj
theorem PoAt.range3 {u : World} {b : Nat} {q1 q2 : Option Addr} {qn1 qc1 qn2 qc2 : Nat} {qp : Int} (h : PoAt u b q1 q2 qn1 qc1 qn2 qc2 qp) : u.rangeAt b 0 [.slice q1 qn1 qc1, .slice q2 qn2 qc2, .int .i64 qp] := by
  obtain ⟨_, m0, m1, m2⟩ := h
  intro j x hj
  match j, hj with
  | 0, hj => cases hj; exact m0
  | 1, hj => cases hj; exact m1
  | 2, hj => cases hj; exact m2
  | n + 3, hj => simp at hj
/-- The rows of a new game. -/
structure NewR (w w' : World) (g1 g2 g4 g5 qn1 qn2 : Nat) (xs ys : List Int) : Prop where
  s : PosO w' w.heap.size (some ⟨g1, 0, none⟩) (some ⟨g2, 0, none⟩) g1 g2 qn1 qn2 xs ys
  n : PosO w' w.heap.size (some ⟨g4, 0, none⟩) (some ⟨g5, 0, none⟩) g4 g5 qn1 qn2 xs ys
  l1 : g1 < w'.heap.size
  l2 : g2 < w'.heap.size
  l4 : g4 < w'.heap.size
  l5 : g5 < w'.heap.size
  n14 : g1 ≠ g4
  n15 : g1 ≠ g5
  n24 : g2 ≠ g4
  n25 : g2 ≠ g5
  be : Below w.heap.size w w'
/-- A new game. -/
def NewG (p s c l : Int) (st sk re fe ag : Bool) (qn1 qn2 : Nat) (qp : Int) (xs ys : List Int) (w : World) (e : Ending) (w' : World) : Prop :=
  ∃ g1 c1 g2 c2 g4 c4 g5 c5 : Nat, e = .returned (.agg #[.int .i64 p, .int .i64 s, .bool st, .bool sk, .bool re, .bool fe, .bool ag, .int .i64 c, .int .i64 l, .slice (some ⟨g1, 0, none⟩) qn1 c1, .slice (some ⟨g2, 0, none⟩) qn2 c2, .int .i64 qp, .slice none 0 0, .slice (some ⟨g4, 0, none⟩) qn1 c4, .slice (some ⟨g5, 0, none⟩) qn2 c5, .int .i64 qp, .int .i64 (-1)]) ∧ NewR w w' g1 g2 g4 g5 qn1 qn2 xs ys
theorem NewR.sc {w u : World} {g1 g2 g4 g5 qn1 qn2 : Nat} {xs ys : List Int} (z : Nat) (vs : List Value) (o : Nat) (h : NewR w u g1 g2 g4 g5 qn1 qn2 xs ys) (hz : w.heap.size ≤ z) (m1 : g1 ≠ z) (m2 : g2 ≠ z) (m4 : g4 ≠ z) (m5 : g5 ≠ z) : NewR w (u.setCells z o vs) g1 g2 g4 g5 qn1 qn2 xs ys := by
  have k := but_scg (a := u) z vs o (But.refl z u)
  have e := size_scg z vs o u
  exact ⟨h.s.but k m1 m2, h.n.but k m4 m5, e ▸ h.l1, e ▸ h.l2, e ▸ h.l4, e ▸ h.l5, h.n14, h.n15, h.n24, h.n25, below_scg z hz vs o h.be⟩
theorem new_one (p s c l qp : Int) (st sk re fe ag : Bool) (g1 c1 g2 c2 g4 c4 g5 c5 qn1 qn2 : Nat) : (List.toArray ([.int .i64 p, .int .i64 s, .bool st, .bool sk, .bool re, .bool fe, .bool ag, .int .i64 c, .int .i64 l, .slice (some ⟨g1, 0, none⟩) qn1 c1, .slice (some ⟨g2, 0, none⟩) qn2 c2, .int .i64 qp, .slice none 0 0, .slice (some ⟨g4, 0, none⟩) qn1 c4, .slice (some ⟨g5, 0, none⟩) qn2 c5, .int .i64 qp, .int .i64 (-1)] : List Value)).all (·.oneCell') = true := all_oneCell_toArray (by simp [Value.oneCell'])
theorem there_of {u v : World} {z n : Nat} (h : u.there z 0 n) (hz : z < u.heap.size) (k : Below u.heap.size u v) : v.there z 0 n := fun j hj => by
  obtain ⟨h1, h2⟩ := h j hj
  exact ⟨by rw [k.cell (p := ⟨z, 0 + j, none⟩) hz]; exact h1, (k.frozen (p := ⟨z, 0 + j, none⟩) hz).trans h2⟩
set_option maxHeartbeats 4000000 in
set_option maxRecDepth 100000 in
theorem l08New_any (p s c l : Int) (st sk re fe ag : Bool) (q1 q2 : Option Addr) (qn1 qc1 qn2 qc2 : Nat) (qp : Int) (b d : Nat) (xs ys : List Int) (w : World) (hr : RuAt w b p s c l st sk re fe ag) (hp : PoAt w d q1 q2 qn1 qc1 qn2 qc2 qp) (h : PosR w q1 q2 qn1 qn2 xs ys) (hne1 : xs ≠ []) (hne2 : ys ≠ []) :
    Calls Try.prog 33 #[.pointer (some ⟨b, 0, none⟩), .pointer (some ⟨d, 0, none⟩)] w (NewG p s c l st sk re fe ag qn1 qn2 qp xs ys w) := by
  have H := Lib.hid h
  have HN := Lib.hid (And.intro hne1 hne2)
  have HR := Lib.hid (hr.below (al1 w (.cells #[.int .i64 0, .int .i64 0, .bool false, .bool false, .bool false, .bool false, .bool false, .int .i64 0, .int .i64 0, .slice none 0 0, .slice none 0 0, .int .i64 0, .slice none 0 0, .slice none 0 0, .slice none 0 0, .int .i64 0, .int .i64 0] 31)))
  have HP := Lib.hid (hp.below (al1 w (.cells #[.int .i64 0, .int .i64 0, .bool false, .bool false, .bool false, .bool false, .bool false, .int .i64 0, .int .i64 0, .slice none 0 0, .slice none 0 0, .int .i64 0, .slice none 0 0, .slice none 0 0, .slice none 0 0, .int .i64 0, .int .i64 0] 31)))
  have HB := Lib.hid (al1 w (.cells #[.int .i64 0, .int .i64 0, .bool false, .bool false, .bool false, .bool false, .bool false, .int .i64 0, .int .i64 0, .slice none 0 0, .slice none 0 0, .int .i64 0, .slice none 0 0, .slice none 0 0, .slice none 0 0, .int .i64 0, .int .i64 0] 31))
  have HG := Lib.hid (g17_new w 31)
  have hbz : b ≠ w.heap.size := by have := hr.1; omega
  have hw1 : w.heap.size < (w.alloc (.cells #[.int .i64 0, .int .i64 0, .bool false, .bool false, .bool false, .bool false, .bool false, .int .i64 0, .int .i64 0, .slice none 0 0, .slice none 0 0, .int .i64 0, .slice none 0 0, .slice none 0 0, .slice none 0 0, .int .i64 0, .int .i64 0] 31)).heap.size := by simp
  clear h hr hp hne1 hne2
  go_enter Try.func33, Try.ntmps33
  go_upto_region 1 with fail
  generalize hU : w.alloc (.cells #[.int .i64 0, .int .i64 0, .bool false, .bool false, .bool false, .bool false, .bool false, .int .i64 0, .int .i64 0, .slice none 0 0, .slice none 0 0, .int .i64 0, .slice none 0 0, .slice none 0 0, .slice none 0 0, .int .i64 0, .int .i64 0] 31) = U at *
  clear hU
  refine wp_region_held_drew (S := fun u => u.rangeAt b 0 [.int .i64 p, .int .i64 s, .bool st, .bool sk, .bool re, .bool fe, .bool ag, .int .i64 c, .int .i64 l]) (by kernel_rfl) (RuAt.range9 HR.out) (fun hHeld => ?_)
  have HR := Lib.hid (HR.out.below (below_dn (Below.refl _ _) 1))
  have HP := Lib.hid (HP.out.below (below_dn (Below.refl _ _) 1))
  have HB := Lib.hid (below_dn HB.out 1)
  have HG := Lib.hid (HG.out.below (below_dn (Below.refl _ _) 1))
  refine wpAnyH_take (i := 0) (oi := { dst := some 5, op := Op.move (Operand.tmp 0), type := 54, pos := "l08_games.go:38", after := #[], guard := none }) (v := .pointer (some ⟨b, 0, none⟩)) rfl (by kernel_rfl) (by kernel_rfl) (by kernel_rfl) (fun _ _ _ h => h) (.inl ⟨by rfl, fun u hu => by (try dsimp only at hu); go_simp; try with_reducible rfl⟩) hHeld ?_
  simp only [Act.put, List.setIfInBounds_toArray, List.set_cons_zero, List.set_cons_succ]
  refine wpAnyH_take (i := 1) (oi := { dst := some 6, op := Op.nilCheck (Operand.tmp 5), type := 0, pos := "l08_games.go:38", after := #[{ on := 0, ground := Ground.data }], guard := none }) (v := .pointer (some ⟨b, 0, none⟩)) rfl (by kernel_rfl) (by kernel_rfl) (by kernel_rfl) (fun _ _ _ h => h) (.inl ⟨by rfl, fun u hu => by (try dsimp only at hu); go_simp; try with_reducible rfl⟩) hHeld ?_
  simp only [Act.put, List.setIfInBounds_toArray, List.set_cons_zero, List.set_cons_succ]
  refine wpAnyH_take (i := 2) rfl (by kernel_rfl) (by kernel_rfl) (by kernel_rfl) (fun _ _ _ h => h) (yieldsIf_load_mid (by rfl) 28 _ rfl b 0 rfl [.int .i64 p, .int .i64 s, .bool st, .bool sk, .bool re, .bool fe, .bool ag, .int .i64 c, .int .i64 l] _ (fun u hu => hu) Try.underlying28 rfl (by kernel_rfl)) hHeld ?_
  simp only [Act.put, List.setIfInBounds_toArray]
  refine wpAnyH_take (i := 3) (oi := { dst := some 8, op := Op.move (Operand.tmp 1), type := 55, pos := "l08_games.go:38", after := #[], guard := none }) (v := .pointer (some ⟨d, 0, none⟩)) rfl (by kernel_rfl) (by kernel_rfl) (by kernel_rfl) (fun _ _ _ h => h) (.inl ⟨by rfl, fun u hu => by (try dsimp only at hu); go_simp; try with_reducible rfl⟩) hHeld ?_
  simp only [Act.put]
  refine wpAnyH_take (i := 5) (oi := { dst := some 10, op := Op.move (Operand.tmp 1), type := 55, pos := "l08_games.go:38", after := #[], guard := none }) (v := .pointer (some ⟨d, 0, none⟩)) rfl (by kernel_rfl) (by kernel_rfl) (by kernel_rfl) (fun _ _ _ h => h) (.inl ⟨by rfl, fun u hu => by (try dsimp only at hu); go_simp; try with_reducible rfl⟩) hHeld ?_
  simp only [Act.put]
  refine wpAnyH_ready (rs := [4]) (by kernel_rfl) (by simp) ?_
  refine AllReadyH.cons rfl (fun K hK => ?_) AllReadyH.nil
  rw [if_pos (by rfl)]
  go_simp
  go_at_call 50
  refine (l04Own_any q1 q2 qn1 qc1 qn2 qc2 qp xs ys d _ HP.out (H.out.below HB.out) HN.out.1 HN.out.2).mono ?_
  rintro e w4 ⟨g1, c1, g2, c2, rfl, ho, lg, lh, lc, ld, hb⟩
  have HR := Lib.hid (HR.out.below hb)
  have HP := Lib.hid (HP.out.below hb)
  have HG := Lib.hid (HG.out.below hb)
  have HB := Lib.hid (HB.out.trans (hb.mono HB.out.size))
  have O1 := Lib.hid ho
  have O1l := Lib.hid (And.intro lg (And.intro lh (And.intro lc ld)))
  clear hb ho lg lh lc ld
  (try dsimp only)
  refine hK.out _ _ (RuAt.range9 HR.out) (fun hHeld => ?_)
  clear hK K
  (try simp only [Act.put, List.setIfInBounds_toArray, List.set_cons_zero, List.set_cons_succ])
  refine wpAnyH_ready (rs := [6]) (by kernel_rfl) (by simp) ?_
  refine AllReadyH.cons rfl (fun K hK => ?_) AllReadyH.nil
  rw [if_pos (by rfl)]
  go_simp
  go_at_call 50
  refine (l04Own_any q1 q2 qn1 qc1 qn2 qc2 qp xs ys d _ HP.out (H.out.below HB.out) HN.out.1 HN.out.2).mono ?_
  rintro e w6 ⟨g4, c4, g5, c5, rfl, ho, lg, lh, lc, ld, hb⟩
  have HR := Lib.hid (HR.out.below hb)
  have HP := Lib.hid (HP.out.below hb)
  have HG := Lib.hid (HG.out.below hb)
  have O1 := Lib.hid (O1.out.below hb)
  have HB := Lib.hid (HB.out.trans (hb.mono HB.out.size))
  have O2 := Lib.hid ho
  have O2l := Lib.hid (And.intro lg (And.intro lh (And.intro lc ld)))
  clear hb ho lg lh lc ld
  (try dsimp only)
  refine hK.out _ _ (RuAt.range9 HR.out) (fun hHeld => ?_)
  clear hK K
  (try simp only [Act.put, List.setIfInBounds_toArray, List.set_cons_zero, List.set_cons_succ])
  refine wpAnyH_take (i := 7) (oi := { dst := some 12, op := Op.build 31 #[(0, Operand.tmp 7), (1, Operand.tmp 9), (3, Operand.tmp 11), (4, Operand.const (Value.int IntKind.i64 (-1)))], type := 31, pos := "l08_games.go:38", after := #[{ on := 2, ground := Ground.data }, { on := 4, ground := Ground.data }, { on := 6, ground := Ground.data }], guard := none }) (v := .agg #[.int .i64 p, .int .i64 s, .bool st, .bool sk, .bool re, .bool fe, .bool ag, .int .i64 c, .int .i64 l, .slice (some ⟨g1, 0, none⟩) qn1 c1, .slice (some ⟨g2, 0, none⟩) qn2 c2, .int .i64 qp, .slice none 0 0, .slice (some ⟨g4, 0, none⟩) qn1 c4, .slice (some ⟨g5, 0, none⟩) qn2 c5, .int .i64 qp, .int .i64 (-1)]) rfl (by kernel_rfl) (by kernel_rfl) (by kernel_rfl) (fun _ _ _ h => h) (.inl ⟨by rfl, fun u hu => by (try dsimp only at hu); go_simp; try with_reducible rfl⟩) hHeld ?_
  simp only [Act.put, List.setIfInBounds_toArray, List.set_cons_zero, List.set_cons_succ]
  refine wpAnyH_ready (rs := [8]) (by kernel_rfl) (by simp) ?_
  refine AllReadyH.cons rfl (fun K hK => ?_) AllReadyH.nil
  rw [if_pos (by rfl)]
  refine wp_store_mid 31 _ _ rfl w.heap.size 0 (List.toArray [.int .i64 p, .int .i64 s, .bool st, .bool sk, .bool re, .bool fe, .bool ag, .int .i64 c, .int .i64 l, .slice (some ⟨g1, 0, none⟩) qn1 c1, .slice (some ⟨g2, 0, none⟩) qn2 c2, .int .i64 qp, .slice none 0 0, .slice (some ⟨g4, 0, none⟩) qn1 c4, .slice (some ⟨g5, 0, none⟩) qn2 c5, .int .i64 qp, .int .i64 (-1)]) rfl rfl HG.out.there (by kernel_rfl) (new_one p s c l qp st sk re fe ag g1 c1 g2 c2 g4 c4 g5 c5 qn1 qn2) ?_
  simp only [Act.put, List.setIfInBounds_toArray]
  refine hK.out _ _ (RuAt.range9 (HR.out.but (but_scg w.heap.size [.int .i64 p, .int .i64 s, .bool st, .bool sk, .bool re, .bool fe, .bool ag, .int .i64 c, .int .i64 l, .slice (some ⟨g1, 0, none⟩) qn1 c1, .slice (some ⟨g2, 0, none⟩) qn2 c2, .int .i64 qp, .slice none 0 0, .slice (some ⟨g4, 0, none⟩) qn1 c4, .slice (some ⟨g5, 0, none⟩) qn2 c5, .int .i64 qp, .int .i64 (-1)] 0 (But.refl _ _)) hbz)) (fun hHeld => ?_)
  clear hK K
  (try simp only [Act.put, List.setIfInBounds_toArray, List.set_cons_zero, List.set_cons_succ])
  refine wpAnyH_done (by kernel_rfl) ?_ _
  go_wp2_with fail
  have hrun := run_loadVar_mid (P := Try.prog) _ w.heap.size 0 31 [.int .i64 p, .int .i64 s, .bool st, .bool sk, .bool re, .bool fe, .bool ag, .int .i64 c, .int .i64 l, .slice (some ⟨g1, 0, none⟩) qn1 c1, .slice (some ⟨g2, 0, none⟩) qn2 c2, .int .i64 qp, .slice none 0 0, .slice (some ⟨g4, 0, none⟩) qn1 c4, .slice (some ⟨g5, 0, none⟩) qn2 c5, .int .i64 qp, .int .i64 (-1)] _ (World.rangeAt_setCells_same w6 w.heap.size 0 [.int .i64 p, .int .i64 s, .bool st, .bool sk, .bool re, .bool fe, .bool ag, .int .i64 c, .int .i64 l, .slice (some ⟨g1, 0, none⟩) qn1 c1, .slice (some ⟨g2, 0, none⟩) qn2 c2, .int .i64 qp, .slice none 0 0, .slice (some ⟨g4, 0, none⟩) qn1 c4, .slice (some ⟨g5, 0, none⟩) qn2 c5, .int .i64 qp, .int .i64 (-1)] HG.out.there) Try.underlying31 rfl (by kernel_rfl)
  have o1 : U.heap.size ≤ g1 := O1.out.o1.new
  have o2 : U.heap.size ≤ g2 := O1.out.o2.new
  have o4 := O2.out.o1.new
  have o5 := O2.out.o2.new
  obtain ⟨p1, p2, -, -⟩ := O1l.out
  obtain ⟨p4, p5, -, -⟩ := O2l.out
  refine bodyPost_ret (v := .agg (List.toArray [.int .i64 p, .int .i64 s, .bool st, .bool sk, .bool re, .bool fe, .bool ag, .int .i64 c, .int .i64 l, .slice (some ⟨g1, 0, none⟩) qn1 c1, .slice (some ⟨g2, 0, none⟩) qn2 c2, .int .i64 qp, .slice none 0 0, .slice (some ⟨g4, 0, none⟩) qn1 c4, .slice (some ⟨g5, 0, none⟩) qn2 c5, .int .i64 qp, .int .i64 (-1)])) ?_ rfl ⟨g1, c1, g2, c2, g4, c4, g5, c5, rfl, NewR.sc w.heap.size _ 0 ⟨O1.out.lower (Nat.le_of_lt hw1), O2.out.lower (by omega), ?_, ?_, O2l.out.1, O2l.out.2.1, ?_, ?_, ?_, ?_, HB.out⟩ (Nat.le_refl _) (by omega) (by omega) (by omega) (by omega)⟩
  · simp [results, Try.results33, asAddr, hrun]
  all_goals omega
end Go.Proofs.Ytenpnilljjfmkaa

/- Off8 -/
namespace Go.Proofs.Ytenpnilljjfmkaa
open Go.Joins Go.ChangeShapes Go.WideShapes Go.ChangeAt Go.RowKit Go.Deep
set_option linter.unusedVariables false

/-- A position whose cells begin at cell 9. -/
def Po9 (u : World) (d : Nat) (p1 p2 : Option Addr) (pn1 pc1 pn2 pc2 : Nat) (pp : Int) : Prop := d < u.heap.size ∧ u.cell? ⟨d, 9, none⟩ = some (.slice p1 pn1 pc1) ∧ u.cell? ⟨d, 10, none⟩ = some (.slice p2 pn2 pc2) ∧ u.cell? ⟨d, 11, none⟩ = some (.int .i64 pp)
/-- A position whose cells begin at cell o. -/
def PoO (u : World) (d o : Nat) (p1 p2 : Option Addr) (pn1 pc1 pn2 pc2 : Nat) (pp : Int) : Prop := d < u.heap.size ∧ u.cell? ⟨d, o, none⟩ = some (.slice p1 pn1 pc1) ∧ u.cell? ⟨d, o + 1, none⟩ = some (.slice p2 pn2 pc2) ∧ u.cell? ⟨d, o + 2, none⟩ = some (.int .i64 pp)
section
variable {u v : World} {d o : Nat} {p1 p2 : Option Addr} {pn1 pc1 pn2 pc2 : Nat} {pp : Int}
theorem Po9.below (h : Po9 u d p1 p2 pn1 pc1 pn2 pc2 pp) (k : Below u.heap.size u v) : Po9 v d p1 p2 pn1 pc1 pn2 pc2 pp := by
  obtain ⟨hb, h⟩ := h
  have e := fun o => k.cell (p := ⟨d, o, none⟩) hb
  exact ⟨Nat.lt_of_lt_of_le hb k.size, by rw [e, e, e]; exact h⟩
theorem Po9.but {g : Nat} (h : Po9 u d p1 p2 pn1 pc1 pn2 pc2 pp) (k : But g u v) (hg : d ≠ g) : Po9 v d p1 p2 pn1 pc1 pn2 pc2 pp := by
  obtain ⟨hb, h⟩ := h
  have e := fun o => k.cell (o := o) hb hg
  exact ⟨Nat.lt_of_lt_of_le hb k.size, by rw [e, e, e]; exact h⟩
theorem PoO.below (h : PoO u d o p1 p2 pn1 pc1 pn2 pc2 pp) (k : Below u.heap.size u v) : PoO v d o p1 p2 pn1 pc1 pn2 pc2 pp := by
  obtain ⟨hb, h⟩ := h
  have e := fun o => k.cell (p := ⟨d, o, none⟩) hb
  exact ⟨Nat.lt_of_lt_of_le hb k.size, by rw [e, e, e]; exact h⟩
theorem Po9.drew (h : Po9 u d p1 p2 pn1 pc1 pn2 pc2 pp) : Po9 u.drew d p1 p2 pn1 pc1 pn2 pc2 pp := h
theorem Po9.set3 {z : Nat} (h : Po9 u d p1 p2 pn1 pc1 pn2 pc2 pp) (hz : d ≠ z) (x y t : Value) : Po9 (((u.setCell ⟨z, 0, none⟩ x).setCell ⟨z, 1, none⟩ y).setCell ⟨z, 2, none⟩ t) d p1 p2 pn1 pc1 pn2 pc2 pp :=
  h.but ((((But.refl z u).setCell (p := ⟨z, 0, none⟩) rfl x).setCell (p := ⟨z, 1, none⟩) rfl y).setCell (p := ⟨z, 2, none⟩) rfl t) hz
theorem GmAt.p9 {u : World} {b : Nat} {ggp ggs ggc ggl : Int} {ggst ggsk ggre ggfe ggag : Bool} {gga1 gga2 : Option Addr} {ggan1 ggac1 ggan2 ggac2 : Nat} {ggap : Int} {ggm : Option Addr} {ggmn ggmc : Nat} {ggb1 ggb2 : Option Addr} {ggbn1 ggbc1 ggbn2 ggbc2 : Nat} {ggbp ggrg : Int} (h : GmAt u b ggp ggs ggc ggl ggst ggsk ggre ggfe ggag gga1 gga2 ggan1 ggac1 ggan2 ggac2 ggap ggm ggmn ggmc ggb1 ggb2 ggbn1 ggbc1 ggbn2 ggbc2 ggbp ggrg) : Po9 u b gga1 gga2 ggan1 ggac1 ggan2 ggac2 ggap := h.s9
theorem GmAt.ru {u : World} {b : Nat} {ggp ggs ggc ggl : Int} {ggst ggsk ggre ggfe ggag : Bool} {gga1 gga2 : Option Addr} {ggan1 ggac1 ggan2 ggac2 : Nat} {ggap : Int} {ggm : Option Addr} {ggmn ggmc : Nat} {ggb1 ggb2 : Option Addr} {ggbn1 ggbc1 ggbn2 ggbc2 : Nat} {ggbp ggrg : Int} (h : GmAt u b ggp ggs ggc ggl ggst ggsk ggre ggfe ggag gga1 gga2 ggan1 ggac1 ggan2 ggac2 ggap ggm ggmn ggmc ggb1 ggb2 ggbn1 ggbc1 ggbn2 ggbc2 ggbp ggrg) : RuAt u b ggp ggs ggc ggl ggst ggsk ggre ggfe ggag := by
  obtain ⟨h0, m0, m1, m2, m3, m4, m5, m6, m7, m8, -⟩ := h
  exact ⟨h0, m0, m1, m2, m3, m4, m5, m6, m7, m8⟩
end
set_option maxHeartbeats 4000000 in
set_option maxRecDepth 100000 in
theorem l04Own9_any (p1 p2 : Option Addr) (pn1 pc1 pn2 pc2 : Nat) (pp : Int) (xs ys : List Int) (d : Nat) (w : World) (hp : Po9 w d p1 p2 pn1 pc1 pn2 pc2 pp) (h : PosR w p1 p2 pn1 pn2 xs ys) (hne1 : xs ≠ []) (hne2 : ys ≠ []) :
    Calls Try.prog 50 #[.pointer (some ⟨d, 9, none⟩)] w (PosQ pn1 pn2 pp xs ys w) := by
  have H := Lib.hid h
  have HN1 := Lib.hid hne1
  have HN2 := Lib.hid hne2
  have hle1 : pn1 ≤ 1000000000000 := by have := h.r1.1; rwa [h.l1] at this
  have hle2 : pn2 ≤ 1000000000000 := by have := h.r2.1; rwa [h.l2] at this
  have HP := Lib.hid (hp.below (al1 _ (.cells #[.slice none 0 0, .slice none 0 0, .int .i64 0] 29)));have HB := Lib.hid (show OnW w _ from al1 w (.cells #[.slice none 0 0, .slice none 0 0, .int .i64 0] 29));have HZ := Lib.hid (zero_new w 29);have hdz : d ≠ w.heap.size := (by have := hp.1; omega)
  have HT : Hid (∀ u : World, Po9 u (d) p1 p2 pn1 pc1 pn2 pc2 pp → OnW w u → (d < u.heap.size ∧ u.cell? ⟨d, 9, none⟩ = some (.slice p1 pn1 pc1) ∧ u.cell? ⟨d, 10, none⟩ = some (.slice p2 pn2 pc2) ∧ u.cell? ⟨d, 11, none⟩ = some (.int .i64 pp)) ∧ Below w.heap.size w u) := Lib.hid (fun u h k => ⟨h, k⟩)
  clear h hne1 hne2
  go_enter Try.func50, Try.ntmps50
  go_wp2_with fail
  go_region_held3 (fun u => (d < u.heap.size ∧ u.cell? ⟨d, 9, none⟩ = some (.slice p1 pn1 pc1) ∧ u.cell? ⟨d, 10, none⟩ = some (.slice p2 pn2 pc2) ∧ u.cell? ⟨d, 11, none⟩ = some (.int .i64 pp)) ∧ Below w.heap.size w u) (first | exact HT.out _ HP.out HB.out | exact HT.out _ HP.out.drew HB.out.drew | exact HT.out _ (HP.out.set3 hdz _ _ _) (HB.out.set3 (by omega) _ _ _))
    (first
    | (go_at_call 61; (with_reducible refine (l00Own_any p1 pc1 pn1 xs _ H.out.l1 ?_ HN1.out).mono ?_); (first | exact H.out.r1.below HB.out | exact H.out.r1.below HB.out.drew); rintro e w5 ⟨v1, rfl, hown, hb5⟩; (obtain ⟨c5, b5, rfl, o5, hlt5, hc5⟩ := outN_own hown H.out.l1 hle1 HN1.out); have O1 := Lib.hid o5; have nb1 := o5.new; have nz1 := HZ.out.lt; (first | have HP := Lib.hid (HP.out.below hb5) | have HP := Lib.hid (HP.out.drew.below hb5) | have HP := Lib.hid ((HP.out.below (al1 _ _)).below hb5) | have HP := Lib.hid ((HP.out.below (al1 _ _)).drew.below hb5)); (first | have HB := Lib.hid (HB.out.below hb5) | have HB := Lib.hid (HB.out.drew.below hb5) | have HB := Lib.hid ((HB.out.below (al1 _ _)).below hb5) | have HB := Lib.hid ((HB.out.below (al1 _ _)).drew.below hb5)); (first | have HZ := Lib.hid (HZ.out.below hb5) | have HZ := Lib.hid (HZ.out.drew.below hb5) | have HZ := Lib.hid ((HZ.out.below (al1 _ _)).below hb5) | have HZ := Lib.hid ((HZ.out.below (al1 _ _)).drew.below hb5)); clear hown hb5 o5)
    | (go_at_call 61; (with_reducible refine (l00Own_any p2 pc2 pn2 ys _ H.out.l2 ?_ HN2.out).mono ?_); (first | exact H.out.r2.below HB.out | exact H.out.r2.below HB.out.drew); rintro e w6 ⟨v2, rfl, hown, hb6⟩; (obtain ⟨c6, b6, rfl, o6, hlt6, hc6⟩ := outN_own hown H.out.l2 hle2 HN2.out); have O2 := Lib.hid o6; have nb2 := o6.new; have nz2 := HZ.out.lt; (first | have HP := Lib.hid (HP.out.below hb6) | have HP := Lib.hid (HP.out.drew.below hb6) | have HP := Lib.hid ((HP.out.below (al1 _ _)).below hb6) | have HP := Lib.hid ((HP.out.below (al1 _ _)).drew.below hb6)); (first | have HB := Lib.hid (HB.out.below hb6) | have HB := Lib.hid (HB.out.drew.below hb6) | have HB := Lib.hid ((HB.out.below (al1 _ _)).below hb6) | have HB := Lib.hid ((HB.out.below (al1 _ _)).drew.below hb6)); (first | have HZ := Lib.hid (HZ.out.below hb6) | have HZ := Lib.hid (HZ.out.drew.below hb6) | have HZ := Lib.hid ((HZ.out.below (al1 _ _)).below hb6) | have HZ := Lib.hid ((HZ.out.below (al1 _ _)).drew.below hb6)); (first | have O1 := Lib.hid (O1.out.below hb6) | have O1 := Lib.hid (O1.out.drew.below hb6) | have O1 := Lib.hid ((O1.out.below (al1 _ _)).below hb6) | have O1 := Lib.hid ((O1.out.below (al1 _ _)).drew.below hb6)); (obtain ⟨zl, z0, z1, z2, zf⟩ := HZ.out); have f0 := zf 0; have f1 := zf 1; have f2 := zf 2; clear hown hb6 o6 zf))
  have nb3 : (w.heap.size) + 1 ≤ b5 := by
    have hh := nb1
    simp at hh
    omega
  have m5 : b5 ≠ w.heap.size := by omega
  have m6 : b6 ≠ w.heap.size := by omega
  have hs5 := HB.out.size
  go_wp2_with fail
  refine bodyPost_ret (v := .agg #[.slice (some ⟨b5, 0, none⟩) pn1 c5, .slice (some ⟨b6, 0, none⟩) pn2 c6, .int .i64 pp]) (by simp [results, Try.results50, go_sem, z0, z1, z2]) rfl ⟨b5, c5, b6, c6, rfl, ⟨(((O1.out.setCell m5 _).setCell m5 _).setCell m5 _).lower (by first | (simp; done) | (simp; omega)), (((O2.out.setCell m6 _).setCell m6 _).setCell m6 _).lower (by first | omega | (simp; omega)), by omega, H.out.l1, H.out.l2⟩, by simp; omega, by simp; omega, hc5, hc6, HB.out.set3 (by omega) _ _ _⟩
set_option maxHeartbeats 4000000 in
theorem l04Ok9_any (p s c l : Int) (st sk re fe ag : Bool) (p1 p2 : Option Addr) (pn1 pc1 pn2 pc2 : Nat) (pp : Int) (xs ys : List Int) (b d : Nat) (w : World) (c0 : w.cell? ⟨b, 0, none⟩ = some (.int .i64 p)) (c1 : w.cell? ⟨b, 1, none⟩ = some (.int .i64 s)) (c2 : w.cell? ⟨b, 2, none⟩ = some (.bool st)) (c3 : w.cell? ⟨b, 3, none⟩ = some (.bool sk)) (c4 : w.cell? ⟨b, 4, none⟩ = some (.bool re)) (c5 : w.cell? ⟨b, 5, none⟩ = some (.bool fe)) (c6 : w.cell? ⟨b, 6, none⟩ = some (.bool ag)) (c7 : w.cell? ⟨b, 7, none⟩ = some (.int .i64 c)) (c8 : w.cell? ⟨b, 8, none⟩ = some (.int .i64 l)) (d0 : w.cell? ⟨d, 9, none⟩ = some (.slice p1 pn1 pc1)) (d1 : w.cell? ⟨d, 10, none⟩ = some (.slice p2 pn2 pc2)) (d2 : w.cell? ⟨d, 11, none⟩ = some (.int .i64 pp))
    (h : PosR w p1 p2 pn1 pn2 xs ys) :
    Calls Try.prog 32 #[.pointer (some ⟨b, 0, none⟩), .pointer (some ⟨d, 9, none⟩)] w (Still (.bool (okP (okR p s c l st ag) p pn1 pn2 pp xs ys)) w) := by
  have hb1 : pn1 ≤ 1000000000000 := by rw [← h.l1]; exact h.r1.1
  have hb2 : pn2 ≤ 1000000000000 := by rw [← h.l2]; exact h.r2.1
  have H := Lib.hid h
  clear h
  rcases hok : okR p s c l st ag with _ | _
  · rw [okP_1 rfl]
    have Hok := Lib.hid hok
    clear hok
    go_enter Try.func32, Try.ntmps32
    go_wp2_with fail
    go_quiet ((go_at_call 47; exact quiet_w (l02Ok_b p s c l st sk re fe ag _ Hok.out b _ c0 c1 c2 c3 c4 c5 c6 c7 c8) ⟨_, rfl⟩))
    go_wp2_with fail
    go_ret
    exact ⟨rfl, _, rfl⟩
  · have hbd := okR_bd hok
    obtain ⟨hp1, hp2, -⟩ := hbd
    have Hok := Lib.hid hok
    clear hok
    by_cases h2 : (pn1 : Int) = 2 * p
    · have hd1 : ((pn1 : Int) != 2 * p) = false := by simpa using h2
      have H2 := Lib.hid h2
      clear h2
      by_cases h3 : pn2 = 2
      · have hd2 : ((pn2 : Int) != 2) = false := by simp [h3]
        have H3 := Lib.hid h3
        clear h3
        rcases h4 : (decide (0 ≤ pp) && decide (pp ≤ 1)) with _ | _
        · rw [okP_4 h4]
          have H4 := Lib.hid h4
          clear h4
          go_enter Try.func32, Try.ntmps32
          go_wp2_with fail
          go_quiet ((first | (go_at_call 47; exact quiet_w (l02Ok_b p s c l st sk re fe ag _ Hok.out b _ c0 c1 c2 c3 c4 c5 c6 c7 c8) ⟨_, rfl⟩) | (go_at_call 48; exact quiet_w (in_b pp 0 1 _ H4.out _) ⟨_, rfl⟩)))
          go_wp2_with fail
          go_ret
          exact ⟨rfl, _, rfl⟩
        · rw [okP_5 rfl H2.out H3.out h4, ← seedB_eq]
          have H4 := Lib.hid h4
          obtain ⟨b1, b2⟩ := sumC_bd xs
          obtain ⟨b3, b4⟩ := sumC_bd ys
          clear h4
          go_enter Try.func32, Try.ntmps32
          go_wp2_with fail
          go_quiet ((first | (go_at_call 47; exact quiet_w (l02Ok_b p s c l st sk re fe ag _ Hok.out b _ c0 c1 c2 c3 c4 c5 c6 c7 c8) ⟨_, rfl⟩) | (go_at_call 48; exact quiet_w (in_b pp 0 1 _ H4.out _) ⟨_, rfl⟩)))
          go_wp2_with fail
          refine (l04Sum_any p1 pc1 pn1 xs _ H.out.l1 (H.out.r1.drewN _)).mono ?_
          rintro e w' ⟨rfl, rfl⟩
          go_wp2_with fail
          refine (l04Sum_any p2 pc2 pn2 ys _ H.out.l2 (H.out.r2.drewN _)).mono ?_
          rintro e w' ⟨rfl, rfl⟩
          generalize sumC xs = s1 at *
          generalize sumC ys = s2 at *
          go_wp2_with fail
          all_goals
            go_ret
            exact ⟨by simp [*]; try omega, _, rfl⟩
      · rw [okP_3 h3]
        have hd2 : ((pn2 : Int) != 2) = true := by simp; omega
        clear h3
        go_enter Try.func32, Try.ntmps32
        go_wp2_with fail
        go_quiet ((go_at_call 47; exact quiet_w (l02Ok_b p s c l st sk re fe ag _ Hok.out b _ c0 c1 c2 c3 c4 c5 c6 c7 c8) ⟨_, rfl⟩))
        go_wp2_with fail
        go_ret
        exact ⟨rfl, _, rfl⟩
    · rw [okP_2 h2]
      have hd : ((pn1 : Int) != 2 * p) = true := by simpa using h2
      have hd2 : ((pn1 : Int) == 2 * p) = false := by simpa using h2
      clear h2
      go_enter Try.func32, Try.ntmps32
      go_wp2_with fail
      go_quiet ((go_at_call 47; exact quiet_w (l02Ok_b p s c l st sk re fe ag _ Hok.out b _ c0 c1 c2 c3 c4 c5 c6 c7 c8) ⟨_, rfl⟩))
      go_wp2_with fail
      go_ret
      exact ⟨rfl, _, rfl⟩
set_option maxHeartbeats 2000000 in
theorem l04SameO_any (p1 p2 : Option Addr) (pn1 pc1 pn2 pc2 : Nat) (pp : Int) (x1 x2 : Option Addr) (xn1 xc1 xn2 xc2 : Nat) (xp : Int) (xs ys us vs : List Int) (b o d : Nat) (w : World) (hp : PoO w b o p1 p2 pn1 pc1 pn2 pc2 pp) (hx : At3 w d x1 x2 xn1 xc1 xn2 xc2 xp 13 14 15) (h1 : PosR w p1 p2 pn1 pn2 xs ys) (h2 : PosR w x1 x2 xn1 xn2 us vs) :
    Calls Try.prog 56 #[.pointer (some ⟨b, o, none⟩), .pointer (some ⟨d, 13, none⟩)] w (Still (.bool (sameB xs us ys vs pp xp)) w) := by
  obtain ⟨_, g0, g1, g2⟩ := hp
  obtain ⟨_, k0, k1, k2⟩ := hx
  have C1 := Lib.hid (fun m => l00Same_any p1 x1 pc1 xc1 pn1 xn1 xs us (w.drewN m) h1.l1 h2.l1 (h1.drewN m).r1 (h2.drewN m).r1)
  have C2 := Lib.hid (fun m => l00Same_any p2 x2 pc2 xc2 pn2 xn2 ys vs (w.drewN m) h1.l2 h2.l2 (h1.drewN m).r2 (h2.drewN m).r2)
  clear h1 h2
  unfold sameB
  generalize hv1 : decide (xs = us) = v1 at *
  generalize hv2 : decide (ys = vs) = v2 at *
  clear hv1 hv2
  cases v1
  · go_enter Try.func56, Try.ntmps56
    go_wp2_with fail
    go_quiet ((go_at_call 64; with_reducible exact quiet_s (C1.out _) ⟨_, rfl⟩))
    go_wp2_with fail
    go_ret
    exact ⟨rfl, _, rfl⟩
  · cases v2
    all_goals
      go_enter Try.func56, Try.ntmps56
      go_wp2_with fail
      go_quiet ((first | (go_at_call 64; with_reducible exact quiet_s (C1.out _) ⟨_, rfl⟩) | (go_at_call 64; with_reducible exact quiet_s (C2.out _) ⟨_, rfl⟩)))
      go_wp2_with fail
      go_ret
      exact ⟨rfl, _, rfl⟩
end Go.Proofs.Ytenpnilljjfmkaa

/- Game7 -/
namespace Go.Proofs.Ytenpnilljjfmkaa
open Go.Joins Go.ChangeShapes Go.WideShapes Go.ChangeAt Go.RowKit Go.Deep
set_option linter.unusedVariables false

theorem there18 (v : World) (T : TypeId) : (v.alloc (.cells #[.int .i64 0, .int .i64 0, .bool false, .bool false, .bool false, .bool false, .bool false, .int .i64 0, .int .i64 0, .slice none 0 0, .slice none 0 0, .int .i64 0, .slice none 0 0, .slice none 0 0, .slice none 0 0, .int .i64 0, .int .i64 0, .slice none 0 0] T)).there v.heap.size 0 18 := fun j hj => by
  match j, hj with
  | 0, _ => exact ⟨by go_simp, by go_simp⟩
  | 1, _ => exact ⟨by go_simp, by go_simp⟩
  | 2, _ => exact ⟨by go_simp, by go_simp⟩
  | 3, _ => exact ⟨by go_simp, by go_simp⟩
  | 4, _ => exact ⟨by go_simp, by go_simp⟩
  | 5, _ => exact ⟨by go_simp, by go_simp⟩
  | 6, _ => exact ⟨by go_simp, by go_simp⟩
  | 7, _ => exact ⟨by go_simp, by go_simp⟩
  | 8, _ => exact ⟨by go_simp, by go_simp⟩
  | 9, _ => exact ⟨by go_simp, by go_simp⟩
  | 10, _ => exact ⟨by go_simp, by go_simp⟩
  | 11, _ => exact ⟨by go_simp, by go_simp⟩
  | 12, _ => exact ⟨by go_simp, by go_simp⟩
  | 13, _ => exact ⟨by go_simp, by go_simp⟩
  | 14, _ => exact ⟨by go_simp, by go_simp⟩
  | 15, _ => exact ⟨by go_simp, by go_simp⟩
  | 16, _ => exact ⟨by go_simp, by go_simp⟩
  | 17, _ => exact ⟨by go_simp, by go_simp⟩
  | n + 18, h => exact absurd h (by omega)
/-- A variable of 18 cells. -/
structure Th18 (u : World) (z : Nat) : Prop where
  lt : z < u.heap.size
  th : u.there z 0 18
theorem Th18.below {u v : World} {z : Nat} (h : Th18 u z) (k : Below u.heap.size u v) : Th18 v z := ⟨Nat.lt_of_lt_of_le h.lt k.size, there_of h.th h.lt k⟩
/-- A new play. -/
def NewP (p s c l : Int) (st sk re fe ag : Bool) (qn1 qn2 : Nat) (qp : Int) (xs ys : List Int) (w : World) (e : Ending) (w' : World) : Prop :=
  ∃ g1 c1 g2 c2 g4 c4 g5 c5 : Nat, e = .returned (.agg #[.int .i64 p, .int .i64 s, .bool st, .bool sk, .bool re, .bool fe, .bool ag, .int .i64 c, .int .i64 l, .slice (some ⟨g1, 0, none⟩) qn1 c1, .slice (some ⟨g2, 0, none⟩) qn2 c2, .int .i64 qp, .slice none 0 0, .slice (some ⟨g4, 0, none⟩) qn1 c4, .slice (some ⟨g5, 0, none⟩) qn2 c5, .int .i64 qp, .int .i64 (-1), .slice none 0 0]) ∧ NewR w w' g1 g2 g4 g5 qn1 qn2 xs ys
theorem pl_one (p s c l qp : Int) (st sk re fe ag : Bool) (g1 c1 g2 c2 g4 c4 g5 c5 qn1 qn2 : Nat) : (List.toArray ([.int .i64 p, .int .i64 s, .bool st, .bool sk, .bool re, .bool fe, .bool ag, .int .i64 c, .int .i64 l, .slice (some ⟨g1, 0, none⟩) qn1 c1, .slice (some ⟨g2, 0, none⟩) qn2 c2, .int .i64 qp, .slice none 0 0, .slice (some ⟨g4, 0, none⟩) qn1 c4, .slice (some ⟨g5, 0, none⟩) qn2 c5, .int .i64 qp, .int .i64 (-1), .slice none 0 0] : List Value)).all (·.oneCell') = true := all_oneCell_toArray (by simp [Value.oneCell'])
set_option maxHeartbeats 4000000 in
set_option maxRecDepth 100000 in
theorem beginPlay_any (p s c l : Int) (st sk re fe ag : Bool) (q1 q2 : Option Addr) (qn1 qc1 qn2 qc2 : Nat) (qp : Int) (xs ys : List Int) (w : World) (h : PosR w q1 q2 qn1 qn2 xs ys) (hne1 : xs ≠ []) (hne2 : ys ≠ []) :
    Calls Try.prog 36 #[.agg #[.int .i64 p, .int .i64 s, .bool st, .bool sk, .bool re, .bool fe, .bool ag, .int .i64 c, .int .i64 l], .agg #[.slice q1 qn1 qc1, .slice q2 qn2 qc2, .int .i64 qp]] w (NewP p s c l st sk re fe ag qn1 qn2 qp xs ys w) := by
  have H := Lib.hid h
  have HN := Lib.hid (And.intro hne1 hne2)
  have hs := rp_new p s c l st sk re fe ag q1 q2 qn1 qc1 qn2 qc2 qp w 28 29
  have hth := there18 ((w.alloc (.cells #[.int .i64 p, .int .i64 s, .bool st, .bool sk, .bool re, .bool fe, .bool ag, .int .i64 c, .int .i64 l] 28)).alloc (.cells #[.slice q1 qn1 qc1, .slice q2 qn2 qc2, .int .i64 qp] 29)) 61
  have hbz := al1 ((w.alloc (.cells #[.int .i64 p, .int .i64 s, .bool st, .bool sk, .bool re, .bool fe, .bool ag, .int .i64 c, .int .i64 l] 28)).alloc (.cells #[.slice q1 qn1 qc1, .slice q2 qn2 qc2, .int .i64 qp] 29)) (.cells #[.int .i64 0, .int .i64 0, .bool false, .bool false, .bool false, .bool false, .bool false, .int .i64 0, .int .i64 0, .slice none 0 0, .slice none 0 0, .int .i64 0, .slice none 0 0, .slice none 0 0, .slice none 0 0, .int .i64 0, .int .i64 0, .slice none 0 0] 61)
  have hsz : ((w.alloc (.cells #[.int .i64 p, .int .i64 s, .bool st, .bool sk, .bool re, .bool fe, .bool ag, .int .i64 c, .int .i64 l] 28)).alloc (.cells #[.slice q1 qn1 qc1, .slice q2 qn2 qc2, .int .i64 qp] 29)).heap.size = w.heap.size + 1 + 1 := by simp
  rw [hsz] at hth
  have HR := Lib.hid (hs.1.below hbz)
  have HP := Lib.hid (hs.2.1.below hbz)
  have HB := Lib.hid (hs.2.2.trans (hbz.mono hs.2.2.size))
  have HG : Hid (Th18 (((w.alloc (.cells #[.int .i64 p, .int .i64 s, .bool st, .bool sk, .bool re, .bool fe, .bool ag, .int .i64 c, .int .i64 l] 28)).alloc (.cells #[.slice q1 qn1 qc1, .slice q2 qn2 qc2, .int .i64 qp] 29)).alloc (.cells #[.int .i64 0, .int .i64 0, .bool false, .bool false, .bool false, .bool false, .bool false, .int .i64 0, .int .i64 0, .slice none 0 0, .slice none 0 0, .int .i64 0, .slice none 0 0, .slice none 0 0, .slice none 0 0, .int .i64 0, .int .i64 0, .slice none 0 0] 61)) (w.heap.size + 1 + 1)) := Lib.hid ⟨by simp, hth⟩
  have hw1 : w.heap.size + 1 + 1 < (((w.alloc (.cells #[.int .i64 p, .int .i64 s, .bool st, .bool sk, .bool re, .bool fe, .bool ag, .int .i64 c, .int .i64 l] 28)).alloc (.cells #[.slice q1 qn1 qc1, .slice q2 qn2 qc2, .int .i64 qp] 29)).alloc (.cells #[.int .i64 0, .int .i64 0, .bool false, .bool false, .bool false, .bool false, .bool false, .int .i64 0, .int .i64 0, .slice none 0 0, .slice none 0 0, .int .i64 0, .slice none 0 0, .slice none 0 0, .slice none 0 0, .int .i64 0, .int .i64 0, .slice none 0 0] 61)).heap.size := by simp
  clear h hne1 hne2 hs hth hbz hsz
  go_enter Try.func36, Try.ntmps36
  go_upto_region 1 with fail
  generalize hU : ((w.alloc (.cells #[.int .i64 p, .int .i64 s, .bool st, .bool sk, .bool re, .bool fe, .bool ag, .int .i64 c, .int .i64 l] 28)).alloc (.cells #[.slice q1 qn1 qc1, .slice q2 qn2 qc2, .int .i64 qp] 29)).alloc (.cells #[.int .i64 0, .int .i64 0, .bool false, .bool false, .bool false, .bool false, .bool false, .int .i64 0, .int .i64 0, .slice none 0 0, .slice none 0 0, .int .i64 0, .slice none 0 0, .slice none 0 0, .slice none 0 0, .int .i64 0, .int .i64 0, .slice none 0 0] 61) = U at *
  clear hU
  refine wp_region_held_drew (S := fun u => u.rangeAt w.heap.size 0 [.int .i64 p, .int .i64 s, .bool st, .bool sk, .bool re, .bool fe, .bool ag, .int .i64 c, .int .i64 l] ∧ u.rangeAt (w.heap.size + 1) 0 [.slice q1 qn1 qc1, .slice q2 qn2 qc2, .int .i64 qp]) (by kernel_rfl) ⟨RuAt.range9 HR.out, PoAt.range3 HP.out⟩ (fun hHeld => ?_)
  have HR := Lib.hid (HR.out.below (below_dn (Below.refl _ _) 1))
  have HP := Lib.hid (HP.out.below (below_dn (Below.refl _ _) 1))
  have HB := Lib.hid (below_dn HB.out 1)
  have HG := Lib.hid (HG.out.below (below_dn (Below.refl _ _) 1))
  refine wpAnyH_take (i := 0) rfl (by kernel_rfl) (by kernel_rfl) (by kernel_rfl) (fun _ _ _ h => h) (yieldsIf_load_mid (by rfl) 28 _ rfl w.heap.size 0 rfl [.int .i64 p, .int .i64 s, .bool st, .bool sk, .bool re, .bool fe, .bool ag, .int .i64 c, .int .i64 l] _ (fun u hu => hu.1) Try.underlying28 rfl (by kernel_rfl)) hHeld ?_
  simp only [Act.put, List.setIfInBounds_toArray]
  refine wpAnyH_take (i := 1) rfl (by kernel_rfl) (by kernel_rfl) (by kernel_rfl) (fun _ _ _ h => h) (yieldsIf_load_mid (by rfl) 29 _ rfl (w.heap.size + 1) 0 rfl [.slice q1 qn1 qc1, .slice q2 qn2 qc2, .int .i64 qp] _ (fun u hu => hu.2) Try.underlying29 rfl (by kernel_rfl)) hHeld ?_
  simp only [Act.put]
  refine wpAnyH_take (i := 3) rfl (by kernel_rfl) (by kernel_rfl) (by kernel_rfl) (fun _ _ _ h => h) (yieldsIf_load_mid (by rfl) 29 _ rfl (w.heap.size + 1) 0 rfl [.slice q1 qn1 qc1, .slice q2 qn2 qc2, .int .i64 qp] _ (fun u hu => hu.2) Try.underlying29 rfl (by kernel_rfl)) hHeld ?_
  simp only [Act.put]
  refine wpAnyH_ready (rs := [2]) (by kernel_rfl) (by simp) ?_
  refine AllReadyH.cons rfl (fun K hK => ?_) AllReadyH.nil
  rw [if_pos (by rfl)]
  go_simp
  go_at_call 55
  refine (copy_any q1 q2 qn1 qc1 qn2 qc2 qp xs ys _ (H.out.below HB.out) HN.out.1 HN.out.2).mono ?_
  rintro e w2 ⟨g1, c1, g2, c2, rfl, ho, lg, lh, lc, ld, hb⟩
  have HR := Lib.hid (HR.out.below hb)
  have HP := Lib.hid (HP.out.below hb)
  have HG := Lib.hid (HG.out.below hb)
  have HB := Lib.hid (HB.out.trans (hb.mono HB.out.size))
  have O1 := Lib.hid ho
  have O1l := Lib.hid (And.intro lg (And.intro lh (And.intro lc ld)))
  clear hb ho lg lh lc ld
  (try dsimp only)
  refine hK.out _ _ ⟨RuAt.range9 HR.out, PoAt.range3 HP.out⟩ (fun hHeld => ?_)
  clear hK K
  (try simp only [Act.put, List.setIfInBounds_toArray, List.set_cons_zero, List.set_cons_succ])
  refine wpAnyH_ready (rs := [4]) (by kernel_rfl) (by simp) ?_
  refine AllReadyH.cons rfl (fun K hK => ?_) AllReadyH.nil
  rw [if_pos (by rfl)]
  go_simp
  go_at_call 55
  refine (copy_any q1 q2 qn1 qc1 qn2 qc2 qp xs ys _ (H.out.below HB.out) HN.out.1 HN.out.2).mono ?_
  rintro e w4 ⟨g4, c4, g5, c5, rfl, ho, lg, lh, lc, ld, hb⟩
  have HR := Lib.hid (HR.out.below hb)
  have HP := Lib.hid (HP.out.below hb)
  have HG := Lib.hid (HG.out.below hb)
  have O1 := Lib.hid (O1.out.below hb)
  have HB := Lib.hid (HB.out.trans (hb.mono HB.out.size))
  have O2 := Lib.hid ho
  have O2l := Lib.hid (And.intro lg (And.intro lh (And.intro lc ld)))
  clear hb ho lg lh lc ld
  (try dsimp only)
  refine hK.out _ _ ⟨RuAt.range9 HR.out, PoAt.range3 HP.out⟩ (fun hHeld => ?_)
  clear hK K
  (try simp only [Act.put, List.setIfInBounds_toArray, List.set_cons_zero, List.set_cons_succ])
  refine wpAnyH_take (i := 5) (oi := { dst := some 10, op := Op.build 31 #[(0, Operand.tmp 5), (1, Operand.tmp 7), (3, Operand.tmp 9), (4, Operand.const (Value.int IntKind.i64 (-1)))], type := 31, pos := "l08_games.go:32", after := #[{ on := 0, ground := Ground.data }, { on := 2, ground := Ground.data }, { on := 4, ground := Ground.data }], guard := none }) (v := .agg #[.int .i64 p, .int .i64 s, .bool st, .bool sk, .bool re, .bool fe, .bool ag, .int .i64 c, .int .i64 l, .slice (some ⟨g1, 0, none⟩) qn1 c1, .slice (some ⟨g2, 0, none⟩) qn2 c2, .int .i64 qp, .slice none 0 0, .slice (some ⟨g4, 0, none⟩) qn1 c4, .slice (some ⟨g5, 0, none⟩) qn2 c5, .int .i64 qp, .int .i64 (-1)]) rfl (by kernel_rfl) (by kernel_rfl) (by kernel_rfl) (fun _ _ _ h => h) (.inl ⟨by rfl, fun u hu => by (try dsimp only at hu); go_simp; try with_reducible rfl⟩) hHeld ?_
  simp only [Act.put, List.setIfInBounds_toArray, List.set_cons_zero, List.set_cons_succ]
  refine wpAnyH_take (i := 6) (oi := { dst := some 11, op := Op.build 61 #[(0, Operand.tmp 10)], type := 61, pos := "l08_games.go:32", after := #[{ on := 5, ground := Ground.data }], guard := none }) (v := .agg #[.int .i64 p, .int .i64 s, .bool st, .bool sk, .bool re, .bool fe, .bool ag, .int .i64 c, .int .i64 l, .slice (some ⟨g1, 0, none⟩) qn1 c1, .slice (some ⟨g2, 0, none⟩) qn2 c2, .int .i64 qp, .slice none 0 0, .slice (some ⟨g4, 0, none⟩) qn1 c4, .slice (some ⟨g5, 0, none⟩) qn2 c5, .int .i64 qp, .int .i64 (-1), .slice none 0 0]) rfl (by kernel_rfl) (by kernel_rfl) (by kernel_rfl) (fun _ _ _ h => h) (.inl ⟨by rfl, fun u hu => by (try dsimp only at hu); go_simp; try with_reducible rfl⟩) hHeld ?_
  simp only [Act.put, List.setIfInBounds_toArray, List.set_cons_zero, List.set_cons_succ]
  refine wpAnyH_ready (rs := [7]) (by kernel_rfl) (by simp) ?_
  refine AllReadyH.cons rfl (fun K hK => ?_) AllReadyH.nil
  rw [if_pos (by rfl)]
  refine wp_store_mid 61 _ _ rfl (w.heap.size + 1 + 1) 0 (List.toArray [.int .i64 p, .int .i64 s, .bool st, .bool sk, .bool re, .bool fe, .bool ag, .int .i64 c, .int .i64 l, .slice (some ⟨g1, 0, none⟩) qn1 c1, .slice (some ⟨g2, 0, none⟩) qn2 c2, .int .i64 qp, .slice none 0 0, .slice (some ⟨g4, 0, none⟩) qn1 c4, .slice (some ⟨g5, 0, none⟩) qn2 c5, .int .i64 qp, .int .i64 (-1), .slice none 0 0]) rfl rfl HG.out.th (by kernel_rfl) (pl_one p s c l qp st sk re fe ag g1 c1 g2 c2 g4 c4 g5 c5 qn1 qn2) ?_
  simp only [Act.put, List.setIfInBounds_toArray]
  refine hK.out _ _ ⟨RuAt.range9 (HR.out.but (but_scg (w.heap.size + 1 + 1) [.int .i64 p, .int .i64 s, .bool st, .bool sk, .bool re, .bool fe, .bool ag, .int .i64 c, .int .i64 l, .slice (some ⟨g1, 0, none⟩) qn1 c1, .slice (some ⟨g2, 0, none⟩) qn2 c2, .int .i64 qp, .slice none 0 0, .slice (some ⟨g4, 0, none⟩) qn1 c4, .slice (some ⟨g5, 0, none⟩) qn2 c5, .int .i64 qp, .int .i64 (-1), .slice none 0 0] 0 (But.refl _ _)) (by omega)), PoAt.range3 (HP.out.but (but_scg (w.heap.size + 1 + 1) [.int .i64 p, .int .i64 s, .bool st, .bool sk, .bool re, .bool fe, .bool ag, .int .i64 c, .int .i64 l, .slice (some ⟨g1, 0, none⟩) qn1 c1, .slice (some ⟨g2, 0, none⟩) qn2 c2, .int .i64 qp, .slice none 0 0, .slice (some ⟨g4, 0, none⟩) qn1 c4, .slice (some ⟨g5, 0, none⟩) qn2 c5, .int .i64 qp, .int .i64 (-1), .slice none 0 0] 0 (But.refl _ _)) (by omega))⟩ (fun hHeld => ?_)
  clear hK K
  (try simp only [Act.put, List.setIfInBounds_toArray, List.set_cons_zero, List.set_cons_succ])
  refine wpAnyH_done (by kernel_rfl) ?_ _
  go_wp2_with fail
  have hrun := run_loadVar_mid (P := Try.prog) _ (w.heap.size + 1 + 1) 0 61 [.int .i64 p, .int .i64 s, .bool st, .bool sk, .bool re, .bool fe, .bool ag, .int .i64 c, .int .i64 l, .slice (some ⟨g1, 0, none⟩) qn1 c1, .slice (some ⟨g2, 0, none⟩) qn2 c2, .int .i64 qp, .slice none 0 0, .slice (some ⟨g4, 0, none⟩) qn1 c4, .slice (some ⟨g5, 0, none⟩) qn2 c5, .int .i64 qp, .int .i64 (-1), .slice none 0 0] _ (World.rangeAt_setCells_same w4 (w.heap.size + 1 + 1) 0 [.int .i64 p, .int .i64 s, .bool st, .bool sk, .bool re, .bool fe, .bool ag, .int .i64 c, .int .i64 l, .slice (some ⟨g1, 0, none⟩) qn1 c1, .slice (some ⟨g2, 0, none⟩) qn2 c2, .int .i64 qp, .slice none 0 0, .slice (some ⟨g4, 0, none⟩) qn1 c4, .slice (some ⟨g5, 0, none⟩) qn2 c5, .int .i64 qp, .int .i64 (-1), .slice none 0 0] HG.out.th) Try.underlying61 rfl (by kernel_rfl)
  have o1 : U.heap.size ≤ g1 := O1.out.o1.new
  have o2 : U.heap.size ≤ g2 := O1.out.o2.new
  have o4 := O2.out.o1.new
  have o5 := O2.out.o2.new
  obtain ⟨p1, p2, -, -⟩ := O1l.out
  obtain ⟨p4, p5, -, -⟩ := O2l.out
  refine bodyPost_ret (v := .agg (List.toArray [.int .i64 p, .int .i64 s, .bool st, .bool sk, .bool re, .bool fe, .bool ag, .int .i64 c, .int .i64 l, .slice (some ⟨g1, 0, none⟩) qn1 c1, .slice (some ⟨g2, 0, none⟩) qn2 c2, .int .i64 qp, .slice none 0 0, .slice (some ⟨g4, 0, none⟩) qn1 c4, .slice (some ⟨g5, 0, none⟩) qn2 c5, .int .i64 qp, .int .i64 (-1), .slice none 0 0])) ?_ rfl ⟨g1, c1, g2, c2, g4, c4, g5, c5, rfl, NewR.sc (w.heap.size + 1 + 1) _ 0 ⟨O1.out.lower (show w.heap.size ≤ U.heap.size by omega), O2.out.lower (by omega), ?_, ?_, O2l.out.1, O2l.out.2.1, ?_, ?_, ?_, ?_, HB.out⟩ (by omega) (by omega) (by omega) (by omega) (by omega)⟩
  · simp [results, Try.results36, asAddr, hrun]
  all_goals omega
end Go.Proofs.Ytenpnilljjfmkaa

/- Rn8 -/
namespace Go.Proofs.Ytenpnilljjfmkaa
open Go.Joins Go.ChangeShapes Go.WideShapes Go.ChangeAt Go.RowKit Go.Deep
set_option linter.unusedVariables false

theorem own_butS {w w' : World} {B e s n b : Nat} {v : Value} {xs : List Value} (h : w.ownsRow B e s v n xs) (k : But b w w') (hb : ∀ i, v.ownBlock = some i → i ≠ b) : w'.ownsRow B e s v n xs := by
  obtain ⟨h1, h2 | ⟨g, cap, cur, hv, hB, hg, hr⟩⟩ := h
  · exact ⟨h1, .inl h2⟩
  · have hgb : g ≠ b := hb g (by rw [hv]; rfl)
    exact ⟨h1, .inr ⟨g, cap, cur, hv, hB, by rw [k.block g (Array.getElem?_eq_some_iff.1 hg).1 hgb]; exact hg, hr⟩⟩
theorem own_grownS {w w' : World} {B e s n : Nat} {v : Value} {xs : List Value} {row : Option Nat} (h : w.ownsRow B e s v n xs) (hg : w.grownBy w' row) (hb : ∀ i j, v.ownBlock = some i → row = some j → i ≠ j) : w'.ownsRow B e s v n xs := by
  obtain ⟨h1, h2 | ⟨g, cap, cur, hv, hB, hc, hr⟩⟩ := h
  · exact ⟨h1, .inl h2⟩
  · exact ⟨h1, .inr ⟨g, cap, cur, hv, hB, by rw [hg.block g (Array.getElem?_eq_some_iff.1 hc).1 (fun e => hb g g (by rw [hv]; rfl) e.symm rfl)]; exact hc, hr⟩⟩
theorem Rs3.but {u v : World} {B b : Nat} {x : Value} {L : List (Ps × Q7)} (h : Rs3 u B x L) (k : But b u v) (h1 : ∀ i, x.ownBlock = some i → i ≠ b) (h2 : ∀ y ∈ L, y.2.g1 ≠ b ∧ y.2.g2 ≠ b) : Rs3 v B x L :=
  ⟨own_butS h.own k h1, fun y hy => ⟨(h.it y hy).o.but k (h2 y hy).1 (h2 y hy).2, Nat.lt_of_lt_of_le (h.it y hy).l1 k.size, Nat.lt_of_lt_of_le (h.it y hy).l2 k.size, (h.it y hy).k1, (h.it y hy).k2⟩, h.ne, h.pw⟩
theorem Rs3.grown {u v : World} {B : Nat} {x : Value} {L : List (Ps × Q7)} {row : Option Nat} (h : Rs3 u B x L) (hg : u.grownBy v row) (h1 : ∀ i j, x.ownBlock = some i → row = some j → i ≠ j) (h2 : ∀ y ∈ L, ∀ j, row = some j → j ≠ y.2.g1 ∧ j ≠ y.2.g2) : Rs3 v B x L :=
  ⟨own_grownS h.own hg h1, fun y hy => (h.it y hy).grown hg (fun j hj => h2 y hy j hj), h.ne, h.pw⟩
theorem PoAt.grown {u v : World} {d : Nat} {p1 p2 : Option Addr} {pn1 pc1 pn2 pc2 : Nat} {pp : Int} {row : Option Nat} (h : PoAt u d p1 p2 pn1 pc1 pn2 pc2 pp) (hg : u.grownBy v row) (hr : ∀ j, row = some j → j ≠ d) : PoAt v d p1 p2 pn1 pc1 pn2 pc2 pp := by
  have hb := hg.block d h.1 (fun e => hr d e.symm rfl)
  have e : ∀ o, v.cell? ⟨d, o, none⟩ = u.cell? ⟨d, o, none⟩ := fun o => World.cell?_of_block (a := ⟨d, o, none⟩) hb
  exact ⟨Nat.lt_of_lt_of_le h.1 hg.size, (e 0).trans h.2.1, (e 1).trans h.2.2.1, (e 2).trans h.2.2.2⟩
/-- All that is kept between two moves. -/
structure RnK (w : World) (nb n1 : Nat) (v1 v2 : Value) (L : List (Ps × Q7)) (gs : List Int) (h1 h2 d1 d2 : Nat) (q : Ps) (u : World) : Prop where
  rs : Rs3 u w.heap.size v1 L
  gn : u.ownsRow w.heap.size 2 1 v2 gs.length (nvs gs)
  po : PoAt u nb (some ⟨h1, 0, none⟩) (some ⟨h2, 0, none⟩) n1 d1 2 d2 q.pl
  fr : ∀ o, u.frozen? ⟨nb, o, none⟩ = false
  o : PosO u w.heap.size (some ⟨h1, 0, none⟩) (some ⟨h2, 0, none⟩) h1 h2 n1 2 q.xs q.ys
  l1 : h1 < u.heap.size
  l2 : h2 < u.heap.size
  k1 : n1 ≤ d1
  k2 : 2 ≤ d2
  nbm : w.heap.size ≤ nb
  sa : ∀ i, v1.ownBlock = some i → i ≠ nb ∧ i ≠ h1 ∧ i ≠ h2
  sv : ∀ i j, v1.ownBlock = some i → v2.ownBlock = some j → i ≠ j
  sb : ∀ j, v2.ownBlock = some j → j ≠ nb ∧ j ≠ h1 ∧ j ≠ h2
  sx : ∀ x ∈ L, (∀ j, v2.ownBlock = some j → j ≠ x.2.g1 ∧ j ≠ x.2.g2) ∧ x.2.g1 ≠ nb ∧ x.2.g2 ≠ nb
  sc : h1 ≠ nb ∧ h2 ≠ nb
  be : Below w.heap.size w u
section
variable {w u v : World} {nb n1 : Nat} {v1 v2 : Value} {L : List (Ps × Q7)} {gs : List Int} {h1 h2 d1 d2 : Nat} {q : Ps}
theorem RnK.below (h : RnK w nb n1 v1 v2 L gs h1 h2 d1 d2 q u) (k : Below u.heap.size u v) : RnK w nb n1 v1 v2 L gs h1 h2 d1 d2 q v :=
  ⟨h.rs.below k, own_keepS h.gn k, h.po.below k, fun o => (k.frozen (p := ⟨nb, o, none⟩) h.po.1).trans (h.fr o), h.o.below k, Nat.lt_of_lt_of_le h.l1 k.size, Nat.lt_of_lt_of_le h.l2 k.size, h.k1, h.k2, h.nbm, h.sa, h.sv, h.sb, h.sx, h.sc, h.be.trans (k.mono h.be.size)⟩
/-- The position of now turns. -/
theorem RnK.now (h : RnK w nb n1 v1 v2 L gs h1 h2 d1 d2 q u) {H0 g1 g2 c1 c2 : Nat} {q' : Ps} (hH : w.heap.size ≤ H0) (hv1 : ∀ i, v1.ownBlock = some i → i < H0) (hv2 : ∀ i, v2.ownBlock = some i → i < H0) (hnb : nb < H0)
    (ho : PosO u H0 (some ⟨g1, 0, none⟩) (some ⟨g2, 0, none⟩) g1 g2 n1 2 q'.xs q'.ys) (l1 : g1 < u.heap.size) (l2 : g2 < u.heap.size) (k1 : n1 ≤ c1) (k2 : 2 ≤ c2) :
    RnK w nb n1 v1 v2 L gs g1 g2 c1 c2 q' (((u.setCell ⟨nb, 0, none⟩ (.slice (some ⟨g1, 0, none⟩) n1 c1)).setCell ⟨nb, 1, none⟩ (.slice (some ⟨g2, 0, none⟩) 2 c2)).setCell ⟨nb, 2, none⟩ (.int .i64 q'.pl)) := by
  have k : But nb u (((u.setCell ⟨nb, 0, none⟩ (.slice (some ⟨g1, 0, none⟩) n1 c1)).setCell ⟨nb, 1, none⟩ (.slice (some ⟨g2, 0, none⟩) 2 c2)).setCell ⟨nb, 2, none⟩ (.int .i64 q'.pl)) := (((But.refl nb u).setCell (p := ⟨nb, 0, none⟩) rfl _).setCell (p := ⟨nb, 1, none⟩) rfl _).setCell (p := ⟨nb, 2, none⟩) rfl _
  have n1' := ho.o1.new
  have n2' := ho.o2.new
  obtain ⟨pl, p0, p1, p2⟩ := h.po
  have f0 := h.fr 0
  have f1 := h.fr 1
  have f2 := h.fr 2
  have hbe := h.be
  refine ⟨h.rs.but k (fun i hi => (h.sa i hi).1) (fun y hy => (h.sx y hy).2), own_butS h.gn k (fun i hi => (h.sb i hi).1), ⟨by simpa using pl, by go_simp, by go_simp, by go_simp⟩, fun o => by have := h.fr o; go_simp, (ho.but k (by omega) (by omega)).lower hH, by simpa using l1, by simpa using l2, k1, k2, h.nbm, fun i hi => ?_, h.sv, fun j hj => ?_, h.sx, ⟨by omega, by omega⟩, OnW.set3 (show OnW w u from h.be) h.nbm _ _ _⟩
  · have := hv1 i hi
    exact ⟨(h.sa i hi).1, by omega, by omega⟩
  · have := hv2 j hj
    exact ⟨(h.sb j hj).1, by omega, by omega⟩
/-- A position more. -/
theorem RnK.push1 (h : RnK w nb n1 v1 v2 L gs h1 h2 d1 d2 q u) {u' w1 : World} {H0 g cap : Nat} {x : Ps × Q7} (hx : It3 u w.heap.size x) (hf : ∀ y ∈ L, y.2.g1 < H0 ∧ y.2.g2 < H0) (hv : ∀ i, v1.ownBlock = some i → i < H0) (hv2 : ∀ i, v2.ownBlock = some i → i < H0) (hnb : nb < H0) (hx1 : H0 ≤ x.2.g1) (hx2 : H0 ≤ x.2.g2) (hu : Below u.heap.size u u')
    (hown : w1.ownsRow w.heap.size 29 3 (.slice (some ⟨g, 0, none⟩) (L.length + 1) cap) (L.length + 1) (flat3 L ++ cells3 x)) (hg : u'.grownBy w1 v1.ownBlock) (hat : v1.ownBlock = some g ∨ g = u'.heap.size) :
    RnK w nb n1 (.slice (some ⟨g, 0, none⟩) (L.length + 1) cap) v2 (L ++ [x]) gs h1 h2 d1 d2 q w1 := by
  have hk := h.below hu
  have s1 : ∀ j, v1.ownBlock = some j → w.heap.size ≤ j := fun j hj => (own_lt h.rs.own j hj).1
  have hl1 := hk.l1
  have hl2 := hk.l2
  have hpo := hk.po.1
  refine ⟨Rs3.snoc h.rs hx hf hv hx1 hx2 hu hown hg hat, own_grownS hk.gn hg (fun i j hi hj => fun e => h.sv j i hj hi e.symm), hk.po.grown hg (fun j hj => (h.sa j hj).1), fun o => ?_, hk.o.grown hg (fun j hj => (h.sa j hj).2.1) (fun j hj => (h.sa j hj).2.2), Nat.lt_of_lt_of_le hk.l1 hg.size, Nat.lt_of_lt_of_le hk.l2 hg.size, h.k1, h.k2, h.nbm, fun i hi => ?_, fun i j hi hj => ?_, h.sb, fun y hy => ?_, h.sc, hk.be.grown hg (by have := hk.be.size; omega) s1⟩
  · exact (World.frozen?_of_block (a := ⟨nb, o, none⟩) (hg.block nb hpo (fun e => (h.sa nb e.symm).1 rfl))).trans (hk.fr o)
  · have hi' : g = i := by simpa [Value.ownBlock] using hi
    subst hi'
    rcases hat with e | e
    · exact h.sa g e
    · exact ⟨by omega, by omega, by omega⟩
  · have hi' : g = i := by simpa [Value.ownBlock] using hi
    subst hi'
    rcases hat with e | e
    · exact h.sv g j e hj
    · have h3 := (own_lt hk.gn j hj).2
      omega
  · rcases List.mem_append.1 hy with hy | hy
    · exact h.sx y hy
    · rw [List.mem_singleton] at hy
      subst hy
      exact ⟨fun j hj => by have := hv2 j hj; exact ⟨by omega, by omega⟩, by omega, by omega⟩
/-- A gain more. -/
theorem RnK.push2 (h : RnK w nb n1 v1 v2 L gs h1 h2 d1 d2 q u) {w1 : World} {g cap : Nat} {x : Int}
    (hown : w1.ownsRow w.heap.size 2 1 (.slice (some ⟨g, 0, none⟩) (gs.length + 1) cap) (gs.length + 1) (nvs gs ++ nvs [x])) (hg : u.grownBy w1 v2.ownBlock) (hat : v2.ownBlock = some g ∨ g = u.heap.size) :
    RnK w nb n1 v1 (.slice (some ⟨g, 0, none⟩) (gs.length + 1) cap) L (gs ++ [x]) h1 h2 d1 d2 q w1 := by
  have s1 : ∀ j, v2.ownBlock = some j → w.heap.size ≤ j := fun j hj => (own_lt h.gn j hj).1
  have hl1 := h.l1
  have hl2 := h.l2
  have hpo := h.po.1
  refine ⟨h.rs.grown hg (fun i j hi hj => h.sv i j hi hj) (fun y hy j hj => (h.sx y hy).1 j hj), by rw [List.length_append, List.length_singleton, nvs_app]; exact hown, h.po.grown hg (fun j hj => (h.sb j hj).1), fun o => ?_, h.o.grown hg (fun j hj => (h.sb j hj).2.1) (fun j hj => (h.sb j hj).2.2), Nat.lt_of_lt_of_le h.l1 hg.size, Nat.lt_of_lt_of_le h.l2 hg.size, h.k1, h.k2, h.nbm, h.sa, fun i j hi hj => ?_, fun j hj => ?_, fun y hy => ⟨fun j hj => ?_, (h.sx y hy).2⟩, h.sc, h.be.grown hg (by have := h.be.size; omega) s1⟩
  · exact (World.frozen?_of_block (a := ⟨nb, o, none⟩) (hg.block nb hpo (fun e => (h.sb nb e.symm).1 rfl))).trans (h.fr o)
  · have hj' : g = j := by simpa [Value.ownBlock] using hj
    subst hj'
    rcases hat with e | e
    · exact h.sv i g hi e
    · have h3 := (own_lt h.rs.own i hi).2
      omega
  · have hj' : g = j := by simpa [Value.ownBlock] using hj
    subst hj'
    rcases hat with e | e
    · exact h.sb g e
    · exact ⟨by omega, by omega, by omega⟩
  · have hj' : g = j := by simpa [Value.ownBlock] using hj
    subst hj'
    rcases hat with e | e
    · exact (h.sx y hy).1 g e
    · have h3 := (h.rs.it y hy).l1
      have h4 := (h.rs.it y hy).l2
      exact ⟨by omega, by omega⟩
end
theorem own_one3 (u : World) (x : Ps × Q7) (B : Nat) (hB : B ≤ u.heap.size) : (u.alloc (.cells #[.slice (some ⟨x.2.g1, 0, none⟩) x.2.n1 x.2.k1, .slice (some ⟨x.2.g2, 0, none⟩) 2 x.2.k2, .int .i64 x.1.pl] 29)).ownsRow B 29 3 (.slice (some ⟨u.heap.size, 0, none⟩) 1 1) 1 (flat3 [x]) :=
  ⟨rfl, .inr ⟨u.heap.size, 1, _, rfl, hB, heap_alloc_new u _, Nat.le_refl _, by decide, rfl, by simp [flat3, cells3]⟩⟩
end Go.Proofs.Ytenpnilljjfmkaa
