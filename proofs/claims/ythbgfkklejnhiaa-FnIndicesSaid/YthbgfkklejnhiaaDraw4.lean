/- A position that the reference draws is valid. No conditions. -/
import Derived.Test.YthbgfkklejnhiaaStart4
import Derived.Test.YthbgfkklejnhiaaDraw
import Derived.Deep.DeepCutAuto
namespace Go.Proofs.Ythbgfkklejnhiaa
open Go.Joins Go.ChangeShapes Go.WideShapes Go.ChangeAt Go.RowKit Go.Deep
set_option linter.unusedVariables false

/-- A row of n numbers at the head of block g: the first k are not above lo, all are not above hi and none is negative. -/
structure PitsAt (u : World) (g n k : Nat) (lo hi : Int) : Prop where
  lt : g < u.heap.size
  fr : ∀ o, u.frozen? ⟨g, o, none⟩ = false
  at' : ∀ i, i < n → ∃ x : Int, u.cell? ⟨g, i, none⟩ = some (.int .i64 x) ∧ 0 ≤ x ∧ x ≤ hi ∧ (i < k → x ≤ lo)
theorem PitsAt.but {u u' : World} {g n k b : Nat} {lo hi : Int} (h : PitsAt u g n k lo hi) (kb : But b u u') (hg : g ≠ b) : PitsAt u' g n k lo hi :=
  ⟨Nat.lt_of_lt_of_le h.lt kb.size, fun o => (kb.frozen h.lt hg).trans (h.fr o), fun i hi => by
    obtain ⟨x, hx, hb⟩ := h.at' i hi
    exact ⟨x, (kb.cell h.lt hg).trans hx, hb⟩⟩
theorem PitsAt.set {u : World} {g n k k' j : Nat} {lo hi v : Int} (h : PitsAt u g n k lo hi) (hj : j < n) (h0 : 0 ≤ v) (h1 : v ≤ lo) (h2 : v ≤ hi) (hk : k' = k ∨ (j = k ∧ k' = k + 1)) : PitsAt (u.setCell ⟨g, j, none⟩ (.int .i64 v)) g n k' lo hi := by
  obtain ⟨y, hy, -⟩ := h.at' j hj
  have fj := h.fr j
  refine ⟨by simpa using h.lt, fun o => ?_, fun i hi => ?_⟩
  · have := h.fr o
    go_simp
  · by_cases e : i = j
    · subst e
      exact ⟨v, by go_simp, h0, h2, fun _ => h1⟩
    · obtain ⟨x, hx, a, b, c⟩ := h.at' i hi
      exact ⟨x, by go_simp, a, b, fun hlt => c (by omega)⟩
theorem pits_of {u : World} {B g k : Nat} {lo hi : Int} {xs : List Int} (h : OutN u B (some ⟨g, 0, none⟩) g xs) (hne : xs ≠ []) (hb : ∀ x ∈ xs, 0 ≤ x ∧ x ≤ hi) (hk : k = 0 ∨ lo = hi) : PitsAt u g xs.length k lo hi := by
  obtain ⟨hlt, hf⟩ := h.free hne
  refine ⟨hlt, hf, fun i hi => ?_⟩
  obtain ⟨_, h1 | ⟨g', o, ha, _, hx⟩⟩ := h.row
  · exact absurd h1 hne
  · cases ha
    have e : xs[i]? = some xs[i] := List.getElem?_eq_getElem hi
    have hm := hb _ (List.getElem_mem hi)
    have hc := hx i _ e
    rw [Nat.zero_add] at hc
    exact ⟨_, hc, hm.1, hm.2, fun hlt => by rcases hk with rfl | rfl <;> omega⟩
/-- The numbers of a row. -/
theorem row_list {u : World} {g n : Nat} {lo hi : Int} (h : PitsAt u g n n lo hi) (hlo : lo ≤ hi) (B : Nat) (hB : B ≤ g) (hn : n ≤ 1000000000000) (h0 : 0 < n) : ∃ xs : List Int, xs.length = n ∧ OutN u B (some ⟨g, 0, none⟩) g xs ∧ ∀ x ∈ xs, 0 ≤ x ∧ x ≤ lo := by
  have key : ∀ m, m ≤ n → ∃ xs : List Int, xs.length = m ∧ (∀ i x, xs[i]? = some x → u.cell? ⟨g, i, none⟩ = some (.int .i64 x)) ∧ ∀ x ∈ xs, 0 ≤ x ∧ x ≤ lo := by
    intro m
    induction m with
    | zero => exact fun _ => ⟨[], rfl, fun i x hx => by simp at hx, fun x hx => by simp at hx⟩
    | succ m ih =>
      intro hm
      obtain ⟨xs, hl, hx, hb⟩ := ih (by omega)
      obtain ⟨y, hy, a, b, c⟩ := h.at' m (by omega)
      refine ⟨xs ++ [y], by simp [hl], fun i x hi => ?_, fun x hi => ?_⟩
      · by_cases e : i < m
        · rw [List.getElem?_append_left (by omega)] at hi
          exact hx i x hi
        · rw [List.getElem?_append_right (by omega), hl] at hi
          have e2 : i = m := by
            by_cases e3 : i - m = 0
            · omega
            · rw [List.getElem?_eq_none (by simp; omega)] at hi
              cases hi
          subst e2
          simp at hi
          subst hi
          exact hy
      · rcases List.mem_append.1 hi with h1 | h1
        · exact hb x h1
        · rw [List.mem_singleton.1 h1]
          exact ⟨a, c (by omega)⟩
  obtain ⟨xs, hl, hx, hb⟩ := key n (Nat.le_refl _)
  exact ⟨xs, hl, ⟨⟨by omega, .inr ⟨g, 0, rfl, h.lt, fun i x hi => by rw [Nat.zero_add]; exact hx i x hi⟩⟩, fun _ _ e => by cases e; rfl, hB, fun _ => ⟨h.lt, h.fr⟩⟩, hb⟩

/-- A position that is being drawn. -/
structure Drw (w : World) (sb : Nat) (a : Option Addr) (len cap : Nat) (b : Nat) (p s c l : Int) (st sk re fe ag : Bool) (V g1 g2 n c1 c2 : Nat) (pl : Int) (K k : Nat) (u : World) : Prop where
  on : But sb w u
  src : Src u sb a len cap K
  ru : RuAt u b p s c l st sk re fe ag
  z : ZeroP u w.heap.size
  po : PoAt u V (some ⟨g1, 0, none⟩) (some ⟨g2, 0, none⟩) n c1 2 c2 pl
  pf : ∀ o, u.frozen? ⟨V, o, none⟩ = false
  pits : PitsAt u g1 n k 5 6
  st : PitsAt u g2 2 2 7 7
  r0 : RowAt w sb a len
  s1 : sb < w.heap.size
  s2 : b < w.heap.size
  s3 : b ≠ sb
  v1 : w.heap.size < V
  v2 : w.heap.size < g1
  v3 : w.heap.size < g2
  v4 : V ≠ g1
  v5 : V ≠ g2
  v6 : g1 ≠ g2
section
variable {w u u' : World} {sb : Nat} {a : Option Addr} {len cap b : Nat} {p s c l : Int} {st sk re fe ag : Bool} {V g1 g2 n c1 c2 : Nat} {pl : Int} {K k : Nat}
theorem Drw.pick {K' : Nat} (h : Drw w sb a len cap b p s c l st sk re fe ag V g1 g2 n c1 c2 pl K k u) (kb : But sb u u') (hs : Src u' sb a len cap K') : Drw w sb a len cap b p s c l st sk re fe ag V g1 g2 n c1 c2 pl K' k u' := by
  have h1 := h.s1
  have h2 := h.v1
  have h3 := h.v2
  have h4 := h.v3
  exact ⟨h.on.trans kb, hs, h.ru.but kb h.s3, h.z.but kb (by omega), h.po.but kb (by omega), fun o => (kb.frozen h.po.1 (by omega)).trans (h.pf o), h.pits.but kb (by omega), h.st.but kb (by omega), h.r0, h.s1, h.s2, h.s3, h.v1, h.v2, h.v3, h.v4, h.v5, h.v6⟩
theorem Drw.drew (h : Drw w sb a len cap b p s c l st sk re fe ag V g1 g2 n c1 c2 pl K k u) : Drw w sb a len cap b p s c l st sk re fe ag V g1 g2 n c1 c2 pl K k u.drew :=
  h.pick (.of_below (Below.refl _ _).drew) (h.src.below (Below.refl _ _).drew)
theorem Drw.setPit {k' j : Nat} {v : Int} (h : Drw w sb a len cap b p s c l st sk re fe ag V g1 g2 n c1 c2 pl K k u) (hj : j < n) (h0 : 0 ≤ v) (hv : v ≤ 5) (hk : k' = k ∨ (j = k ∧ k' = k + 1)) : Drw w sb a len cap b p s c l st sk re fe ag V g1 g2 n c1 c2 pl K k' (u.setCell ⟨g1, j, none⟩ (.int .i64 v)) := by
  have h1 := h.s1
  have h2 := h.v1
  have h3 := h.v2
  have h4 := h.v3
  have h5 := h.s2
  have h6 := h.v4
  have h7 := h.v6
  have kb : But g1 u (u.setCell ⟨g1, j, none⟩ (.int .i64 v)) := (But.refl g1 u).setCell (p := ⟨g1, j, none⟩) rfl _
  have ho : But sb w (u.setCell ⟨g1, j, none⟩ (.int .i64 v)) := h.on.setNew (by omega) _
  exact ⟨ho, Src.at h.r0 ho h.src ((SameAt.refl sb u).setCell (by omega) _), h.ru.but kb (by omega), h.z.but kb (by omega), h.po.but kb (by omega), fun o => (kb.frozen h.po.1 (by omega)).trans (h.pf o), h.pits.set hj h0 hv (by omega) hk, h.st.but kb (by omega), h.r0, h.s1, h.s2, h.s3, h.v1, h.v2, h.v3, h.v4, h.v5, h.v6⟩
theorem Drw.setSt {j : Nat} {v : Int} (h : Drw w sb a len cap b p s c l st sk re fe ag V g1 g2 n c1 c2 pl K k u) (hj : j < 2) (h0 : 0 ≤ v) (hv : v ≤ 7) : Drw w sb a len cap b p s c l st sk re fe ag V g1 g2 n c1 c2 pl K k (u.setCell ⟨g2, j, none⟩ (.int .i64 v)) := by
  have h1 := h.s1
  have h2 := h.v1
  have h3 := h.v2
  have h4 := h.v3
  have h5 := h.s2
  have h6 := h.v5
  have h7 := h.v6
  have kb : But g2 u (u.setCell ⟨g2, j, none⟩ (.int .i64 v)) := (But.refl g2 u).setCell (p := ⟨g2, j, none⟩) rfl _
  have ho : But sb w (u.setCell ⟨g2, j, none⟩ (.int .i64 v)) := h.on.setNew (by omega) _
  exact ⟨ho, Src.at h.r0 ho h.src ((SameAt.refl sb u).setCell (by omega) _), h.ru.but kb (by omega), h.z.but kb (by omega), h.po.but kb (by omega), fun o => (kb.frozen h.po.1 (by omega)).trans (h.pf o), h.pits.but kb (by omega), h.st.set hj h0 hv hv (.inl rfl), h.r0, h.s1, h.s2, h.s3, h.v1, h.v2, h.v3, h.v4, h.v5, h.v6⟩
theorem Drw.setPl {v : Int} (h : Drw w sb a len cap b p s c l st sk re fe ag V g1 g2 n c1 c2 pl K k u) : Drw w sb a len cap b p s c l st sk re fe ag V g1 g2 n c1 c2 v K k (u.setCell ⟨V, 2, none⟩ (.int .i64 v)) := by
  have h1 := h.s1
  have h2 := h.v1
  have h5 := h.s2
  have h6 := h.v5
  have h7 := h.v4
  have kb : But V u (u.setCell ⟨V, 2, none⟩ (.int .i64 v)) := (But.refl V u).setCell (p := ⟨V, 2, none⟩) rfl _
  have ho : But sb w (u.setCell ⟨V, 2, none⟩ (.int .i64 v)) := h.on.setNew (by omega) _
  obtain ⟨hd, k0, k1, k2⟩ := h.po
  have f2 := h.pf 2
  refine ⟨ho, Src.at h.r0 ho h.src ((SameAt.refl sb u).setCell (by omega) _), h.ru.but kb (by omega), h.z.but kb (by omega), ⟨by simpa using hd, by go_simp, by go_simp, by go_simp⟩, fun o => ?_, h.pits.but kb (by omega), h.st.but kb (by omega), h.r0, h.s1, h.s2, h.s3, h.v1, h.v2, h.v3, h.v4, h.v5, h.v6⟩
  have := h.pf o
  go_simp
end

/-- A valid position has been drawn. -/
def DrawnP (sb : Nat) (a : Option Addr) (len cap K P : Nat) (w : World) (e : Ending) (w' : World) : Prop :=
  ∃ (g1 c1 g2 c2 : Nat) (pl : Int) (xs : List Int) (y0 y1 : Int), e = .returned (.agg #[.slice (some ⟨g1, 0, none⟩) (2 * P) c1, .slice (some ⟨g2, 0, none⟩) 2 c2, .int .i64 pl]) ∧ PosO w' w.heap.size (some ⟨g1, 0, none⟩) (some ⟨g2, 0, none⟩) g1 g2 (2 * P) 2 xs [y0, y1] ∧ g1 < w'.heap.size ∧ g2 < w'.heap.size ∧ (0 ≤ pl ∧ pl ≤ 1) ∧ (∀ x ∈ xs, 0 ≤ x ∧ x ≤ 5) ∧ (0 ≤ y0 ∧ y0 ≤ 7) ∧ (0 ≤ y1 ∧ y1 ≤ 7) ∧ 2 * P ≤ c1 ∧ 2 ≤ c2 ∧ But sb w w' ∧ Src w' sb a len cap (K + 200)
end Go.Proofs.Ythbgfkklejnhiaa
