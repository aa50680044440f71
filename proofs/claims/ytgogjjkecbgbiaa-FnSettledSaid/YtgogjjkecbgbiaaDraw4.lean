/- A position that the reference draws is valid. No conditions. -/
import Derived.Test.YtgogjjkecbgbiaaStart4
import Derived.Test.YtgogjjkecbgbiaaDraw
import Derived.Deep.DeepCutAuto
namespace Go.Proofs.Ytgogjjkecbgbiaa
open Go.Joins Go.ChangeShapes Go.WideShapes Go.ChangeAt Go.RowKit Go.Deep
set_option linter.unusedVariables false

/-- A row of n numbers at the head of block g: the first k are not above lo, all are not above hi and none is negative. -/
structure PitsAt (u : World) (g n k : Nat) (lo hi : Int) : Prop where
  lt : g < u.heap.size
  fr : ∀ o, u.frozen? ⟨g, o, none⟩ = false
  at' : ∀ i, i < n → ∃ x : Int, u.cell? ⟨g, i, none⟩ = some (.int .i64 x) ∧ 0 ≤ x ∧ x ≤ hi ∧ (i < k → x ≤ lo)
theorem PitsAt.but {u u' : World} {g n k b : Nat} {lo hi : Int} (h : PitsAt u g n k lo hi) (kb : But b u u') (hg : g ≠ b) : PitsAt u' g n k lo hi :=
  ⟨Nat.lt_of_lt_of_le h.lt kb.size, fun o => (kb.frozen h.lt hg).trans (h.fr o), fun i hi => by
    obtain ⟨x, hx, hb⟩ := h.at' i hi
    exact ⟨x, (kb.cell h.lt hg).trans hx, hb⟩⟩
theorem PitsAt.set {u : World} {g n k k' j : Nat} {lo hi v : Int} (h : PitsAt u g n k lo hi) (hj : j < n) (h0 : 0 ≤ v) (h1 : v ≤ lo) (h2 : v ≤ hi) (hk : k' = k ∨ (j = k ∧ k' = k + 1)) : PitsAt (u.setCell ⟨g, j, none⟩ (.int .i64 v)) g n k' lo hi := by
  obtain ⟨y, hy, -⟩ := h.at' j hj
  have fj := h.fr j
  refine ⟨by simpa using h.lt, fun o => ?_, fun i hi => ?_⟩
  · have := h.fr o
    go_simp
  · by_cases e : i = j
    · subst e
      exact ⟨v, by go_simp, h0, h2, fun _ => h1⟩
    · obtain ⟨x, hx, a, b, c⟩ := h.at' i hi
      exact ⟨x, by go_simp, a, b, fun hlt => c (by omega)⟩
theorem pits_of {u : World} {B g k : Nat} {lo hi : Int} {xs : List Int} (h : OutN u B (some ⟨g, 0, none⟩) g xs) (hne : xs ≠ []) (hb : ∀ x ∈ xs, 0 ≤ x ∧ x ≤ hi) (hk : k = 0 ∨ lo = hi) : PitsAt u g xs.length k lo hi := by
  obtain ⟨hlt, hf⟩ := h.free hne
  refine ⟨hlt, hf, fun i hi => ?_⟩
  obtain ⟨_, h1 | ⟨g', o, ha, _, hx⟩⟩ := h.row
  · exact absurd h1 hne
  · cases ha
    have e : xs[i]? = some xs[i] := List.getElem?_eq_getElem hi
    have hm := hb _ (List.getElem_mem hi)
    have hc := hx i _ e
    rw [Nat.zero_add] at hc
    exact ⟨_, hc, hm.1, hm.2, fun hlt => by rcases hk with rfl | rfl <;> omega⟩
/-- The numbers of a row. -/
theorem row_list {u : World} {g n : Nat} {lo hi : Int} (h : PitsAt u g n n lo hi) (hlo : lo ≤ hi) (B : Nat) (hB : B ≤ g) (hn : n ≤ 1000000000000) (h0 : 0 < n) : ∃ xs : List Int, xs.length = n ∧ OutN u B (some ⟨g, 0, none⟩) g xs ∧ ∀ x ∈ xs, 0 ≤ x ∧ x ≤ lo := by
  have key : ∀ m, m ≤ n → ∃ xs : List Int, xs.length = m ∧ (∀ i x, xs[i]? = some x → u.cell? ⟨g, i, none⟩ = some (.int .i64 x)) ∧ ∀ x ∈ xs, 0 ≤ x ∧ x ≤ lo := by
    intro m
    induction m with
    | zero => exact fun _ => ⟨[], rfl, fun i x hx => by simp at hx, fun x hx => by simp at hx⟩
    | succ m ih =>
      intro hm
      obtain ⟨xs, hl, hx, hb⟩ := ih (by omega)
      obtain ⟨y, hy, a, b, c⟩ := h.at' m (by omega)
      refine ⟨xs ++ [y], by simp [hl], fun i x hi => ?_, fun x hi => ?_⟩
      · by_cases e : i < m
        · rw [List.getElem?_append_left (by omega)] at hi
          exact hx i x hi
        · rw [List.getElem?_append_right (by omega), hl] at hi
          have e2 : i = m := by
            by_cases e3 : i - m = 0
            · omega
            · rw [List.getElem?_eq_none (by simp; omega)] at hi
              cases hi
          subst e2
          simp at hi
          subst hi
          exact hy
      · rcases List.mem_append.1 hi with h1 | h1
        · exact hb x h1
        · rw [List.mem_singleton.1 h1]
          exact ⟨a, c (by omega)⟩
  obtain ⟨xs, hl, hx, hb⟩ := key n (Nat.le_refl _)
  exact ⟨xs, hl, ⟨⟨by omega, .inr ⟨g, 0, rfl, h.lt, fun i x hi => by rw [Nat.zero_add]; exact hx i x hi⟩⟩, fun _ _ e => by cases e; rfl, hB, fun _ => ⟨h.lt, h.fr⟩⟩, hb⟩

/-- A position that is being drawn. -/
structure Drw (w : World) (sb : Nat) (a : Option Addr) (len cap : Nat) (b : Nat) (p s c l : Int) (st sk re fe ag : Bool) (V g1 g2 n c1 c2 : Nat) (pl : Int) (K k : Nat) (u : World) : Prop where
  on : But sb w u
  src : Src u sb a len cap K
  ru : RuAt u b p s c l st sk re fe ag
  z : ZeroP u w.heap.size
  po : PoAt u V (some ⟨g1, 0, none⟩) (some ⟨g2, 0, none⟩) n c1 2 c2 pl
  pf : ∀ o, u.frozen? ⟨V, o, none⟩ = false
  pits : PitsAt u g1 n k 5 6
  st : PitsAt u g2 2 2 7 7
  r0 : RowAt w sb a len
  s1 : sb < w.heap.size
  s2 : b < w.heap.size
  s3 : b ≠ sb
  v1 : w.heap.size < V
  v2 : w.heap.size < g1
  v3 : w.heap.size < g2
  v4 : V ≠ g1
  v5 : V ≠ g2
  v6 : g1 ≠ g2
section
variable {w u u' : World} {sb : Nat} {a : Option Addr} {len cap b : Nat} {p s c l : Int} {st sk re fe ag : Bool} {V g1 g2 n c1 c2 : Nat} {pl : Int} {K k : Nat}
theorem Drw.pick {K' : Nat} (h : Drw w sb a len cap b p s c l st sk re fe ag V g1 g2 n c1 c2 pl K k u) (kb : But sb u u') (hs : Src u' sb a len cap K') : Drw w sb a len cap b p s c l st sk re fe ag V g1 g2 n c1 c2 pl K' k u' := by
  have h1 := h.s1
  have h2 := h.v1
  have h3 := h.v2
  have h4 := h.v3
  exact ⟨h.on.trans kb, hs, h.ru.but kb h.s3, h.z.but kb (by omega), h.po.but kb (by omega), fun o => (kb.frozen h.po.1 (by omega)).trans (h.pf o), h.pits.but kb (by omega), h.st.but kb (by omega), h.r0, h.s1, h.s2, h.s3, h.v1, h.v2, h.v3, h.v4, h.v5, h.v6⟩
theorem Drw.drew (h : Drw w sb a len cap b p s c l st sk re fe ag V g1 g2 n c1 c2 pl K k u) : Drw w sb a len cap b p s c l st sk re fe ag V g1 g2 n c1 c2 pl K k u.drew :=
  h.pick (.of_below (Below.refl _ _).drew) (h.src.below (Below.refl _ _).drew)
theorem Drw.setPit {k' j : Nat} {v : Int} (h : Drw w sb a len cap b p s c l st sk re fe ag V g1 g2 n c1 c2 pl K k u) (hj : j < n) (h0 : 0 ≤ v) (hv : v ≤ 5) (hk : k' = k ∨ (j = k ∧ k' = k + 1)) : Drw w sb a len cap b p s c l st sk re fe ag V g1 g2 n c1 c2 pl K k' (u.setCell ⟨g1, j, none⟩ (.int .i64 v)) := by
  have h1 := h.s1
  have h2 := h.v1
  have h3 := h.v2
  have h4 := h.v3
  have h5 := h.s2
  have h6 := h.v4
  have h7 := h.v6
  have kb : But g1 u (u.setCell ⟨g1, j, none⟩ (.int .i64 v)) := (But.refl g1 u).setCell (p := ⟨g1, j, none⟩) rfl _
  have ho : But sb w (u.setCell ⟨g1, j, none⟩ (.int .i64 v)) := h.on.setNew (by omega) _
  exact ⟨ho, Src.at h.r0 ho h.src ((SameAt.refl sb u).setCell (by omega) _), h.ru.but kb (by omega), h.z.but kb (by omega), h.po.but kb (by omega), fun o => (kb.frozen h.po.1 (by omega)).trans (h.pf o), h.pits.set hj h0 hv (by omega) hk, h.st.but kb (by omega), h.r0, h.s1, h.s2, h.s3, h.v1, h.v2, h.v3, h.v4, h.v5, h.v6⟩
theorem Drw.setSt {j : Nat} {v : Int} (h : Drw w sb a len cap b p s c l st sk re fe ag V g1 g2 n c1 c2 pl K k u) (hj : j < 2) (h0 : 0 ≤ v) (hv : v ≤ 7) : Drw w sb a len cap b p s c l st sk re fe ag V g1 g2 n c1 c2 pl K k (u.setCell ⟨g2, j, none⟩ (.int .i64 v)) := by
  have h1 := h.s1
  have h2 := h.v1
  have h3 := h.v2
  have h4 := h.v3
  have h5 := h.s2
  have h6 := h.v5
  have h7 := h.v6
  have kb : But g2 u (u.setCell ⟨g2, j, none⟩ (.int .i64 v)) := (But.refl g2 u).setCell (p := ⟨g2, j, none⟩) rfl _
  have ho : But sb w (u.setCell ⟨g2, j, none⟩ (.int .i64 v)) := h.on.setNew (by omega) _
  exact ⟨ho, Src.at h.r0 ho h.src ((SameAt.refl sb u).setCell (by omega) _), h.ru.but kb (by omega), h.z.but kb (by omega), h.po.but kb (by omega), fun o => (kb.frozen h.po.1 (by omega)).trans (h.pf o), h.pits.but kb (by omega), h.st.set hj h0 hv hv (.inl rfl), h.r0, h.s1, h.s2, h.s3, h.v1, h.v2, h.v3, h.v4, h.v5, h.v6⟩
theorem Drw.setPl {v : Int} (h : Drw w sb a len cap b p s c l st sk re fe ag V g1 g2 n c1 c2 pl K k u) : Drw w sb a len cap b p s c l st sk re fe ag V g1 g2 n c1 c2 v K k (u.setCell ⟨V, 2, none⟩ (.int .i64 v)) := by
  have h1 := h.s1
  have h2 := h.v1
  have h5 := h.s2
  have h6 := h.v5
  have h7 := h.v4
  have kb : But V u (u.setCell ⟨V, 2, none⟩ (.int .i64 v)) := (But.refl V u).setCell (p := ⟨V, 2, none⟩) rfl _
  have ho : But sb w (u.setCell ⟨V, 2, none⟩ (.int .i64 v)) := h.on.setNew (by omega) _
  obtain ⟨hd, k0, k1, k2⟩ := h.po
  have f2 := h.pf 2
  refine ⟨ho, Src.at h.r0 ho h.src ((SameAt.refl sb u).setCell (by omega) _), h.ru.but kb (by omega), h.z.but kb (by omega), ⟨by simpa using hd, by go_simp, by go_simp, by go_simp⟩, fun o => ?_, h.pits.but kb (by omega), h.st.but kb (by omega), h.r0, h.s1, h.s2, h.s3, h.v1, h.v2, h.v3, h.v4, h.v5, h.v6⟩
  have := h.pf o
  go_simp
end

/-- A valid position has been drawn. -/
def DrawnP (sb : Nat) (a : Option Addr) (len cap K P : Nat) (w : World) (e : Ending) (w' : World) : Prop :=
  ∃ (g1 c1 g2 c2 : Nat) (pl : Int) (xs : List Int) (y0 y1 : Int), e = .returned (.agg #[.slice (some ⟨g1, 0, none⟩) (2 * P) c1, .slice (some ⟨g2, 0, none⟩) 2 c2, .int .i64 pl]) ∧ PosO w' w.heap.size (some ⟨g1, 0, none⟩) (some ⟨g2, 0, none⟩) g1 g2 (2 * P) 2 xs [y0, y1] ∧ g1 < w'.heap.size ∧ g2 < w'.heap.size ∧ (0 ≤ pl ∧ pl ≤ 1) ∧ (∀ x ∈ xs, 0 ≤ x ∧ x ≤ 5) ∧ (0 ≤ y0 ∧ y0 ≤ 7) ∧ (0 ≤ y1 ∧ y1 ≤ 7) ∧ 2 * P ≤ c1 ∧ 2 ≤ c2 ∧ But sb w w' ∧ Src w' sb a len cap (K + 200)
/-- The same; the stores have no room. -/
def DrawnP2 (sb : Nat) (a : Option Addr) (len cap K P : Nat) (w : World) (e : Ending) (w' : World) : Prop :=
  ∃ (g1 c1 g2 : Nat) (pl : Int) (xs : List Int) (y0 y1 : Int), e = .returned (.agg #[.slice (some ⟨g1, 0, none⟩) (2 * P) c1, .slice (some ⟨g2, 0, none⟩) 2 2, .int .i64 pl]) ∧ PosO w' w.heap.size (some ⟨g1, 0, none⟩) (some ⟨g2, 0, none⟩) g1 g2 (2 * P) 2 xs [y0, y1] ∧ g1 < w'.heap.size ∧ g2 < w'.heap.size ∧ (0 ≤ pl ∧ pl ≤ 1) ∧ (∀ x ∈ xs, 0 ≤ x ∧ x ≤ 5) ∧ (0 ≤ y0 ∧ y0 ≤ 7) ∧ (0 ≤ y1 ∧ y1 ≤ 7) ∧ 2 * P ≤ c1 ∧ But sb w w' ∧ Src w' sb a len cap (K + 200)
set_option maxHeartbeats 8000000 in
set_option maxRecDepth 100000 in
theorem l04Draw2_any (P : Nat) (s c l : Int) (st sk re fe ag : Bool) (sb : Nat) (a : Option Addr) (len cap K b : Nat) (w : World) (hs : Src w sb a len cap K) (hr : RuAt w b (P : Int) s c l st sk re fe ag) (hne : b ≠ sb) (hK : K < 900000) (hP : 2 ≤ P) (hP2 : P ≤ 8) (h0 : 0 ≤ s) (h6 : s ≤ 6) :
    Calls Try.prog 48 #[.pointer (some ⟨sb, 0, none⟩), .pointer (some ⟨b, 0, none⟩)] w (DrawnP2 sb a len cap K P w) := by
  have hsl := hs.lt
  have hbl := hr.1
  have HS := Lib.hid hs
  have HR := Lib.hid hr
  clear hs hr
  go_enter Try.func48, Try.ntmps48
  go_wp2_with fail
  refine (l04Start2_any P s c l st sk re fe ag b _ (HR.out.below (al1 _ _)) hP hP2).mono ?_
  rintro e u ⟨g1, c1, g2, rfl, ho, lt1, lt2, hc1, hb⟩
  have hz := hb.size
  simp at hz
  have HD : Hid (Drw w sb a len cap b (P : Int) s c l st sk re fe ag u.heap.size g1 g2 (2 * P) c1 2 0 K 0 (u.alloc (.cells #[.slice (some ⟨g1, 0, none⟩) (2 * P) c1, .slice (some ⟨g2, 0, none⟩) 2 2, .int .i64 0] 28))) := by
    have n1 := ho.o1.new
    have n2 := ho.o2.new
    simp at n1 n2
    have hw : Below w.heap.size w u := (al1 w (.cells #[.slice none 0 0, .slice none 0 0, .int .i64 0] 28)).trans (hb.mono (by simp))
    have hw2 : Below w.heap.size w (u.alloc (.cells #[.slice (some ⟨g1, 0, none⟩) (2 * P) c1, .slice (some ⟨g2, 0, none⟩) 2 2, .int .i64 0] 28)) := hw.alloc (by omega) _
    have hp1 := pits_of (k := 0) (lo := 5) (hi := 6) (ho.o1.alloc (.cells #[.slice (some ⟨g1, 0, none⟩) (2 * P) c1, .slice (some ⟨g2, 0, none⟩) 2 2, .int .i64 0] 28)) (by intro e; have := congrArg List.length e; simp at this; omega) (fun x hx => by rw [List.eq_of_mem_replicate hx]; exact ⟨h0, h6⟩) (.inl rfl)
    have hp2 := pits_of (k := 2) (lo := 7) (hi := 7) (ho.o2.alloc (.cells #[.slice (some ⟨g1, 0, none⟩) (2 * P) c1, .slice (some ⟨g2, 0, none⟩) 2 2, .int .i64 0] 28)) (by simp) (fun x hx => by simp at hx; subst hx; omega) (.inr rfl)
    rw [List.length_replicate] at hp1
    exact Lib.hid ⟨.of_below hw2, HS.out.below hw2, HR.out.below hw2, (((zero_new w 28).below hb).below (al1 _ _)), po_new _ _ _ _ _ _ _ u 28, fun o => by go_simp, hp1, hp2, HS.out.1, hsl, hbl, hne, by omega, by omega, by omega, by omega, by omega, ho.ne⟩
  clear ho hb lt1 lt2
  go_wp2_with fail
  generalize hV : u.heap.size = V at *
  generalize hW : u.alloc (.cells #[.slice (some ⟨g1, 0, none⟩) (2 * P) c1, .slice (some ⟨g2, 0, none⟩) 2 2, .int .i64 0] 28) = w1 at *
  clear hW hV hz
  refine (one_any sb a len cap K 2 _ HD.out.src (by omega) (by omega) (by omega)).mono ?_
  rintro e w2 ⟨few, rfl, hbut, hsrc⟩
  have HD := Lib.hid (HD.out.pick hbut hsrc)
  clear hbut hsrc
  go_wp2_with fail
  go_loopw [7] (fun i wr => ∃ (k j : Nat), k ≤ 2 * P ∧ j ≤ K + 2 + 4 * k ∧ i = .int .i64 k ∧ Drw w sb a len cap b (P : Int) s c l st sk re fe ag V g1 g2 (2 * P) c1 2 0 j k wr) (fun i _ => 2 * P - (intOf i).toNat)
  case atStart => exact ⟨0, K + 2, Nat.zero_le _, by omega, rfl, HD.out⟩
  case round =>
    obtain ⟨k, j, hk, hj, rfl, hd⟩ := hrel
    have HD := Lib.hid hd
    obtain ⟨hVl, q0, q1, q2⟩ := hd.po
    clear hd
    by_cases hlt : k < 2 * P
    · have p0 : (k : Int) < 2 * (P : Int) := by omega
      have p1 : (k : Int) < ((2 * P : Nat) : Int) := by omega
      have p2 : ¬ (k : Int) < 0 := by omega
      have p3 : (0 : Int) ≤ (k : Int) := by omega
      have HT : Hid (∀ (K' k' : Nat) (u : World), Drw w sb a len cap b (P : Int) s c l st sk re fe ag V g1 g2 (2 * P) c1 2 0 K' k' u → V < u.heap.size ∧ u.cell? ⟨V, 0, none⟩ = some (.slice (some ⟨g1, 0, none⟩) (2 * P) c1) ∧ But sb w u) := Lib.hid (fun K' k' u h => ⟨h.po.1, h.po.2.1, h.on⟩)
      go_upto_region 6 with fail
      clear hVl q0 q1 q2
      go_region_held3 (fun u => V < u.heap.size ∧ u.cell? ⟨V, 0, none⟩ = some (.slice (some ⟨g1, 0, none⟩) (2 * P) c1) ∧ But sb w u) (first | exact HT.out _ _ _ HD.out | exact HT.out _ _ _ HD.out.drew | exact HT.out _ _ _ (HD.out.setPit (k' := k + 1) hlt hv.1 (by omega) (.inr ⟨rfl, rfl⟩)))
        ((go_at_call 35; (with_reducible refine (pick_any sb a len cap j 6 _ ?_ (by omega) (by omega) (by omega)).mono ?_); (first | exact HD.out.src | exact HD.out.drew.src); rintro e w3 ⟨v, hv, rfl, hbut, hsrc⟩; (first | have HD := Lib.hid (HD.out.pick hbut hsrc) | have HD := Lib.hid (HD.out.drew.pick hbut hsrc)); have gl := HD.out.pits.lt; have gf := HD.out.pits.fr k; (obtain ⟨x0, gx, -⟩ := HD.out.pits.at' k hlt); clear hbut hsrc))
      have HD := Lib.hid (HD.out.setPit (k' := k + 1) hlt hv.1 (by omega) (.inr ⟨rfl, rfl⟩))
      generalize hW : w3.setCell ⟨g1, k, none⟩ (.int .i64 v) = w4 at *
      clear hW gl gf gx
      cases few
      · go_wp2_with fail
        go_roundw
        case rel => exact ⟨k + 1, j + 2, by omega, by omega, by go_num, HD.out⟩
        case measure =>
          simp [intOf]
          omega
      · go_wp2_with fail
        refine (one_any sb a len cap (j + 2) 3 _ HD.out.src (by omega) (by omega) (by omega)).mono ?_
        rintro e w5 ⟨r, rfl, hbut, hsrc⟩
        have HD := Lib.hid (HD.out.pick hbut hsrc)
        clear hbut hsrc
        cases r
        · obtain ⟨hVl, q0, q1, q2⟩ := HD.out.po
          have gl := HD.out.pits.lt
          have gf := HD.out.pits.fr k
          obtain ⟨x0, gx, -⟩ := HD.out.pits.at' k hlt
          go_wp2_with fail
          go_roundw
          case rel => exact ⟨k + 1, j + 2 + 2, by omega, by omega, by go_num, HD.out.setPit hlt (by omega) (by omega) (.inl rfl)⟩
          case measure =>
            simp [intOf]
            omega
        · go_wp2_with fail
          go_roundw
          case rel => exact ⟨k + 1, j + 2 + 2, by omega, by omega, by go_num, HD.out⟩
          case measure =>
            simp [intOf]
            omega
    · obtain rfl : k = 2 * P := by omega
      have p0 : ¬ (((2 * P : Nat) : Int) < 2 * (P : Int)) := by omega
      go_wp2_with fail
      clear hVl q0 q1 q2
      refine (one_any sb a len cap j 8 _ HD.out.src (by omega) (by omega) (by omega)).mono ?_
      rintro e w2 ⟨r8, rfl, hbut, hsrc⟩
      have HD := Lib.hid (HD.out.pick hbut hsrc)
      clear hbut hsrc
      go_upto_if 38 with fail
      go_cut [8, 9] (fun s8 s9 wx => ∃ j' : Nat, j' ≤ K + 100 ∧ Drw w sb a len cap b (P : Int) s c l st sk re fe ag V g1 g2 (2 * P) c1 2 0 j' (2 * P) wx)
      case first =>
        cases r8
        · go_wp2_with fail
          go_meet
          exact ⟨_, by omega, HD.out⟩
        · go_wp2_with fail
          refine (pick_any sb a len cap (j + 2) 2 _ HD.out.src (by omega) (by omega) (by omega)).mono ?_
          rintro e w3 ⟨side, hsd, rfl, hbut, hsrc⟩
          have HD := Lib.hid (HD.out.pick hbut hsrc)
          clear hbut hsrc
          obtain ⟨hbd, r0, -⟩ := HD.out.ru
          have hside : side = 0 ∨ side = 1 := by omega
          rcases hside with rfl | rfl
          · go_wp2_with fail
            clear hbd r0
            go_loopw [9] (fun i wr => ∃ k : Nat, 0 ≤ k ∧ k ≤ P ∧ i = .int .i64 k ∧ Drw w sb a len cap b (P : Int) s c l st sk re fe ag V g1 g2 (2 * P) c1 2 0 (j + 2 + 2) (2 * P) wr) (fun i _ => 2 * P - (intOf i).toNat)
            case atStart => exact ⟨0, by omega, by omega, by simp, HD.out⟩
            case round =>
              obtain ⟨k, hk1, hk2, rfl, hd⟩ := hrel
              have HD := Lib.hid hd
              obtain ⟨hVl, q0, q1, q2⟩ := hd.po
              obtain ⟨hbd, r0, -⟩ := hd.ru
              clear hd
              by_cases hlt : k < P
              · have p0 : (k : Int) < (P : Int) := by omega
                have p1 : (k : Int) < ((2 * P : Nat) : Int) := by omega
                have p2 : ¬ (k : Int) < 0 := by omega
                have p3 : (0 : Int) ≤ (k : Int) := by omega
                have p4 : (k : Int) < 2 * (P : Int) := by omega
                have gl := HD.out.pits.lt
                have gf := HD.out.pits.fr k
                obtain ⟨x0, gx, -⟩ := HD.out.pits.at' k (by omega)
                go_wp2_with fail
                go_roundw
                case rel => exact ⟨k + 1, by omega, by omega, by go_num, HD.out.setPit (by omega) (by omega) (by omega) (.inl rfl)⟩
                case measure =>
                  simp [intOf]
                  omega
              · have p0 : ¬ (k : Int) < (P : Int) := by omega
                go_wp2_with fail
                go_meet
                exact ⟨_, by omega, HD.out⟩
          · go_wp2_with fail
            clear hbd r0
            go_loopw [9] (fun i wr => ∃ k : Nat, P ≤ k ∧ k ≤ 2 * P ∧ i = .int .i64 k ∧ Drw w sb a len cap b (P : Int) s c l st sk re fe ag V g1 g2 (2 * P) c1 2 0 (j + 2 + 2) (2 * P) wr) (fun i _ => 2 * P - (intOf i).toNat)
            case atStart => exact ⟨P, by omega, by omega, by simp, HD.out⟩
            case round =>
              obtain ⟨k, hk1, hk2, rfl, hd⟩ := hrel
              have HD := Lib.hid hd
              obtain ⟨hVl, q0, q1, q2⟩ := hd.po
              obtain ⟨hbd, r0, -⟩ := hd.ru
              clear hd
              by_cases hlt : k < 2 * P
              · have p0 : (k : Int) < 2 * (P : Int) := by omega
                have p1 : (k : Int) < ((2 * P : Nat) : Int) := by omega
                have p2 : ¬ (k : Int) < 0 := by omega
                have p3 : (0 : Int) ≤ (k : Int) := by omega
                have p4 : (k : Int) < 2 * (P : Int) := by omega
                have gl := HD.out.pits.lt
                have gf := HD.out.pits.fr k
                obtain ⟨x0, gx, -⟩ := HD.out.pits.at' k (by omega)
                go_wp2_with fail
                go_roundw
                case rel => exact ⟨k + 1, by omega, by omega, by go_num, HD.out.setPit (by omega) (by omega) (by omega) (.inl rfl)⟩
                case measure =>
                  simp [intOf]
                  omega
              · have p0 : ¬ (k : Int) < 2 * (P : Int) := by omega
                go_wp2_with fail
                go_meet
                exact ⟨_, by omega, HD.out⟩
      case rest =>
        obtain ⟨j', hj', hd⟩ := hcut
        have HD := Lib.hid hd
        clear hd
        have HT : Hid (∀ (K' : Nat) (u : World), Drw w sb a len cap b (P : Int) s c l st sk re fe ag V g1 g2 (2 * P) c1 2 0 K' (2 * P) u → V < u.heap.size ∧ u.cell? ⟨V, 1, none⟩ = some (.slice (some ⟨g2, 0, none⟩) 2 2) ∧ But sb w u) := Lib.hid (fun K' u h => ⟨h.po.1, h.po.2.2.1, h.on⟩)
        go_upto_region 15 with fail
        go_region_held3 (fun u => V < u.heap.size ∧ u.cell? ⟨V, 1, none⟩ = some (.slice (some ⟨g2, 0, none⟩) 2 2) ∧ But sb w u) (first | exact HT.out _ _ HD.out | exact HT.out _ _ HD.out.drew | exact HT.out _ _ (HD.out.setSt (j := 0) (by omega) hv.1 (by omega)))
          ((go_at_call 35; (with_reducible refine (pick_any sb a len cap (j') 8 _ ?_ (by omega) (by omega) (by omega)).mono ?_); (first | exact HD.out.src | exact HD.out.drew.src); rintro e w3 ⟨v, hv, rfl, hbut, hsrc⟩; (first | have HD := Lib.hid (HD.out.pick hbut hsrc) | have HD := Lib.hid (HD.out.drew.pick hbut hsrc)); have gl := HD.out.st.lt; have gf := HD.out.st.fr 0; (obtain ⟨x0, gx, -⟩ := HD.out.st.at' 0 (by omega)); clear hbut hsrc))
        have HD := Lib.hid (HD.out.setSt (j := 0) (by omega) hv.1 (by omega))
        generalize hW : w3.setCell ⟨g2, 0, none⟩ (.int .i64 v) = w4 at *
        clear hW gl gf gx hv
        go_upto_region 16 with fail
        go_region_held3 (fun u => V < u.heap.size ∧ u.cell? ⟨V, 1, none⟩ = some (.slice (some ⟨g2, 0, none⟩) 2 2) ∧ But sb w u) (first | exact HT.out _ _ HD.out | exact HT.out _ _ HD.out.drew | exact HT.out _ _ (HD.out.setSt (j := 1) (by omega) hv.1 (by omega)))
          ((go_at_call 35; (with_reducible refine (pick_any sb a len cap (j' + 2) 8 _ ?_ (by omega) (by omega) (by omega)).mono ?_); (first | exact HD.out.src | exact HD.out.drew.src); rintro e w3 ⟨v, hv, rfl, hbut, hsrc⟩; (first | have HD := Lib.hid (HD.out.pick hbut hsrc) | have HD := Lib.hid (HD.out.drew.pick hbut hsrc)); have gl := HD.out.st.lt; have gf := HD.out.st.fr 1; (obtain ⟨x0, gx, -⟩ := HD.out.st.at' 1 (by omega)); clear hbut hsrc))
        have HD := Lib.hid (HD.out.setSt (j := 1) (by omega) hv.1 (by omega))
        generalize hW : w3.setCell ⟨g2, 1, none⟩ (.int .i64 v) = w5 at *
        clear hW gl gf gx hv
        clear HT
        go_wp2_with fail
        refine (pick_any sb a len cap (j' + 2 + 2) 2 _ HD.out.src (by omega) (by omega) (by omega)).mono ?_
        rintro e w7 ⟨pl, hpl, rfl, hbut, hsrc⟩
        have HD := Lib.hid (HD.out.pick hbut hsrc)
        clear hbut hsrc
        obtain ⟨hVl, q0, q1, q2⟩ := HD.out.po
        have q3 := HD.out.pf 2
        obtain ⟨zl, z0, z1, z2, zf⟩ := HD.out.z
        have f0 := zf 0
        have f1 := zf 1
        have f2 := zf 2
        have v1 := HD.out.v1
        have v2 := HD.out.v2
        have v3 := HD.out.v3
        have hVz : V ≠ w.heap.size := by omega
        clear zf
        go_wp2_with fail
        have HE := HD.out.setPl (v := pl)
        obtain ⟨xs, hxl, hxo, hxb⟩ := row_list HE.pits (by omega) w.heap.size (by omega) (by omega) (by omega)
        obtain ⟨ys, hyl, hyo, hyb⟩ := row_list HE.st (by omega) w.heap.size (by omega) (by omega) (by omega)
        obtain ⟨y0, y1, rfl⟩ := two_of hyl
        have m1 : g1 ≠ w.heap.size := by omega
        have m2 : g2 ≠ w.heap.size := by omega
        have HB := ((HE.on.setNew (o := 0) (Nat.le_refl _) (.slice (some ⟨g1, 0, none⟩) (2 * P) c1)).setNew (o := 1) (Nat.le_refl _) (.slice (some ⟨g2, 0, none⟩) 2 2)).setNew (o := 2) (Nat.le_refl _) (.int .i64 pl)
        have hns : w.heap.size ≠ sb := by omega
        have hl1 := HE.pits.lt
        have hl2 := HE.st.lt
        refine bodyPost_ret (v := .agg #[.slice (some ⟨g1, 0, none⟩) (2 * P) c1, .slice (some ⟨g2, 0, none⟩) 2 2, .int .i64 pl]) (by simp [results, Try.results48, go_sem, z0, z1, z2]) rfl ⟨g1, c1, g2, pl, xs, y0, y1, rfl, ⟨((hxo.setCell m1 _).setCell m1 _).setCell m1 _, ((hyo.setCell m2 _).setCell m2 _).setCell m2 _, HE.v6, hxl, rfl⟩, by simpa using hl1, by simpa using hl2, by omega, hxb, hyb _ (by simp), hyb _ (by simp), hc1, HB, (Src.at HS.out.1 HB HE.src ((((SameAt.refl sb _).setCell hns _).setCell hns _).setCell hns _)).mono (by omega)⟩
theorem l04Draw_any (P : Nat) (s c l : Int) (st sk re fe ag : Bool) (sb : Nat) (a : Option Addr) (len cap K b : Nat) (w : World) (hs : Src w sb a len cap K) (hr : RuAt w b (P : Int) s c l st sk re fe ag) (hne : b ≠ sb) (hK : K < 900000) (hP : 2 ≤ P) (hP2 : P ≤ 8) (h0 : 0 ≤ s) (h6 : s ≤ 6) :
    Calls Try.prog 48 #[.pointer (some ⟨sb, 0, none⟩), .pointer (some ⟨b, 0, none⟩)] w (DrawnP sb a len cap K P w) :=
  (l04Draw2_any P s c l st sk re fe ag sb a len cap K b w hs hr hne hK hP hP2 h0 h6).mono fun e w' ⟨g1, c1, g2, pl, xs, y0, y1, h1, h2, h3, h4, h5, h7, h8, h9, h10, h11, h12⟩ => ⟨g1, c1, g2, 2, pl, xs, y0, y1, h1, h2, h3, h4, h5, h7, h8, h9, h10, Nat.le_refl _, h11, h12⟩
end Go.Proofs.Ytgogjjkecbgbiaa
