/- A position with few seeds that the laws draw is valid. No conditions. -/
import Derived.Test.YthbgfkklejnhiaaA2Pos
import Derived.Test.YthbgfkklejnhiaaA2S
import Derived.Test.YthbgfkklejnhiaaN14
import Derived.Deep.RegionHeld3
import Derived.Deep.DeepCutAuto
namespace Go.Proofs.Ythbgfkklejnhiaa
open Go.Joins Go.ChangeShapes Go.WideShapes Go.ChangeAt Go.RowKit Go.Deep
set_option linter.unusedVariables false

theorem bf_few {P S : Nat} (h2 : 2 ≤ P) (h3 : P ≤ 3) (hS : S ≤ 20) : bf P S ≤ 1000000 := by
  refine Nat.le_trans (bf_le (by omega) hS) ?_
  have hP : P = 2 ∨ P = 3 := by omega
  have step : ∀ (n k x y : Nat), ch n k = x → x * (n - k) / (k + 1) = y → ch n (k + 1) = y := by
    rintro n k x y rfl rfl
    exact (ch_div n k).symm
  rcases hP with rfl | rfl
  · have e : ch 23 4 = 8855 := step 23 3 1771 _ (step 23 2 253 _ (step 23 1 23 _ (step 23 0 1 _ (ch_zero _) rfl) rfl) rfl) rfl
    show ch 23 4 ≤ 1000000
    rw [e]
    omega
  · have e : ch 25 6 = 177100 := step 25 5 53130 _ (step 25 4 12650 _ (step 25 3 2300 _ (step 25 2 300 _ (step 25 1 25 _ (step 25 0 1 _ (ch_zero _) rfl) rfl) rfl) rfl) rfl) rfl
    show ch 25 6 ≤ 1000000
    rw [e]
    omega
theorem okR_pits {p q s c l : Int} {st ag : Bool} (h : okR p s c l st ag = true) (h2 : 2 ≤ q) (h8 : q ≤ 8) : okR q s c l st ag = true := by
  unfold okR at h ⊢
  simp only [Bool.and_eq_true, decide_eq_true_eq] at h ⊢
  obtain ⟨⟨⟨⟨⟨⟨⟨⟨-, -⟩, h3⟩, h4⟩, h5⟩, h6⟩, h7⟩, h9⟩, h10⟩ := h
  exact ⟨⟨⟨⟨⟨⟨⟨⟨h2, h8⟩, h3⟩, h4⟩, h5⟩, h6⟩, h7⟩, h9⟩, h10⟩
/-- Few seeds that are drawn into pits. -/
structure Few (w : World) (sb : Nat) (a : Option Addr) (len cap : Nat) (b : Nat) (p s c l : Int) (st sk re fe ag : Bool) (V g1 g2 n c1 c2 : Nat) (pl : Int) (K k : Nat) (u : World) : Prop where
  on : But sb w u
  src : Src u sb a len cap K
  ru : RuAt u b p s c l st sk re fe ag
  po : PoAt u V (some ⟨g1, 0, none⟩) (some ⟨g2, 0, none⟩) n c1 2 c2 pl
  pf : ∀ o, u.frozen? ⟨V, o, none⟩ = false
  pits : PitsAt u g1 n k 3 6
  st : PitsAt u g2 2 2 4 4
  r0 : RowAt w sb a len
  s1 : sb < w.heap.size
  v0 : w.heap.size ≤ b
  v1 : w.heap.size ≤ V
  v2 : w.heap.size ≤ g1
  v3 : w.heap.size ≤ g2
  v4 : V ≠ g1
  v5 : V ≠ g2
  v6 : g1 ≠ g2
  v7 : b ≠ V
  v8 : b ≠ g1
  v9 : b ≠ g2
section
variable {w u u' : World} {sb : Nat} {a : Option Addr} {len cap b : Nat} {p s c l : Int} {st sk re fe ag : Bool} {V g1 g2 n c1 c2 : Nat} {pl : Int} {K k : Nat}
theorem Few.pick {K' : Nat} (h : Few w sb a len cap b p s c l st sk re fe ag V g1 g2 n c1 c2 pl K k u) (kb : But sb u u') (hs : Src u' sb a len cap K') : Few w sb a len cap b p s c l st sk re fe ag V g1 g2 n c1 c2 pl K' k u' := by
  have h1 := h.s1
  have h2 := h.v1
  have h3 := h.v2
  have h4 := h.v3
  have h5 := h.v0
  exact ⟨h.on.trans kb, hs, h.ru.but kb (by omega), h.po.but kb (by omega), fun o => (kb.frozen h.po.1 (by omega)).trans (h.pf o), h.pits.but kb (by omega), h.st.but kb (by omega), h.r0, h.s1, h.v0, h.v1, h.v2, h.v3, h.v4, h.v5, h.v6, h.v7, h.v8, h.v9⟩
theorem Few.new (h : Few w sb a len cap b p s c l st sk re fe ag V g1 g2 n c1 c2 pl K k u) (kb : Below u.heap.size u u') : Few w sb a len cap b p s c l st sk re fe ag V g1 g2 n c1 c2 pl K k u' := h.pick (.of_below kb) (h.src.below kb)
theorem Few.drew (h : Few w sb a len cap b p s c l st sk re fe ag V g1 g2 n c1 c2 pl K k u) : Few w sb a len cap b p s c l st sk re fe ag V g1 g2 n c1 c2 pl K k u.drew := h.new (Below.refl _ _).drew
theorem Few.setPit {k' j : Nat} {v : Int} (h : Few w sb a len cap b p s c l st sk re fe ag V g1 g2 n c1 c2 pl K k u) (hj : j < n) (h0 : 0 ≤ v) (hv : v ≤ 3) (hk : k' = k ∨ (j = k ∧ k' = k + 1)) : Few w sb a len cap b p s c l st sk re fe ag V g1 g2 n c1 c2 pl K k' (u.setCell ⟨g1, j, none⟩ (.int .i64 v)) := by
  have h1 := h.s1
  have h3 := h.v2
  have h6 := h.v4
  have h7 := h.v6
  have h8 := h.v8
  have kb : But g1 u (u.setCell ⟨g1, j, none⟩ (.int .i64 v)) := (But.refl g1 u).setCell (p := ⟨g1, j, none⟩) rfl _
  have ho : But sb w (u.setCell ⟨g1, j, none⟩ (.int .i64 v)) := h.on.setNew (by omega) _
  exact ⟨ho, Src.at h.r0 ho h.src ((SameAt.refl sb u).setCell (by omega) _), h.ru.but kb (by omega), h.po.but kb (by omega), fun o => (kb.frozen h.po.1 (by omega)).trans (h.pf o), h.pits.set hj h0 hv (by omega) hk, h.st.but kb (by omega), h.r0, h.s1, h.v0, h.v1, h.v2, h.v3, h.v4, h.v5, h.v6, h.v7, h.v8, h.v9⟩
theorem Few.setSt {j : Nat} {v : Int} (h : Few w sb a len cap b p s c l st sk re fe ag V g1 g2 n c1 c2 pl K k u) (hj : j < 2) (h0 : 0 ≤ v) (hv : v ≤ 4) : Few w sb a len cap b p s c l st sk re fe ag V g1 g2 n c1 c2 pl K k (u.setCell ⟨g2, j, none⟩ (.int .i64 v)) := by
  have h1 := h.s1
  have h4 := h.v3
  have h6 := h.v5
  have h7 := h.v6
  have h8 := h.v9
  have kb : But g2 u (u.setCell ⟨g2, j, none⟩ (.int .i64 v)) := (But.refl g2 u).setCell (p := ⟨g2, j, none⟩) rfl _
  have ho : But sb w (u.setCell ⟨g2, j, none⟩ (.int .i64 v)) := h.on.setNew (by omega) _
  exact ⟨ho, Src.at h.r0 ho h.src ((SameAt.refl sb u).setCell (by omega) _), h.ru.but kb (by omega), h.po.but kb (by omega), fun o => (kb.frozen h.po.1 (by omega)).trans (h.pf o), h.pits.but kb (by omega), h.st.set hj h0 hv hv (.inl rfl), h.r0, h.s1, h.v0, h.v1, h.v2, h.v3, h.v4, h.v5, h.v6, h.v7, h.v8, h.v9⟩
theorem Few.setPl {v : Int} (h : Few w sb a len cap b p s c l st sk re fe ag V g1 g2 n c1 c2 pl K k u) : Few w sb a len cap b p s c l st sk re fe ag V g1 g2 n c1 c2 v K k (u.setCell ⟨V, 2, none⟩ (.int .i64 v)) := by
  have h1 := h.s1
  have h2 := h.v1
  have h6 := h.v5
  have h7 := h.v4
  have h8 := h.v7
  have kb : But V u (u.setCell ⟨V, 2, none⟩ (.int .i64 v)) := (But.refl V u).setCell (p := ⟨V, 2, none⟩) rfl _
  have ho : But sb w (u.setCell ⟨V, 2, none⟩ (.int .i64 v)) := h.on.setNew (by omega) _
  obtain ⟨hd, k0, k1, k2⟩ := h.po
  have f2 := h.pf 2
  refine ⟨ho, Src.at h.r0 ho h.src ((SameAt.refl sb u).setCell (by omega) _), h.ru.but kb (by omega), ⟨by simpa using hd, by go_simp, by go_simp, by go_simp⟩, fun o => ?_, h.pits.but kb (by omega), h.st.but kb (by omega), h.r0, h.s1, h.v0, h.v1, h.v2, h.v3, h.v4, h.v5, h.v6, h.v7, h.v8, h.v9⟩
  have := h.pf o
  go_simp
end
def fewL : List Int := [0, 0, 1, 1, 2, 3]
theorem few_mem {x : Int} (h : x ∈ fewL) : 0 ≤ x ∧ x ≤ 3 := by
  unfold fewL at h
  simp only [List.mem_cons, List.not_mem_nil, or_false] at h
  omega
theorem row_few (u : World) (T : TypeId) : RowN (u.alloc (.cells #[.int .i64 0, .int .i64 0, .int .i64 1, .int .i64 1, .int .i64 2, .int .i64 3] T)) (some ⟨u.heap.size, 0, none⟩) fewL :=
  ⟨by unfold fewL; simp, .inr ⟨u.heap.size, 0, rfl, by simp, fun i z hi => by
    unfold fewL at hi
    rw [Nat.zero_add]
    match i, hi with
    | 0, hi => cases hi; rw [World.cell?_alloc_new]; rfl
    | 1, hi => cases hi; rw [World.cell?_alloc_new]; rfl
    | 2, hi => cases hi; rw [World.cell?_alloc_new]; rfl
    | 3, hi => cases hi; rw [World.cell?_alloc_new]; rfl
    | 4, hi => cases hi; rw [World.cell?_alloc_new]; rfl
    | 5, hi => cases hi; rw [World.cell?_alloc_new]; rfl⟩⟩
/-- Valid rules and a valid position with few seeds. -/
def FewP (w : World) (e : Ending) (w' : World) : Prop :=
  ∃ (P : Nat) (s c l : Int) (st sk re fe ag : Bool) (g1 c1 g2 c2 : Nat) (pl : Int) (xs : List Int) (y0 y1 : Int), (2 ≤ P ∧ P ≤ 3 ∧ tot xs ≤ 18) ∧ okR (P : Int) s c l st ag = true ∧ okP (okR (P : Int) s c l st ag) (P : Int) (2 * P) 2 pl xs [y0, y1] = true ∧
    e = .returned (.tuple #[.agg #[.int .i64 P, .int .i64 s, .bool st, .bool sk, .bool re, .bool fe, .bool ag, .int .i64 c, .int .i64 l], .agg #[.slice (some ⟨g1, 0, none⟩) (2 * P) c1, .slice (some ⟨g2, 0, none⟩) 2 c2, .int .i64 pl]]) ∧
    PosO w' w.heap.size (some ⟨g1, 0, none⟩) (some ⟨g2, 0, none⟩) g1 g2 (2 * P) 2 xs [y0, y1] ∧ g1 < w'.heap.size ∧ g2 < w'.heap.size ∧ 2 * P ≤ c1 ∧ 2 ≤ c2 ∧ Below w.heap.size w w'
set_option maxHeartbeats 8000000 in
set_option maxRecDepth 100000 in
theorem a2few_any (a : Option Addr) (len cap : Nat) (w : World) (hB : Bytes w a len) :
    Calls Try.prog 12 #[.slice a len cap] w (FewP w) := by
  have HB := Lib.hid hB
  clear hB
  go_enter Try.func12, Try.ntmps12
  go_wp2_with (go_at_call 39; go_in)
  refine (draw_any (w.heap.size + 1 + 1) a len cap 0 _ ⟨?_, 0, 0, Nat.le_refl _, ⟨by simp, by go_simp, by go_simp, by go_simp, fun o => by go_simp, by decide, by decide⟩⟩ (by decide)).mono ?_
  · have h := (HB.out.below ((Below.refl w.heap.size w).alloc (Nat.le_refl _) (.cells #[.int .i64 0, .int .i64 0, .bool false, .bool false, .bool false, .bool false, .bool false, .int .i64 0, .int .i64 0] 25) |>.alloc (by simp) (.cells #[.slice none 0 0, .slice none 0 0, .int .i64 0] 28))).row (.cells #[.slice a len cap, .int .i64 0, .int .u64 0] 79)
    simpa using h
  rintro e w1 ⟨p, s, c, l, st, sk, re, fe, ag, hok, rfl, hb1, hs1⟩
  obtain ⟨hp1, hp2, hs0, hs6, -⟩ := okR_bd hok
  have hz1 := hb1.size
  simp at hz1
  have HOn : Hid (OnW w w1) := Lib.hid (But.below (((Below.refl w.heap.size w).alloc (Nat.le_refl _) _).alloc (by simp) _ |>.alloc (by simp; omega) _) hb1 (by omega) (by simp; omega))
  have HRz := Lib.hid ((((ru_new 0 0 0 0 false false false false false w 25).below (al1 _ (.cells #[.slice none 0 0, .slice none 0 0, .int .i64 0] 28))).below (al1 _ (.cells #[.slice a len cap, .int .i64 0, .int .u64 0] 79))).but hb1 (by omega))
  have HRf : Hid (∀ o, w1.frozen? ⟨w.heap.size, o, none⟩ = false) := Lib.hid (fun o => (hb1.frozen (c := w.heap.size) (o := o) (by simp; omega) (by omega)).trans (by go_simp))
  have hzp := zero_new (w.alloc (.cells #[.int .i64 0, .int .i64 0, .bool false, .bool false, .bool false, .bool false, .bool false, .int .i64 0, .int .i64 0] 25)) 28
  rw [show (w.alloc (.cells #[.int .i64 0, .int .i64 0, .bool false, .bool false, .bool false, .bool false, .bool false, .int .i64 0, .int .i64 0] 25)).heap.size = w.heap.size + 1 by simp] at hzp
  have HZ := Lib.hid ((hzp.below (al1 _ (.cells #[.slice a len cap, .int .i64 0, .int .u64 0] 79))).but hb1 (by omega))
  have HSrc := Lib.hid hs1
  have HRow := Lib.hid hs1.1
  have Hok := Lib.hid hok
  clear hb1 hs1 hzp hok
  go_wp2_with fail
  have HSrc := Lib.hid (HSrc.out.below (al1 _ (.cells #[.int .i64 p, .int .i64 s, .bool st, .bool sk, .bool re, .bool fe, .bool ag, .int .i64 c, .int .i64 l] 25)))
  refine (pick_any (w.heap.size + 1 + 1) a len cap _ 2 _ HSrc.out (by omega) (by omega) (by omega)).mono ?_
  rintro e w2 ⟨v, ⟨v0, v1⟩, rfl, hbut, hsrc⟩
  obtain ⟨P, hP⟩ : ∃ P : Nat, (P : Int) = 2 + v := ⟨(2 + v).toNat, by omega⟩
  have hP2 : 2 ≤ P := by omega
  have hP3 : P ≤ 3 := by omega
  have HBt := Lib.hid ((But.of_below (b := w.heap.size + 1 + 1) (al1 w1 (.cells #[.int .i64 p, .int .i64 s, .bool st, .bool sk, .bool re, .bool fe, .bool ag, .int .i64 c, .int .i64 l] 25))).trans hbut)
  have HRu := Lib.hid ((ru_new p s c l st sk re fe ag w1 25).but hbut (by omega))
  have HRuf : Hid (∀ o, w2.frozen? ⟨w1.heap.size, o, none⟩ = false) := Lib.hid (fun o => (hbut.frozen (c := w1.heap.size) (o := o) (by simp) (by omega)).trans (by go_simp))
  have HSrc := Lib.hid hsrc
  have hz2 := hbut.size
  simp at hz2
  obtain ⟨rl, x0, x1, x2, x3, x4, x5, x6, x7, x8⟩ := HRu.out
  have rf0 := HRuf.out 0
  clear hbut hsrc
  go_wp2_with fail
  clear x0 x1 x2 x3 x4 x5 x6 x7 x8 rf0 rl
  rw [← hP]
  have Hok := Lib.hid (okR_pits (q := (P : Int)) Hok.out (by omega) (by omega))
  have HRu : Hid (RuAt (w2.setCell ⟨w1.heap.size, 0, none⟩ (.int .i64 (P : Int))) w1.heap.size (P : Int) s c l st sk re fe ag) := Lib.hid (by
    obtain ⟨rl, x0, x1, x2, x3, x4, x5, x6, x7, x8⟩ := HRu.out
    have rf0 := HRuf.out 0
    exact ⟨by simpa using rl, by go_simp, by go_simp, by go_simp, by go_simp, by go_simp, by go_simp, by go_simp, by go_simp, by go_simp⟩)
  have HBt := Lib.hid (HBt.out.setNew (n := w1.heap.size) (o := 0) (Nat.le_refl _) (.int .i64 (P : Int)))
  have HSrc := Lib.hid (Src.at HRow.out HBt.out HSrc.out ((SameAt.refl (w.heap.size + 1 + 1) w2).setCell (n := w1.heap.size) (o := 0) (by omega) (.int .i64 (P : Int))))
  have hz2 : w1.heap.size + 1 ≤ (w2.setCell ⟨w1.heap.size, 0, none⟩ (.int .i64 (P : Int))).heap.size := by simpa using hz2
  generalize w2.setCell ⟨w1.heap.size, 0, none⟩ (.int .i64 (P : Int)) = w3 at *
  clear hP v0 v1 HRuf
  refine (l04Start_any P s c l st sk re fe ag w1.heap.size _ HRu.out hP2 (by omega)).mono ?_
  rintro e u ⟨g1, c1, g2, c2, rfl, ho, lt1, lt2, hc1, hc2, hb⟩
  have HD : Hid (Few w1 (w.heap.size + 1 + 1) a len cap w1.heap.size (P : Int) s c l st sk re fe ag u.heap.size g1 g2 (2 * P) c1 c2 0 100 0 (u.alloc (.cells #[.slice (some ⟨g1, 0, none⟩) (2 * P) c1, .slice (some ⟨g2, 0, none⟩) 2 c2, .int .i64 0] 28))) := by
    have n1 := ho.o1.new
    have n2 := ho.o2.new
    have hus := hb.size
    have hw2 : Below w3.heap.size w3 (u.alloc (.cells #[.slice (some ⟨g1, 0, none⟩) (2 * P) c1, .slice (some ⟨g2, 0, none⟩) 2 c2, .int .i64 0] 28)) := hb.alloc hb.size _
    have hp1 := pits_of (k := 0) (lo := 3) (hi := 6) (ho.o1.alloc (.cells #[.slice (some ⟨g1, 0, none⟩) (2 * P) c1, .slice (some ⟨g2, 0, none⟩) 2 c2, .int .i64 0] 28)) (by intro e; have := congrArg List.length e; simp at this; omega) (fun x hx => by rw [List.eq_of_mem_replicate hx]; exact ⟨by omega, by omega⟩) (.inl rfl)
    have hp2 := pits_of (k := 2) (lo := 4) (hi := 4) (ho.o2.alloc (.cells #[.slice (some ⟨g1, 0, none⟩) (2 * P) c1, .slice (some ⟨g2, 0, none⟩) 2 c2, .int .i64 0] 28)) (by simp) (fun x hx => by simp at hx; subst hx; omega) (.inr rfl)
    rw [List.length_replicate] at hp1
    exact Lib.hid ⟨HBt.out.trans (.of_below hw2), (HSrc.out.below hw2).mono (by omega), HRu.out.below hw2, po_new _ _ _ _ _ _ _ u 28, fun o => by go_simp, hp1, hp2, HRow.out, by omega, Nat.le_refl _, by omega, by omega, by omega, by omega, by omega, ho.ne, by omega, by omega, by omega⟩
  clear ho hb lt1 lt2
  go_wp2_with fail
  generalize hV : u.heap.size = V at *
  generalize hW : u.alloc (.cells #[.slice (some ⟨g1, 0, none⟩) (2 * P) c1, .slice (some ⟨g2, 0, none⟩) 2 c2, .int .i64 0] 28) = w4 at *
  clear hW hV HRu HBt HSrc hz2
  generalize hS2 : w.heap.size + 1 + 1 = sb at *
  go_loopw [7] (fun i wr => ∃ (k j : Nat), k ≤ 2 * P ∧ j ≤ 100 + 2 * k ∧ i = .int .i64 k ∧ Few w1 sb a len cap w1.heap.size (P : Int) s c l st sk re fe ag V g1 g2 (2 * P) c1 c2 0 j k wr) (fun i _ => 2 * P - (intOf i).toNat)
  case atStart => exact ⟨0, 100, Nat.zero_le _, by omega, rfl, HD.out⟩
  case round =>
    obtain ⟨k, j, hk, hj, rfl, hd⟩ := hrel
    have HD := Lib.hid hd
    obtain ⟨hVl, q0, q1, q2⟩ := hd.po
    clear hd
    by_cases hlt : k < 2 * P
    · have p0 : (k : Int) < 2 * (P : Int) := by omega
      have p1 : (k : Int) < ((2 * P : Nat) : Int) := by omega
      have p2 : ¬ (k : Int) < 0 := by omega
      have p3 : (0 : Int) ≤ (k : Int) := by omega
      have HT : Hid (∀ (K' k' : Nat) (u : World), Few w1 sb a len cap w1.heap.size (P : Int) s c l st sk re fe ag V g1 g2 (2 * P) c1 c2 0 K' k' u → V < u.heap.size ∧ u.cell? ⟨V, 0, none⟩ = some (.slice (some ⟨g1, 0, none⟩) (2 * P) c1) ∧ But sb w1 u) := Lib.hid (fun K' k' u h => ⟨h.po.1, h.po.2.1, h.on⟩)
      go_upto_region 8 with fail
      clear hVl q0 q1 q2
      go_region_held3 (fun u => V < u.heap.size ∧ u.cell? ⟨V, 0, none⟩ = some (.slice (some ⟨g1, 0, none⟩) (2 * P) c1) ∧ But sb w1 u) (first | exact HT.out _ _ _ HD.out | exact HT.out _ _ _ HD.out.drew | exact HT.out _ _ _ (HD.out.new (al1 _ _)) | exact HT.out _ _ _ (HD.out.drew.new (al1 _ _)) | exact HT.out _ _ _ (HD.out.new (al1 _ _)).drew | exact HT.out _ _ _ (HD.out.setPit (k' := k + 1) hlt hv.1 hv.2 (.inr ⟨rfl, rfl⟩)))
        ((go_at_call 43; (with_reducible refine (among_any sb a len cap j _ 6 6 fewL _ ?_ (by omega) rfl (by omega) (by omega) ?_ ?_).mono ?_); (first | exact (HD.out.new (al1 _ _)).src | exact (HD.out.drew.new (al1 _ _)).src | exact (HD.out.new (al1 _ _)).drew.src); (focus (have hsl := HD.out.src.lt; first | omega | (simp; omega))); (focus (first | exact row_few _ _ | exact (row_few _ _).drewN 1)); rintro e w5 ⟨v, hm, rfl, hbut, hsrc⟩; (have hv := few_mem hm); (first | have HD := Lib.hid ((HD.out.new (al1 _ _)).pick hbut hsrc) | have HD := Lib.hid ((HD.out.drew.new (al1 _ _)).pick hbut hsrc) | have HD := Lib.hid ((HD.out.new (al1 _ _)).drew.pick hbut hsrc)); have gl := HD.out.pits.lt; have gf := HD.out.pits.fr k; (obtain ⟨y0, gx, -⟩ := HD.out.pits.at' k hlt); clear hbut hsrc hm))
      have HD := Lib.hid (HD.out.setPit (k' := k + 1) hlt hv.1 hv.2 (.inr ⟨rfl, rfl⟩))
      generalize hW : w5.setCell ⟨g1, k, none⟩ (.int .i64 v) = w6 at *
      clear hW gl gf gx
      go_wp2_with fail
      go_roundw
      case rel => exact ⟨k + 1, j + 2, by omega, by omega, by go_num, HD.out⟩
      case measure => simp [intOf]; omega
    · obtain rfl : k = 2 * P := by omega
      have p0 : ¬ (((2 * P : Nat) : Int) < 2 * (P : Int)) := by omega
      have HT : Hid (∀ (K' : Nat) (u : World), Few w1 sb a len cap w1.heap.size (P : Int) s c l st sk re fe ag V g1 g2 (2 * P) c1 c2 0 K' (2 * P) u → V < u.heap.size ∧ u.cell? ⟨V, 1, none⟩ = some (.slice (some ⟨g2, 0, none⟩) 2 c2) ∧ But sb w1 u) := Lib.hid (fun K' u h => ⟨h.po.1, h.po.2.2.1, h.on⟩)
      go_upto_region 9 with fail
      clear hVl q0 q1 q2
      go_region_held3 (fun u => V < u.heap.size ∧ u.cell? ⟨V, 1, none⟩ = some (.slice (some ⟨g2, 0, none⟩) 2 c2) ∧ But sb w1 u) (first | exact HT.out _ _ HD.out | exact HT.out _ _ HD.out.drew | exact HT.out _ _ (HD.out.setSt (j := 0) (by omega) hv.1 (by omega)))
        ((go_at_call 41; (with_reducible refine (pick_any sb a len cap j 5 _ ?_ (by omega) (by omega) (by omega)).mono ?_); (first | exact HD.out.src | exact HD.out.drew.src); rintro e w3 ⟨v, hv, rfl, hbut, hsrc⟩; (first | have HD := Lib.hid (HD.out.pick hbut hsrc) | have HD := Lib.hid (HD.out.drew.pick hbut hsrc)); have gl := HD.out.st.lt; have gf := HD.out.st.fr 0; (obtain ⟨x0, gx, -⟩ := HD.out.st.at' 0 (by omega)); clear hbut hsrc))
      have HD := Lib.hid (HD.out.setSt (j := 0) (by omega) hv.1 (by omega))
      generalize hW : w3.setCell ⟨g2, 0, none⟩ (.int .i64 v) = w6 at *
      clear hW gl gf gx hv HT
      go_wp2_with fail
      refine (pick_any sb a len cap (j + 2) 2 _ HD.out.src (by omega) (by omega) (by omega)).mono ?_
      rintro e w7 ⟨pl, hpl, rfl, hbut, hsrc⟩
      have HD := Lib.hid (HD.out.pick hbut hsrc)
      clear hbut hsrc
      obtain ⟨hVl, q0, q1, q2⟩ := HD.out.po
      have q3 := HD.out.pf 2
      go_upto_region 11 with fail
      clear hVl q0 q1 q2 q3
      have HD := Lib.hid (HD.out.setPl (v := pl))
      generalize hW : w7.setCell ⟨V, 2, none⟩ (.int .i64 pl) = w8 at *
      clear hW
      have hsl := HD.out.s1
      have hvV := HD.out.v1
      have hv2 := HD.out.v2
      have hv3 := HD.out.v3
      have HZ := Lib.hid (HZ.out.but HD.out.on (by omega))
      have HRz := Lib.hid (HRz.out.but HD.out.on (by omega))
      have HRf : Hid (∀ o, w8.frozen? ⟨w.heap.size, o, none⟩ = false) := Lib.hid (fun o => (HD.out.on.frozen (c := w.heap.size) (o := o) (by omega) (by omega)).trans (HRf.out o))
      have HOn := Lib.hid (HOn.out.but HD.out.on (by omega))
      obtain ⟨xs, hxl, hxo, hxb⟩ := row_list HD.out.pits (by omega) w.heap.size (by omega) (by omega) (by omega)
      obtain ⟨ys, hyl, hyo, hyb⟩ := row_list HD.out.st (by omega) w.heap.size (by omega) (by omega) (by omega)
      obtain ⟨y0, y1, rfl⟩ := two_of hyl
      have HXO := Lib.hid hxo
      have HYO := Lib.hid hyo
      have HXB := Lib.hid hxb
      have HYB := Lib.hid hyb
      have hl1 := HD.out.pits.lt
      have hl2 := HD.out.st.lt
      have v6 := HD.out.v6
      obtain ⟨hRl, r0, r1, r2, r3, r4, r5, r6, r7, r8⟩ := HD.out.ru
      obtain ⟨hVl, q0, q1, q2⟩ := HD.out.po
      obtain ⟨hrl, x0, x1, x2, x3, x4, x5, x6, x7, x8⟩ := HRz.out
      obtain ⟨zl, z0, z1, z2, zf⟩ := HZ.out
      have f0 := zf 0
      have f1 := zf 1
      have f2 := zf 2
      have e0 := HRf.out 0
      have e1 := HRf.out 1
      have e2 := HRf.out 2
      have e3 := HRf.out 3
      have e4 := HRf.out 4
      have e5 := HRf.out 5
      have e6 := HRf.out 6
      have e7 := HRf.out 7
      have e8 := HRf.out 8
      have m1 : g1 ≠ w.heap.size := by omega
      have m2 : g2 ≠ w.heap.size := by omega
      have m3 : g1 ≠ w.heap.size + 1 := by omega
      have m4 : g2 ≠ w.heap.size + 1 := by omega
      have m5 : w1.heap.size ≠ w.heap.size := by omega
      have m6 : w1.heap.size ≠ w.heap.size + 1 := by omega
      have m7 : V ≠ w.heap.size := by omega
      have m8 : V ≠ w.heap.size + 1 := by omega
      have hokP : okP (okR (P : Int) s c l st ag) (P : Int) (2 * P) 2 pl xs [y0, y1] = true ∧ tot xs ≤ 18 := by
        obtain ⟨a1, a2⟩ := tot_le hxb
        rw [hxl] at a2
        have h0 := hyb y0 (by simp)
        have h1 := hyb y1 (by simp)
        refine ⟨okP_drawn Hok.out (by omega) hxl (by omega) (fun x hx => ?_) (by omega) (by omega), by omega⟩
        have := hxb x hx
        omega
      have HokP := Lib.hid hokP
      clear zf hxo hyo hxb hyb hokP
      have HHon := Lib.hid (HD.out.on.size)
      clear HD HRow HRf HZ HRz HSrc
      go_region
      all_goals go_wp2_with fail
      all_goals refine bodyPost_ret (v := .tuple #[.agg #[.int .i64 P, .int .i64 s, .bool st, .bool sk, .bool re, .bool fe, .bool ag, .int .i64 c, .int .i64 l], .agg #[.slice (some ⟨g1, 0, none⟩) (2 * P) c1, .slice (some ⟨g2, 0, none⟩) 2 c2, .int .i64 pl]]) (by simp [results, Try.results12, go_sem, x0, x1, x2, x3, x4, x5, x6, x7, x8, z0, z1, z2]) rfl ?_
      all_goals refine ⟨P, s, c, l, st, sk, re, fe, ag, g1, c1, g2, c2, pl, xs, y0, y1, ⟨hP2, hP3, HokP.out.2⟩, Hok.out, HokP.out.1, rfl, ?_, by simpa using hl1, by simpa using hl2, hc1, hc2, ?_⟩
      · exact ((PosO.but (PosO.but (⟨HXO.out, HYO.out, v6, hxl, rfl⟩ : PosO w8 w.heap.size (some ⟨g1, 0, none⟩) (some ⟨g2, 0, none⟩) g1 g2 (2 * P) 2 xs [y0, y1]) (but9 w.heap.size _ _ _ _ _ _ _ _ _ _) m1 m2) (but3 (w.heap.size + 1) _ _ _ _) m3 m4).drewN 1)
      · exact ((HOn.out.but (but9 w.heap.size _ _ _ _ _ _ _ _ _ _) (Nat.le_refl _)).but (but3 (w.heap.size + 1) _ _ _ _) (by omega)).drew
end Go.Proofs.Ythbgfkklejnhiaa
