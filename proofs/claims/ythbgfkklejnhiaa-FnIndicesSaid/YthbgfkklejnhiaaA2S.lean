/- Distributions that the reference draws can be numbered; sums and lists as the laws compare them. No conditions. -/
import Derived.Test.YthbgfkklejnhiaaNx
import Derived.Test.YthbgfkklejnhiaaSrc
import Derived.Test.YthbgfkklejnhiaaLong
import Derived.Test.YthbgfkklejnhiaaLawUn
namespace Go.Proofs.Ythbgfkklejnhiaa
open Go.Joins Go.ChangeShapes Go.WideShapes Go.ChangeAt Go.RowKit Go.Deep
set_option linter.unusedVariables false

theorem Src.grow {u v : World} {b : Nat} {a : Option Addr} {len cap K B : Nat} {row : Option Nat} (h : Src u b a len cap K) (hg : u.grownBy v row) (hb : b < B) (ha : ∀ c off, a = some ⟨c, off, none⟩ → len = 0 ∨ c < B) (hr : ∀ k, row = some k → B ≤ k) : Src v b a len cap K := by
  obtain ⟨⟨hl, h1⟩, i, n, hi, h⟩ := h
  have e := hg.block b h.lt (fun e => by have := hr b e.symm; omega)
  refine ⟨⟨hl, ?_⟩, i, n, hi, ⟨Nat.lt_of_lt_of_le h.lt hg.size, (World.cell?_of_block (a := ⟨b, 0, none⟩) e).trans h.c0, (World.cell?_of_block (a := ⟨b, 1, none⟩) e).trans h.c1, (World.cell?_of_block (a := ⟨b, 2, none⟩) e).trans h.c2, fun o => (World.frozen?_of_block (a := ⟨b, o, none⟩) e).trans (h.fr o), h.u0, h.u1⟩⟩
  rcases h1 with h1 | ⟨c, off, rfl, hcb, hc, hx⟩
  · exact .inl h1
  · refine .inr ⟨c, off, rfl, hcb, Nat.lt_of_lt_of_le hc hg.size, fun j hj => ?_⟩
    obtain ⟨x, hx1, hx2⟩ := hx j hj
    have e2 := hg.block c hc (fun e => by have := hr c e.symm; have := ha c off rfl; omega)
    exact ⟨x, (World.cell?_of_block (a := ⟨c, off + j, none⟩) e2).trans hx1, hx2⟩
theorem own_butB {w u : World} {B b e n : Nat} {v : Value} {xs : List Value} (h : w.ownsRow B e 1 v n xs) (k : But b w u) (hb : b < B) : u.ownsRow B e 1 v n xs := by
  obtain ⟨h1, h2 | ⟨g, cap, cur, hv, hB, hg, hr⟩⟩ := h
  · exact ⟨h1, .inl h2⟩
  · exact ⟨h1, .inr ⟨g, cap, cur, hv, hB, by rw [k.block g (Array.getElem?_eq_some_iff.1 hg).1 (by omega)]; exact hg, hr⟩⟩
def AmongP (b : Nat) (a : Option Addr) (len cap K : Nat) (xs : List Int) (w : World) (e : Ending) (w' : World) : Prop :=
  ∃ v, v ∈ xs ∧ e = .returned (.int .i64 v) ∧ But b w w' ∧ Src w' b a len cap (K + 2)
set_option maxHeartbeats 1000000 in
theorem among_any (b : Nat) (a : Option Addr) (len cap K d n c : Nat) (xs : List Int) (w : World) (hs : Src w b a len cap K) (hK : K < 999999) (hn : xs.length = n) (h0 : 0 < n) (h1 : n ≤ 1000) (hd : d ≠ b) (hr : RowN w (some ⟨d, 0, none⟩) xs) :
    Calls Try.prog 43 #[.pointer (some ⟨b, 0, none⟩), .slice (some ⟨d, 0, none⟩) n c] w (AmongP b a len cap K xs w) := by
  have HP := Lib.hid (pick_any b a len cap K (n : Int) w hs hK (by omega) (by omega))
  obtain ⟨g, o, e, hg, hx⟩ := hr.2.resolve_left (by intro e; subst e; simp at hn; omega)
  cases e
  have HX := Lib.hid hx
  have HN := Lib.hid hn
  clear hr hx hs hn
  go_enter Try.func43, Try.ntmps43
  go_wp2_with fail
  refine HP.out.mono ?_
  rintro e w1 ⟨v, ⟨v0, v1⟩, rfl, hb1, hs1⟩
  obtain ⟨i, rfl⟩ : ∃ i : Nat, v = (i : Int) := ⟨v.toNat, by omega⟩
  have hi : i < n := by omega
  obtain ⟨x, hm⟩ : ∃ x, xs[i]? = some x := ⟨xs[i]'(by rw [HN.out]; exact hi), List.getElem?_eq_getElem _⟩
  have hcell : w1.cell? ⟨d, i, none⟩ = some (.int .i64 x) := by rw [hb1.cell hg hd, ← Nat.zero_add i]; exact HX.out i x hm
  have Hs1 := Lib.hid hs1
  have HM := Lib.hid hm
  have HB1 := Lib.hid hb1
  clear hs1 hm hb1
  go_wp2_with fail
  go_ret
  exact ⟨x, List.mem_of_getElem? HM.out, rfl, HB1.out, Hs1.out⟩
/-- A drawn distribution. -/
def A2L : List Int := [0, 0, 1, 2, 3, 5]
structure Dr (ys : List Nat) : Prop where
  n7 : ys.length ≤ 7
  le5 : ∀ y ∈ ys, y ≤ 5
theorem Dr.sum {ys : List Nat} (h : ∀ y ∈ ys, y ≤ 5) : sm ys ≤ 5 * ys.length := by
  induction ys with
  | nil => exact Nat.le_refl _
  | cons y ys ih =>
    have h1 := h y (List.mem_cons_self ..)
    have h2 := ih (fun z hz => h z (List.mem_cons_of_mem _ hz))
    show y + sm ys ≤ 5 * (ys.length + 1)
    omega
theorem Dr.ok {ys : List Nat} (h : Dr ys) (h0 : 0 < ys.length) : DisOk ys (ys.length - 1) := by
  have h1 := Dr.sum h.le5
  have h2 := h.n7
  refine ⟨by omega, by omega, by omega, ?_⟩
  have h3 : cnt (sm ys) (ys.length - 1 + 1) ≤ cnt 35 7 := cnt_both (by omega) (by omega)
  have h4 : cnt 35 7 = ch 41 6 := rfl
  have h5 : ch 41 6 ≤ 1000000000000000 := by
    have a1 := ch_mul 41 0
    have a2 := ch_mul 41 1
    have a3 := ch_mul 41 2
    have a4 := ch_mul 41 3
    have a5 := ch_mul 41 4
    have a6 := ch_mul 41 5
    rw [ch_zero] at a1
    simp only [Nat.reduceAdd, Nat.reduceSub] at a1 a2 a3 a4 a5 a6
    omega
  omega
theorem row_A2 (u : World) (T : TypeId) : RowN (u.alloc (.cells #[.int .i64 0, .int .i64 0, .int .i64 1, .int .i64 2, .int .i64 3, .int .i64 5] T)) (some ⟨u.heap.size, 0, none⟩) A2L :=
  ⟨by simp [A2L], .inr ⟨u.heap.size, 0, rfl, by simp, fun i z hi => by
    match i, hi with
    | 0, hi => cases hi; rw [World.cell?_alloc_new]; rfl
    | 1, hi => cases hi; rw [World.cell?_alloc_new]; rfl
    | 2, hi => cases hi; rw [World.cell?_alloc_new]; rfl
    | 3, hi => cases hi; rw [World.cell?_alloc_new]; rfl
    | 4, hi => cases hi; rw [World.cell?_alloc_new]; rfl
    | 5, hi => cases hi; rw [World.cell?_alloc_new]; rfl⟩⟩
theorem A2L_nat {x : Int} (h : x ∈ A2L) : ∃ y : Nat, x = (y : Int) ∧ y ≤ 5 := by
  simp only [A2L, List.mem_cons, List.not_mem_nil, or_false] at h
  exact ⟨x.toNat, by omega, by omega⟩
def A2P12 (w : World) (e : Ending) (w' : World) : Prop :=
  ∃ ys : List Nat, ∃ v, Dr ys ∧ 0 < ys.length ∧ e = .returned v ∧ w'.ownsRow (w.heap.size + 1) 2 1 v ys.length (nvs (vals ys)) ∧ Below w.heap.size w w'
set_option maxHeartbeats 1000000 in
theorem a2Sum_any (a : Option Addr) (c n : Nat) (ys : List Nat) (w : World) (hn : ys.length = n) (h : RowN w a (vals ys)) (hs : sm ys ≤ 1000000) :
    Calls Try.prog 23 #[.slice a n c] w fun e w' => e = .returned (.int .i64 (sm ys : Int)) ∧ w = w' := by
  have hl : n ≤ 1000000000000 := by have := h.1; rw [vals_len] at this; omega
  have H := Lib.hid h
  have HN := Lib.hid hn
  clear h hn
  go_enter Try.func23, Try.ntmps23
  go_wp2
  go_loopw [3, 4] (fun s i wr => ∃ (k t : Nat), k ≤ n ∧ i = .int .i64 (k : Int) ∧ s = .int .i64 (t : Int) ∧ t + sm (ys.drop k) = sm ys ∧ wr = w) (fun _ i _ => n - (intOf i).toNat)
  case atStart => exact ⟨0, 0, Nat.zero_le _, rfl, rfl, by simp, rfl⟩
  case round =>
    obtain ⟨k, t, hk, rfl, rfl, ht, rfl⟩ := hrel
    have HT := Lib.hid ht
    have ht2 : t ≤ 1000000 := by omega
    clear ht
    by_cases hlt : k < n
    · obtain ⟨y, hy⟩ : ∃ y, ys[k]? = some y := ⟨ys[k]'(by rw [HN.out]; exact hlt), List.getElem?_eq_getElem _⟩
      obtain ⟨g, o, rfl, hg, hx⟩ := H.out.2.resolve_left (by intro e; have := vals_len ys; rw [e] at this; have := HN.out; simp at *; omega)
      have y1 := hx k _ (vals_at ys hy)
      have hd := drop_cons hy
      have hsm : sm (ys.drop k) = y + sm (ys.drop (k + 1)) := by rw [hd]; rfl
      have hyb : y ≤ 1000000 := by have := HT.out; omega
      have HD := Lib.hid hsm
      have q0 : (0 : Int) ≤ (k : Int) := by omega
      have q1 : (k : Int) < (n : Int) := by omega
      clear hx hy hd hsm
      go_wp2
      go_roundw
      case rel => exact ⟨k + 1, t + y, by omega, by go_num, by go_num, by have := HT.out; have := HD.out; omega, trivial⟩
      case measure => simp [intOf]; omega
    · obtain rfl : k = n := by omega
      have e : sm (ys.drop k) = 0 := by rw [List.drop_of_length_le (by rw [HN.out]; exact Nat.le_refl _)]; rfl
      have et : t = sm ys := by have := HT.out; omega
      have HE := Lib.hid et
      clear e et
      go_wp2
      go_ret
      exact ⟨by rw [HE.out]; rfl, rfl⟩
set_option maxHeartbeats 1000000 in
theorem a2Num_any (a1 a2 : Option Addr) (c1 c2 n : Nat) (xs : List Int) (w : World) (hn : xs.length = n) (h1 : RowN w a1 xs) (h2 : RowN w a2 xs) :
    Calls Try.prog 21 #[.slice a1 n c1, .slice a2 n c2] w fun e w' => e = .returned (.bool true) ∧ Below w.heap.size w w' := by
  have hl : n ≤ 1000000000000 := by rw [← hn]; exact h1.1
  have Hn := Lib.hid hn
  have H1 := Lib.hid h1
  have H2 := Lib.hid h2
  clear hn h1 h2
  go_enter Try.func21, Try.ntmps21
  go_wp2
  go_loopw [5] (fun i wr => ∃ k m : Nat, k ≤ n ∧ i = .int .i64 k ∧ wr = w.drewN m) (fun i _ => n - (intOf i).toNat)
  case atStart => exact ⟨0, 0, Nat.zero_le _, rfl, rfl⟩
  case round =>
    obtain ⟨k, m, hk, rfl, rfl⟩ := hrel
    by_cases hlt : k < n
    · obtain ⟨s, hs⟩ : ∃ s, xs[k]? = some s := ⟨xs[k]'(by rw [Hn.out]; exact hlt), List.getElem?_eq_getElem _⟩
      have hne : xs ≠ [] := by intro h; subst h; cases hs
      obtain ⟨g1, o1, rfl, l1, x1⟩ := H1.out.2.resolve_left hne
      obtain ⟨g2, o2, rfl, l2, x2⟩ := H2.out.2.resolve_left hne
      have y1 := x1 k s hs
      have y2 := x2 k s hs
      have q0 : (0 : Int) ≤ (k : Int) := by omega
      have q1 : (k : Int) < (n : Int) := by omega
      clear x1 x2 hs hne
      go_wp2_with fail
      go_quiet (fail)
      go_wp2_with fail
      go_roundw
      case rel => exact ⟨k + 1, _, by omega, by go_num, rfl⟩
      case measure => simp [intOf]; omega
    · go_wp2
      go_ret
      exact ⟨rfl, below_dn (Below.refl _ _) _⟩
end Go.Proofs.Ythbgfkklejnhiaa
