/- Rows of numbers that a call owns. No conditions. -/
import Derived.Test.YtgogjjkecbgbiaaRowN
import Derived.Laws.AppendOwn
import Derived.Laws.AppendOwnNone
import Derived.OwnWalk
namespace Go.Proofs.Ytgogjjkecbgbiaa
open Go.Joins Go.ChangeShapes Go.WideShapes Go.ChangeAt Go.RowKit Go.Deep
set_option linter.unusedVariables false

/-- Numbers as values. -/
def nvs (xs : List Int) : List Value := xs.map (Value.int .i64)
theorem nvs_app (xs ys : List Int) : nvs (xs ++ ys) = nvs xs ++ nvs ys := by simp [nvs]
theorem nvs_len (xs : List Int) : (nvs xs).length = xs.length := by simp [nvs]
theorem nvs_cell (xs : List Int) : ∀ u ∈ nvs xs, u.oneCell' = true := by
  intro u hu
  obtain ⟨x, _, rfl⟩ := List.mem_map.1 hu
  rfl
/-- The cells of a row, as a law of append wants them. -/
theorem row_news {w : World} {g o : Nat} {xs : List Int} (h : RowN w (some ⟨g, o, none⟩) xs) : ∀ j u, (nvs xs)[j]? = some u → w.cell? ((⟨g, o, none⟩ : Addr).add j) = some u := by
  intro j u hu
  obtain ⟨_, h | ⟨g', o', ha, _, hx⟩⟩ := h
  · subst h; cases hu
  · cases ha
    have e : ((⟨g, o, none⟩ : Addr).add j) = ⟨g, o + j, none⟩ := by
      by_cases h : j = 0 <;> simp [Addr.add, h]
    rw [e]
    unfold nvs at hu
    rw [List.getElem?_map] at hu
    cases hx' : xs[j]? with
    | none => rw [hx'] at hu; cases hu
    | some x =>
      rw [hx'] at hu
      cases hu
      exact hx j x hx'
/-- An owned row, as the laws' own functions want it. -/
theorem outN_own {w : World} {B n : Nat} {v : Value} {xs : List Int} (h : w.ownsRow B 2 1 v n (nvs xs)) (hn : xs.length = n) (hle : n ≤ 1000000000000) (hne : xs ≠ []) :
    ∃ c b, v = .slice (some ⟨b, 0, none⟩) n c ∧ OutN w B (some ⟨b, 0, none⟩) b xs ∧ b < w.heap.size ∧ n ≤ c := by
  obtain ⟨_, ⟨hv, h0⟩ | ⟨g, cap, cur, hv, hb, hg, hm, hc, hs, ht⟩⟩ := h
  · subst h0
    exact absurd (List.eq_nil_of_length_eq_zero hn) hne
  · have hlt : g < w.heap.size := (Array.getElem?_eq_some_iff.1 hg).1
    refine ⟨cap, g, hv, ⟨⟨by rw [hn]; exact hle, .inr ⟨g, 0, rfl, hlt, fun i x hi => ?_⟩⟩, fun _ _ h => by cases h; rfl, hb, fun _ => ⟨hlt, fun o => by simp [World.frozen?, hg]⟩⟩, hlt, hm⟩
    have h1 : (cur.toList.take (n * 1))[i]? = some (.int .i64 x) := by
      rw [ht]
      simp [nvs, hi]
    rw [List.getElem?_take] at h1
    split at h1
    · rw [Nat.zero_add]
      simpa [World.cell?, hg] using h1
    · cases h1
theorem outN_at {w : World} {B n g c : Nat} {xs : List Int} (h : w.ownsRow B 2 1 (.slice (some ⟨g, 0, none⟩) n c) n (nvs xs)) (hn : xs.length = n) (hle : n ≤ 1000000000000) (hne : xs ≠ []) :
    OutN w B (some ⟨g, 0, none⟩) g xs ∧ g < w.heap.size ∧ n ≤ c := by
  obtain ⟨c', b, hv, ho, hlt, hc⟩ := outN_own h hn hle hne
  simp only [Value.slice.injEq, Option.some.injEq, Addr.mk.injEq] at hv
  obtain ⟨⟨rfl, _⟩, _, rfl⟩ := hv
  exact ⟨ho, hlt, hc⟩
theorem RowN.grown {u v : World} {a : Option Addr} {xs : List Int} {row : Option Nat} (h : RowN u a xs) (hg : u.grownBy v row) (hr : ∀ g o k, a = some ⟨g, o, none⟩ → row = some k → k ≠ g) : RowN v a xs := by
  obtain ⟨hl, h | ⟨g, o, ha, hlt, hx⟩⟩ := h
  · exact ⟨hl, .inl h⟩
  · refine ⟨hl, .inr ⟨g, o, ha, Nat.lt_of_lt_of_le hlt hg.size, fun i x hi => ?_⟩⟩
    exact (World.cell?_of_block (a := ⟨g, o + i, none⟩) (hg.block g hlt (fun e => hr g o g ha e.symm rfl))).trans (hx i x hi)
theorem OutN.grown {u v : World} {B b : Nat} {a : Option Addr} {xs : List Int} {row : Option Nat} (h : OutN u B a b xs) (hg : u.grownBy v row) (hr : ∀ k, row = some k → k ≠ b) : OutN v B a b xs :=
  ⟨h.row.grown hg (fun g o k ha hk => by rw [h.at_b g o ha]; exact hr k hk), h.at_b, h.new, fun hn => by
    obtain ⟨h1, h2⟩ := h.free hn
    exact ⟨Nat.lt_of_lt_of_le h1 hg.size, fun o => (World.frozen?_of_block (a := ⟨b, o, none⟩) (hg.block b h1 (fun e => hr b e.symm rfl))).trans (h2 o)⟩⟩
/-- A new row of two numbers. -/
theorem out_two (u : World) (x y : Int) (T : TypeId) : OutN (u.alloc (.cells #[.int .i64 x, .int .i64 y] T)) u.heap.size (some ⟨u.heap.size, 0, none⟩) u.heap.size [x, y] :=
  ⟨⟨by simp, .inr ⟨u.heap.size, 0, rfl, by simp, fun i z hi => by
    match i, hi with
    | 0, hi =>
      cases hi
      rw [World.cell?_alloc_new]
      rfl
    | 1, hi =>
      cases hi
      rw [World.cell?_alloc_new]
      rfl⟩⟩, fun _ _ e => by cases e; rfl, Nat.le_refl _, fun _ => ⟨by simp, fun o => by go_simp⟩⟩
/-- A row of its own. -/
def OwnP (xs : List Int) (n : Nat) (w : World) (e : Ending) (w' : World) : Prop :=
  ∃ v, e = .returned v ∧ w'.ownsRow w.heap.size 2 1 v n (nvs xs) ∧ Below w.heap.size w w'
theorem own_lower {w : World} {B C e n : Nat} {v : Value} {xs : List Value} (h : w.ownsRow B e 1 v n xs) (hc : C ≤ B) : w.ownsRow C e 1 v n xs := by
  obtain ⟨h1, h2 | ⟨g, cap, cur, hv, hb, hr⟩⟩ := h
  · exact ⟨h1, .inl h2⟩
  · exact ⟨h1, .inr ⟨g, cap, cur, hv, Nat.le_trans hc hb, hr⟩⟩
theorem own_keep {w w' : World} {B e n : Nat} {v : Value} {xs : List Value} (h : w.ownsRow B e 1 v n xs) (k : Below w.heap.size w w') : w'.ownsRow B e 1 v n xs := by
  obtain ⟨h1, h2 | ⟨g, cap, cur, hv, hb, hg, hr⟩⟩ := h
  · exact ⟨h1, .inl h2⟩
  · exact ⟨h1, .inr ⟨g, cap, cur, hv, hb, by rw [k.block g (Array.getElem?_eq_some_iff.1 hg).1]; exact hg, hr⟩⟩
theorem but_grown {w w' : World} {row : Option Nat} {b : Nat} (hg : w.grownBy w' row) (h : ∀ k, row = some k → k = b) : But b w w' :=
  ⟨hg.os, hg.tape, hg.output, hg.size, fun k hk hb => hg.block k hk (fun e => hb (h k e.symm))⟩

set_option maxHeartbeats 1000000 in
theorem l00Own_any (a : Option Addr) (c n : Nat) (xs : List Int) (w : World) (hn : xs.length = n) (h : RowN w a xs) (hne : xs ≠ []) :
    Calls Try.prog 44 #[.slice a n c] w (OwnP xs n w) := by
  have hl : n ≤ 1000000000000 := by rw [← hn]; exact h.1
  obtain ⟨i0, hi, hz0, hz1, hz2⟩ := info_parts infoN
  obtain ⟨g, o, rfl, hg, hx⟩ := h.2.resolve_left hne
  have Hn := Lib.hid hn
  have H := Lib.hid h
  clear hn h hne hx
  go_enter Try.func44, Try.ntmps44
  go_wp2_with (at_builtin; refine wpList_append_own _ rfl _ _ 26 rfl w.heap.size 2 i0 (.int .i64 0) 1 8 Try.underlying26 hi hz0 hz1 hz2 rfl (by decide) _ 0 [] rfl (World.ownsRow_made w #[] 0 (Nat.le_refl _) (by decide) rfl) ⟨g, o, none⟩ n c (nvs xs) rfl (by rw [nvs_len, Hn.out]; simp) (row_news (H.out.alloc _)) (nvs_cell xs) (by unfold maxLen; omega) (by omega) (by simp) ?_; intro v' w1 hown1 hgrow1 hnil1)
  have hb1 : Below w.heap.size w w1 := ((Below.refl _ _).alloc (Nat.le_refl _) _).grown hgrow1 (by simp) (fun k hk => by cases hk; exact Nat.le_refl _)
  simp only [Nat.zero_add, List.nil_append] at hown1
  have HO := Lib.hid hown1
  have HB := Lib.hid hb1
  clear hown1 hb1 hgrow1 hnil1
  go_wp2
  go_ret
  exact ⟨_, rfl, HO.out, HB.out⟩
end Go.Proofs.Ytgogjjkecbgbiaa
