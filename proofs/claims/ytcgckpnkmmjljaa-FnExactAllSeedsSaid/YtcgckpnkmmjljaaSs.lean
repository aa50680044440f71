/- Rows of rows of numbers in memory, and what the laws' own functions on them do. No conditions. -/
import Derived.Test.YtcgckpnkmmjljaaLawUn
import Derived.Deep.AppendLies
namespace Go.Proofs.Ytcgckpnkmmjljaa
open Go.Joins Go.ChangeShapes Go.WideShapes Go.ChangeAt Go.RowKit Go.Deep
set_option linter.unusedVariables false

theorem infoSS : (Try.prog.info? 24).map (fun i => (i.zero, i.size, i.bytes)) = some (some (.slice none 0 0), 1, 24) := by kernel_rfl
/-- The rows of a row of rows, as values. -/
def rws (p n : Nat) (G C : Nat → Nat) : List Value := (List.range n).map fun i => .slice (some ⟨G i, 0, none⟩) p (C i)
theorem rws_len (p n : Nat) (G C : Nat → Nat) : (rws p n G C).length = n := by simp [rws]
theorem rws_at {p n i : Nat} {G C : Nat → Nat} (h : i < n) : (rws p n G C)[i]? = some (.slice (some ⟨G i, 0, none⟩) p (C i)) := by simp [rws, h]
theorem rws_one (p n : Nat) (G C : Nat → Nat) : ∀ u ∈ rws p n G C, u.oneCell' = true := by
  intro u hu
  obtain ⟨i, _, rfl⟩ := List.mem_map.1 hu
  rfl
def upd (f : Nat → Nat) (n v : Nat) : Nat → Nat := fun i => if i = n then v else f i
theorem upd_lt {f : Nat → Nat} {n v i : Nat} (h : i < n) : upd f n v i = f i := if_neg (by omega)
theorem upd_at (f : Nat → Nat) (n v : Nat) : upd f n v n = v := if_pos rfl
theorem rws_succ (p n : Nat) (G C : Nat → Nat) (g c : Nat) : rws p (n + 1) (upd G n g) (upd C n c) = rws p n G C ++ [.slice (some ⟨g, 0, none⟩) p c] := by
  unfold rws
  rw [List.range_succ, List.map_append, List.map_singleton, upd_at, upd_at]
  congr 1
  apply List.map_congr_left
  intro i hi
  rw [upd_lt (List.mem_range.1 hi), upd_lt (List.mem_range.1 hi)]
/-- A row of rows that a call owns. -/
structure Gr (u : World) (B : Nat) (v : Value) (p n : Nat) (G C : Nat → Nat) (L : Nat → List Int) : Prop where
  own : u.ownsRow B 24 1 v n (rws p n G C)
  it : ∀ i, i < n → OutN u B (some ⟨G i, 0, none⟩) (G i) (L i) ∧ G i < u.heap.size ∧ (L i).length = p
  ne : ∀ i, i < n → ∀ k, v.ownBlock = some k → k ≠ G i
  pw : ∀ i j, i < n → j < n → i ≠ j → G i ≠ G j
section
variable {u w1 w2 : World} {B b p n : Nat} {v : Value} {G C : Nat → Nat} {L : Nat → List Int}
theorem Gr.below (h : Gr u B v p n G C L) (k : Below u.heap.size u w1) : Gr w1 B v p n G C L :=
  ⟨own_keep h.own k, fun i hi => ⟨(h.it i hi).1.below k, Nat.lt_of_lt_of_le (h.it i hi).2.1 k.size, (h.it i hi).2.2⟩, h.ne, h.pw⟩
theorem Gr.lower {D : Nat} (h : Gr u B v p n G C L) (hd : D ≤ B) : Gr u D v p n G C L :=
  ⟨own_lower h.own hd, fun i hi => ⟨(h.it i hi).1.lower hd, (h.it i hi).2⟩, h.ne, h.pw⟩
theorem Gr.nil (u : World) (B p : Nat) (G C : Nat → Nat) (L : Nat → List Int) : Gr u B (.slice none 0 0) p 0 G C L :=
  ⟨World.ownsRow_nil _ _ _ _, (fun _ h => absurd h (by omega)), (fun _ h => absurd h (by omega)), (fun _ _ h => absurd h (by omega))⟩
/-- Where the slice and its cells lie. -/
theorem Gr.cells (h : Gr u B v p n G C L) (h0 : 0 < n) : ∃ g c, v = .slice (some ⟨g, 0, none⟩) n c ∧ B ≤ g ∧ g < u.heap.size ∧ (∀ i, i < n → g ≠ G i) ∧ ∀ i, i < n → u.cell? ⟨g, i, none⟩ = some (.slice (some ⟨G i, 0, none⟩) p (C i)) := by
  obtain ⟨h1, ⟨hv, hn⟩ | ⟨g, cap, cur, hv, hb, hg, hm, hc, hs, ht⟩⟩ := h.own
  · omega
  · refine ⟨g, cap, hv, hb, (Array.getElem?_eq_some_iff.1 hg).1, fun i hi => h.ne i hi g (by rw [hv]; rfl), fun i hi => ?_⟩
    have h1 : (cur.toList.take (n * 1))[i]? = some (.slice (some ⟨G i, 0, none⟩) p (C i)) := by
      rw [ht]
      exact rws_at hi
    rw [List.getElem?_take] at h1
    split at h1
    · simpa [World.cell?, hg] using h1
    · cases h1
theorem Gr.len (h : Gr u B v p n G C L) : ∃ a c, v = .slice a n c := by
  by_cases h0 : 0 < n
  · obtain ⟨g, c, rfl, -⟩ := h.cells h0
    exact ⟨_, _, rfl⟩
  · obtain rfl : n = 0 := by omega
    obtain ⟨h1, ⟨hv, hn⟩ | ⟨g, cap, cur, hv, hb, hg, hm, hc, hs, ht⟩⟩ := h.own
    · exact ⟨_, _, hv⟩
    · exact ⟨_, _, hv⟩
/-- One row is written. -/
theorem Gr.write {i : Nat} {M : List Int} (h : Gr u B v p n G C L) (hi : i < n) (k : But (G i) u w1) (hM : OutN w1 B (some ⟨G i, 0, none⟩) (G i) M) (hl : M.length = p) : Gr w1 B v p n G C (fun j => if j = i then M else L j) := by
  refine ⟨?_, fun j hj => ?_, h.ne, h.pw⟩
  · obtain ⟨h1, h2 | ⟨g, cap, cur, hv, hb, hg, hr⟩⟩ := h.own
    · exact ⟨h1, .inl h2⟩
    · exact ⟨h1, .inr ⟨g, cap, cur, hv, hb, by rw [k.block g (Array.getElem?_eq_some_iff.1 hg).1 (h.ne i hi g (by rw [hv]; rfl))]; exact hg, hr⟩⟩
  · by_cases e : j = i
    · subst e
      refine ⟨by simpa using hM, Nat.lt_of_lt_of_le (h.it j hj).2.1 k.size, by simpa using hl⟩
    · refine ⟨by simpa [e] using (h.it j hj).1.but k (h.pw j i hj hi e), Nat.lt_of_lt_of_le (h.it j hj).2.1 k.size, by simpa [e] using (h.it j hj).2.2⟩
/-- One row more. -/
theorem Gr.snoc {g c gv cv : Nat} {M : List Int} (h : Gr u B v p n G C L) (k : Below u.heap.size u w1) (hg : w1.grownBy w2 v.ownBlock) (hown : w2.ownsRow B 24 1 (.slice (some ⟨gv, 0, none⟩) (n + 1) cv) (n + 1) (rws p n G C ++ [.slice (some ⟨g, 0, none⟩) p c]))
    (hat : v.ownBlock = some gv ∨ gv = w1.heap.size) (hM : OutN w1 B (some ⟨g, 0, none⟩) g M) (hlt : g < w1.heap.size) (hl : M.length = p) (hv : ∀ q, v.ownBlock = some q → q ≠ g) (hG : ∀ i, i < n → G i ≠ g) : Gr w2 B (.slice (some ⟨gv, 0, none⟩) (n + 1) cv) p (n + 1) (upd G n g) (upd C n c) (fun j => if j = n then M else L j) := by
  refine ⟨by rw [rws_succ]; exact hown, fun i hi => ?_, fun i hi q hq => ?_, fun i j hi hj hij => ?_⟩
  · by_cases e : i = n
    · subst e
      rw [upd_at, if_pos rfl]
      exact ⟨hM.grown hg hv, Nat.lt_of_lt_of_le hlt hg.size, hl⟩
    · have hin : i < n := by omega
      rw [upd_lt hin, if_neg e]
      obtain ⟨h1, h2, h3⟩ := h.it i hin
      exact ⟨(h1.below k).grown hg (fun q hq => h.ne i hin q hq), Nat.lt_of_lt_of_le (Nat.lt_of_lt_of_le h2 k.size) hg.size, h3⟩
  · have eq : q = gv := by
      have : (Value.slice (some ⟨gv, 0, none⟩) (n + 1) cv).ownBlock = some gv := rfl
      rw [this] at hq
      cases hq
      rfl
    subst eq
    by_cases e : i = n
    · subst e
      rw [upd_at]
      rcases hat with h1 | h1
      · exact hv q h1
      · omega
    · have hin : i < n := by omega
      rw [upd_lt hin]
      rcases hat with h1 | h1
      · exact h.ne i hin q h1
      · have := (h.it i hin).2.1
        have := k.size
        omega
  · by_cases e : i = n
    · subst e
      rw [upd_at, upd_lt (by omega : j < i)]
      exact fun h => hG j (by omega) h.symm
    · by_cases e2 : j = n
      · subst e2
        rw [upd_at, upd_lt (by omega : i < j)]
        exact hG i (by omega)
      · rw [upd_lt (by omega), upd_lt (by omega)]
        exact h.pw i j (by omega) (by omega) hij
end
end Go.Proofs.Ytcgckpnkmmjljaa
