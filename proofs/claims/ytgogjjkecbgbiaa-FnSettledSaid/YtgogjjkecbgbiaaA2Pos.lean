/- Rules and a position that the laws draw are valid. No conditions. -/
import Derived.Test.YtgogjjkecbgbiaaDraw4
import Derived.Test.YtgogjjkecbgbiaaTot
namespace Go.Proofs.Ytgogjjkecbgbiaa
open Go.Joins Go.ChangeShapes Go.WideShapes Go.ChangeAt Go.RowKit Go.Deep
set_option linter.unusedVariables false

theorem tot_le {m : Int} : ∀ {xs : List Int}, (∀ x ∈ xs, 0 ≤ x ∧ x ≤ m) → posB xs = true ∧ tot xs ≤ m * xs.length
  | [], _ => ⟨rfl, by simp [tot]⟩
  | x :: r, h => by
    obtain ⟨h1, h2⟩ := tot_le (xs := r) (fun y hy => h y (List.mem_cons_of_mem _ hy))
    obtain ⟨h3, h4⟩ := h x (List.mem_cons_self ..)
    refine ⟨?_, ?_⟩
    · unfold posB at h1 ⊢
      rw [List.all_cons, h1]
      simp [h3]
    · unfold tot
      rw [List.length_cons, Int.natCast_add, Int.mul_add]
      simp only [Int.natCast_one, Int.mul_one]
      omega
theorem okP_drawn {k : Bool} {P : Nat} {pl y0 y1 : Int} {xs : List Int} (hk : k = true) (hP : P ≤ 8) (hl : xs.length = 2 * P) (hpl : 0 ≤ pl ∧ pl ≤ 1) (hx : ∀ x ∈ xs, 0 ≤ x ∧ x ≤ 5) (h0 : 0 ≤ y0 ∧ y0 ≤ 7) (h1 : 0 ≤ y1 ∧ y1 ≤ 7) : okP k (P : Int) (2 * P) 2 pl xs [y0, y1] = true := by
  obtain ⟨a1, a2⟩ := tot_le hx
  have b1 : posB [y0, y1] = true := by simp [posB, h0.1, h1.1]
  have b2 : tot [y0, y1] = y0 + y1 := by simp [tot]
  rw [hl] at a2
  have e : ((2 * P : Nat) : Int) = 2 * (P : Int) := by omega
  have c : tot xs + tot [y0, y1] ≤ 96 := by
    rw [b2]
    omega
  unfold okP seedB
  simp [hk, a1, b1, c, hpl.1, hpl.2, e]
theorem but9 (z : Nat) (u : World) (x0 x1 x2 x3 x4 x5 x6 x7 x8 : Value) : But z u (((((((((u.setCell ⟨z, 0, none⟩ x0).setCell ⟨z, 1, none⟩ x1).setCell ⟨z, 2, none⟩ x2).setCell ⟨z, 3, none⟩ x3).setCell ⟨z, 4, none⟩ x4).setCell ⟨z, 5, none⟩ x5).setCell ⟨z, 6, none⟩ x6).setCell ⟨z, 7, none⟩ x7).setCell ⟨z, 8, none⟩ x8) :=
  (((((((((But.refl z u).setCell (p := ⟨z, 0, none⟩) rfl _).setCell (p := ⟨z, 1, none⟩) rfl _).setCell (p := ⟨z, 2, none⟩) rfl _).setCell (p := ⟨z, 3, none⟩) rfl _).setCell (p := ⟨z, 4, none⟩) rfl _).setCell (p := ⟨z, 5, none⟩) rfl _).setCell (p := ⟨z, 6, none⟩) rfl _).setCell (p := ⟨z, 7, none⟩) rfl _).setCell (p := ⟨z, 8, none⟩) rfl _
theorem but3 (z : Nat) (u : World) (x0 x1 x2 : Value) : But z u (((u.setCell ⟨z, 0, none⟩ x0).setCell ⟨z, 1, none⟩ x1).setCell ⟨z, 2, none⟩ x2) :=
  (((But.refl z u).setCell (p := ⟨z, 0, none⟩) rfl _).setCell (p := ⟨z, 1, none⟩) rfl _).setCell (p := ⟨z, 2, none⟩) rfl _
theorem RuAt.drew {u : World} {b : Nat} {p s c l : Int} {st sk re fe ag : Bool} (h : RuAt u b p s c l st sk re fe ag) : RuAt u.drew b p s c l st sk re fe ag := h
theorem OnW.but {w u v : World} {z : Nat} (h : OnW w u) (k : But z u v) (hz : w.heap.size ≤ z) : OnW w v := But.below h k hz (Below.size h)
/-- Valid rules and a valid position. -/
def A2P (w : World) (e : Ending) (w' : World) : Prop :=
  ∃ (P : Nat) (s c l : Int) (st sk re fe ag : Bool) (g1 c1 g2 c2 : Nat) (pl : Int) (xs : List Int) (y0 y1 : Int), okR (P : Int) s c l st ag = true ∧ okP (okR (P : Int) s c l st ag) (P : Int) (2 * P) 2 pl xs [y0, y1] = true ∧
    e = .returned (.tuple #[.agg #[.int .i64 P, .int .i64 s, .bool st, .bool sk, .bool re, .bool fe, .bool ag, .int .i64 c, .int .i64 l], .agg #[.slice (some ⟨g1, 0, none⟩) (2 * P) c1, .slice (some ⟨g2, 0, none⟩) 2 c2, .int .i64 pl]]) ∧
    PosO w' w.heap.size (some ⟨g1, 0, none⟩) (some ⟨g2, 0, none⟩) g1 g2 (2 * P) 2 xs [y0, y1] ∧ g1 < w'.heap.size ∧ g2 < w'.heap.size ∧ 2 * P ≤ c1 ∧ 2 ≤ c2 ∧ Below w.heap.size w w'
end Go.Proofs.Ytgogjjkecbgbiaa
