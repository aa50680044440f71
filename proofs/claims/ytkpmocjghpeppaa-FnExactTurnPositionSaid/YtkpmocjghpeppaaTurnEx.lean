/- TurnPosition: what both give. No conditions. -/
import Derived.Test.YtkpmocjghpeppaaITurn4
namespace Go.Proofs.Ytkpmocjghpeppaa
open Go.Joins Go.ChangeShapes Go.WideShapes Go.ChangeAt Go.RowKit Go.Deep
set_option linter.unusedVariables false

theorem turn_ex (p s c l : Int) (st sk re fe ag : Bool) (pn1 pn2 : Nat) (pp : Int) (xs ys : List Int) (l1 : xs.length = pn1) (l2 : ys.length = pn2) :
    ∃ (m1 m2 : Nat) (pl cd : Int) (us vs : List Int), m1 ≤ 10000000 ∧ m2 ≤ 10000000 ∧
      (∀ (g1 g2 : Nat) (w : World), PosR w (some ⟨g1, 0, none⟩) (some ⟨g2, 0, none⟩) pn1 pn2 xs ys → Calls Try.prog 44 #[.agg #[.int .i64 p, .int .i64 s, .bool st, .bool sk, .bool re, .bool fe, .bool ag, .int .i64 c, .int .i64 l], .agg #[.slice (some ⟨g1, 0, none⟩) pn1 pn1, .slice (some ⟨g2, 0, none⟩) pn2 pn2, .int .i64 pp]] w (PosZ m1 m2 pl cd us vs w)) ∧
      (∀ (g1 g2 : Nat) (w : World), PosR w (some ⟨g1, 0, none⟩) (some ⟨g2, 0, none⟩) pn1 pn2 xs ys → Calls Try.prog 45 #[.agg #[.int .i64 p, .int .i64 s, .bool st, .bool sk, .bool re, .bool fe, .bool ag, .int .i64 c, .int .i64 l], .agg #[.slice (some ⟨g1, 0, none⟩) pn1 pn1, .slice (some ⟨g2, 0, none⟩) pn2 pn2, .int .i64 pp]] w (PosZ m1 m2 pl cd us vs w)) := by
  cases hk : okP (okR p s c l st ag) p pn1 pn2 pp xs ys
  · exact ⟨0, 0, 0, 1, [], [], by omega, by omega, fun g1 g2 w h => specTurn_no p s c l st sk re fe ag _ _ _ _ _ _ _ _ _ w h hk, fun g1 g2 w h => implTurn_no p s c l st sk re fe ag _ _ _ _ _ _ _ _ _ w h hk⟩
  · obtain ⟨hok, hn1, hn2, hpl, hs⟩ := okP_parts hk
    obtain ⟨hp1, hp2, -⟩ := okR_bd hok
    obtain ⟨P, rfl⟩ : ∃ P : Nat, p = (P : Int) := ⟨p.toNat, by omega⟩
    have e1 : pn1 = 2 * P := by omega
    have e2 : pn2 = 2 := by omega
    subst e1
    subst e2
    obtain ⟨y0, y1, rfl⟩ := two_of l2
    exact ⟨2 * P, 2, 1 - pp, 0, turnL P xs, [y1, y0], by omega, by omega, fun g1 g2 w h => specTurn_yes P s c l st sk re fe ag _ _ _ _ _ _ _ xs y0 y1 w h (by omega) (by omega) rfl rfl (Nat.le_refl _) (by omega) (by omega) hk,
      fun g1 g2 w h => implTurn_yes P s c l st sk re fe ag g1 0 g2 0 _ _ pp xs y0 y1 w h (by omega) (by omega) (Nat.le_refl _) (by omega) (by omega) hk⟩
end Go.Proofs.Ytkpmocjghpeppaa
