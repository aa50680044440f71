/- Sources of choices beside other memory; one of a list's numbers. No conditions. -/
import Derived.Test.YtgogjjkecbgbiaaRowN
import Derived.Test.YtgogjjkecbgbiaaOwn4
import Derived.Test.YtgogjjkecbgbiaaSrc
namespace Go.Proofs.Ytgogjjkecbgbiaa
open Go.Joins Go.ChangeShapes Go.WideShapes Go.ChangeAt Go.RowKit Go.Deep
set_option linter.unusedVariables false

theorem Src.grow {u v : World} {b : Nat} {a : Option Addr} {len cap K B : Nat} {row : Option Nat} (h : Src u b a len cap K) (hg : u.grownBy v row) (hb : b < B) (ha : ∀ c off, a = some ⟨c, off, none⟩ → len = 0 ∨ c < B) (hr : ∀ k, row = some k → B ≤ k) : Src v b a len cap K := by
  obtain ⟨⟨hl, h1⟩, i, n, hi, h⟩ := h
  have e := hg.block b h.lt (fun e => by have := hr b e.symm; omega)
  refine ⟨⟨hl, ?_⟩, i, n, hi, ⟨Nat.lt_of_lt_of_le h.lt hg.size, (World.cell?_of_block (a := ⟨b, 0, none⟩) e).trans h.c0, (World.cell?_of_block (a := ⟨b, 1, none⟩) e).trans h.c1, (World.cell?_of_block (a := ⟨b, 2, none⟩) e).trans h.c2, fun o => (World.frozen?_of_block (a := ⟨b, o, none⟩) e).trans (h.fr o), h.u0, h.u1⟩⟩
  rcases h1 with h1 | ⟨c, off, rfl, hcb, hc, hx⟩
  · exact .inl h1
  · refine .inr ⟨c, off, rfl, hcb, Nat.lt_of_lt_of_le hc hg.size, fun j hj => ?_⟩
    obtain ⟨x, hx1, hx2⟩ := hx j hj
    have e2 := hg.block c hc (fun e => by have := hr c e.symm; have := ha c off rfl; omega)
    exact ⟨x, (World.cell?_of_block (a := ⟨c, off + j, none⟩) e2).trans hx1, hx2⟩
theorem own_butB {w u : World} {B b e n : Nat} {v : Value} {xs : List Value} (h : w.ownsRow B e 1 v n xs) (k : But b w u) (hb : b < B) : u.ownsRow B e 1 v n xs := by
  obtain ⟨h1, h2 | ⟨g, cap, cur, hv, hB, hg, hr⟩⟩ := h
  · exact ⟨h1, .inl h2⟩
  · exact ⟨h1, .inr ⟨g, cap, cur, hv, hB, by rw [k.block g (Array.getElem?_eq_some_iff.1 hg).1 (by omega)]; exact hg, hr⟩⟩
def AmongP (b : Nat) (a : Option Addr) (len cap K : Nat) (xs : List Int) (w : World) (e : Ending) (w' : World) : Prop :=
  ∃ v, v ∈ xs ∧ e = .returned (.int .i64 v) ∧ But b w w' ∧ Src w' b a len cap (K + 2)
set_option maxHeartbeats 1000000 in
theorem among_any (b : Nat) (a : Option Addr) (len cap K d n c : Nat) (xs : List Int) (w : World) (hs : Src w b a len cap K) (hK : K < 999999) (hn : xs.length = n) (h0 : 0 < n) (h1 : n ≤ 1000) (hd : d ≠ b) (hr : RowN w (some ⟨d, 0, none⟩) xs) :
    Calls Try.prog 49 #[.pointer (some ⟨b, 0, none⟩), .slice (some ⟨d, 0, none⟩) n c] w (AmongP b a len cap K xs w) := by
  have HP := Lib.hid (pick_any b a len cap K (n : Int) w hs hK (by omega) (by omega))
  obtain ⟨g, o, e, hg, hx⟩ := hr.2.resolve_left (by intro e; subst e; simp at hn; omega)
  cases e
  have HX := Lib.hid hx
  have HN := Lib.hid hn
  clear hr hx hs hn
  go_enter Try.func49, Try.ntmps49
  go_wp2_with fail
  refine HP.out.mono ?_
  rintro e w1 ⟨v, ⟨v0, v1⟩, rfl, hb1, hs1⟩
  obtain ⟨i, rfl⟩ : ∃ i : Nat, v = (i : Int) := ⟨v.toNat, by omega⟩
  have hi : i < n := by omega
  obtain ⟨x, hm⟩ : ∃ x, xs[i]? = some x := ⟨xs[i]'(by rw [HN.out]; exact hi), List.getElem?_eq_getElem _⟩
  have hcell : w1.cell? ⟨d, i, none⟩ = some (.int .i64 x) := by rw [hb1.cell hg hd, ← Nat.zero_add i]; exact HX.out i x hm
  have Hs1 := Lib.hid hs1
  have HM := Lib.hid hm
  have HB1 := Lib.hid hb1
  clear hs1 hm hb1
  go_wp2_with fail
  go_ret
  exact ⟨x, List.mem_of_getElem? HM.out, rfl, HB1.out, Hs1.out⟩
end Go.Proofs.Ytgogjjkecbgbiaa
