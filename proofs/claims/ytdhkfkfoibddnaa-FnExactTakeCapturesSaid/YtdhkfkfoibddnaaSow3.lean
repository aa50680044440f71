/- What a move that ends leads to: all seeds, the last place, the path. No conditions. -/
import Derived.Test.YtdhkfkfoibddnaaSow2
namespace Go.Proofs.Ytdhkfkfoibddnaa
open Go.Joins Go.ChangeShapes Go.WideShapes Go.ChangeAt Go.RowKit Go.Deep
set_option linter.unusedVariables false

/-- How often the store is among the places. -/
def neg1 : List Int → Int
  | [] => 0
  | y :: r => (if y = -1 then 1 else 0) + neg1 r
theorem neg1_app (l m : List Int) : neg1 (l ++ m) = neg1 l + neg1 m := by
  induction l with
  | nil => simp [neg1]
  | cons y r ih => simp only [List.cons_append, neg1, ih]; omega
theorem neg1_snoc (l : List Int) (y : Int) : neg1 (l ++ [y]) = neg1 l + (if y = -1 then 1 else 0) := by rw [neg1_app]; simp [neg1]
theorem neg1_bd (l : List Int) : 0 ≤ neg1 l ∧ neg1 l ≤ l.length := by
  induction l with
  | nil => simp [neg1]
  | cons y r ih => simp only [neg1, List.length_cons]; split <;> omega
theorem getD_bump {xs : List Int} {i : Int} (h : i.toNat < xs.length) : (bump xs i).getD i.toNat 0 = xs.getD i.toNat 0 + 1 := by
  unfold bump
  simp [List.getD, h]
theorem getD_bump_ne {xs : List Int} {i : Int} {k : Nat} (h : k ≠ i.toNat) : (bump xs i).getD k 0 = xs.getD k 0 := by
  unfold bump
  simp only [List.getD, List.getElem?_set]
  rw [if_neg (fun e => h e.symm)]

section
variable {R : Rl} {xs ys : List Int} {f t : Int}
/-- The other player's place among the stores. -/
def oth (pl : Int) : Nat := (1 - pl).toNat
theorem oth_ne (hR : R.Fit) : oth R.pl ≠ R.pl.toNat := by
  unfold oth
  rcases hR.pl with h | h <;> rw [h] <;> decide
theorem putY_own (hR : R.Fit) (h : ys.length = 2) (y : Int) : (putY R.pl ys y).getD R.pl.toNat 0 = ys.getD R.pl.toNat 0 + (if y = -1 then 1 else 0) := by
  have hp : R.pl.toNat < ys.length := by rcases hR.pl with e | e <;> rw [e, h] <;> decide
  unfold putY
  split
  · exact getD_bump hp
  · omega
theorem putY_oth (hR : R.Fit) (y : Int) : (putY R.pl ys y).getD (oth R.pl) 0 = ys.getD (oth R.pl) 0 := by
  unfold putY
  split
  · exact getD_bump_ne (oth_ne hR)
  · rfl
theorem putY_len (pl y : Int) : (putY pl ys y).length = ys.length := by
  unfold putY
  split
  · exact bump_len _ _
  · rfl
theorem lapY_len (k : Nat) : (lapY R f ys k).length = ys.length := by
  induction k with
  | zero => rfl
  | succ k ih => rw [show lapY R f ys (k + 1) = putY R.pl (lapY R f ys k) (R.at f k) from rfl, putY_len, ih]
theorem lapY_own (hR : R.Fit) (h : ys.length = 2) (k : Nat) : (lapY R f ys k).getD R.pl.toNat 0 = ys.getD R.pl.toNat 0 + neg1 (lapP R f k) := by
  induction k with
  | zero => simp [lapY, lapP, neg1]
  | succ k ih =>
    rw [show lapY R f ys (k + 1) = putY R.pl (lapY R f ys k) (R.at f k) from rfl, putY_own hR (by rw [lapY_len, h]), ih, show lapP R f (k + 1) = lapP R f k ++ [R.at f k] from rfl, neg1_snoc]
    omega
theorem lapY_oth (hR : R.Fit) (k : Nat) : (lapY R f ys k).getD (oth R.pl) 0 = ys.getD (oth R.pl) 0 := by
  induction k with
  | zero => rfl
  | succ k ih => rw [show lapY R f ys (k + 1) = putY R.pl (lapY R f ys k) (R.at f k) from rfl, putY_oth hR, ih]
theorem lapP_mem (hR : R.Fit) (hf0 : 0 ≤ f) (hf1 : f < 2 * R.p) (k : Nat) : ∀ y ∈ lapP R f k, -1 ≤ y ∧ y < 2 * R.p := by
  induction k with
  | zero => intro y hy; cases hy
  | succ k ih =>
    intro y hy
    rcases List.mem_append.1 hy with hy | hy
    · exact ih y hy
    · rw [List.mem_singleton] at hy
      rw [hy]
      exact plc_bd hR.lo hf0 hf1 k
theorem lapP_last (k : Nat) : (lapP R f (k + 1)).getLast? = some (R.at f k) := by simp [lapP]

/-- The last seed's place is not empty. -/
theorem last_cell (hR : R.Fit) {k : Nat} (hb : Brd R (lapX R f xs k) (lapY R f ys k) t) (h0 : -1 ≤ R.at f k) (h1 : R.at f k < 2 * R.p) :
    (R.at f k = -1 → 1 ≤ (lapY R f ys (k + 1)).getD R.pl.toNat 0) ∧ (R.at f k ≠ -1 → 1 ≤ (lapX R f xs (k + 1)).getD (R.at f k).toNat 0) := by
  refine ⟨fun e => ?_, fun e => ?_⟩
  · rw [show lapY R f ys (k + 1) = putY R.pl (lapY R f ys k) (R.at f k) from rfl, putY_own hR hb.ly, if_pos e]
    have := (hb.bd R.pl.toNat).2
    omega
  · rw [show lapX R f xs (k + 1) = putX (lapX R f xs k) (R.at f k) from rfl]
    unfold putX
    rw [if_neg e, getD_bump (by have := hb.lx; omega)]
    have := (hb.bd (R.at f k).toNat).1
    omega

/-- What is known of a move's end. -/
structure Fin (R : Rl) (t : Int) (y0 : List Int) (r : Res) : Prop where
  brd : Brd R r.xs r.ys t
  lo : -1 ≤ r.last
  hi : r.last < 2 * R.p
  st : r.last = -1 → R.st = true
  store : r.last = -1 → 1 ≤ r.ys.getD R.pl.toNat 0
  pit : r.last ≠ -1 → 1 ≤ r.xs.getD r.last.toNat 0
  lst : r.path.getLast? = some r.last
  mem : ∀ y ∈ r.path, -1 ≤ y ∧ y < 2 * R.p
  own : r.ys.getD R.pl.toNat 0 = y0.getD R.pl.toNat 0 + neg1 r.path
  oth : r.ys.getD (oth R.pl) 0 = y0.getD (Proofs.Ytdhkfkfoibddnaa.oth R.pl) 0
  l1 : 1 ≤ r.laps
  l2 : r.laps ≤ 100
  len : r.path.length ≤ 96 * r.laps
/-- What is known before a lap. -/
structure Way (R : Rl) (y0 ys : List Int) (j : Nat) (path : List Int) : Prop where
  mem : ∀ y ∈ path, -1 ≤ y ∧ y < 2 * R.p
  own : ys.getD R.pl.toNat 0 = y0.getD R.pl.toNat 0 + neg1 path
  oth : ys.getD (oth R.pl) 0 = y0.getD (Proofs.Ytdhkfkfoibddnaa.oth R.pl) 0
  len : path.length ≤ 96 * j
theorem Way.next {y0 path : List Int} {j : Nat} (w : Way R y0 ys j path) (h : Lap R xs ys f t) (hR : R.Fit) : Way R y0 (cy R ys f (cnt xs f)) (j + 1) (path ++ lapP R f (cnt xs f)) :=
  ⟨fun y hy => by
    rcases List.mem_append.1 hy with hy | hy
    · exact w.mem y hy
    · exact lapP_mem hR h.f0 h.f1 _ y hy,
   by unfold cy; rw [lapY_own hR h.brd.ly, neg1_app, w.own]; omega,
   by unfold cy; rw [lapY_oth hR, w.oth],
   by rw [List.length_append, lapP_len]; have := w.len; have := h.num_le; omega⟩
theorem lap_fin {y0 path : List Int} {j : Nat} (w : Way R y0 ys j path) (h : Lap R xs ys f t) (hR : R.Fit) (hj : j < 100) :
    Fin R t y0 ⟨cx R xs f (cnt xs f), cy R ys f (cnt xs f), lst R xs f, j + 1, path ++ lapP R f (cnt xs f)⟩ := by
  have wn := w.next h hR
  have hn := h.num_pos
  have hb := h.at_bd hR (cnt xs f - 1)
  have hc := last_cell hR (h.mid hR (cnt xs f - 1)) hb.1 hb.2
  rw [show cnt xs f - 1 + 1 = cnt xs f by omega] at hc
  exact ⟨h.done hR, hb.1, hb.2, fun e => plc_st hR.lo h.f0 h.f1 _ e, hc.1, hc.2, by
    rw [List.getLast?_append, show cnt xs f = (cnt xs f - 1) + 1 by omega, lapP_last]
    rfl, wn.mem, wn.own, wn.oth, by simp, by simp; omega, wn.len⟩
theorem mvF_fin (hR : R.Fit) {y0 : List Int} : ∀ {m : Nat} {xs ys : List Int} {f : Int} {j : Nat} {path : List Int} {r : Res}, Lap R xs ys f t → Way R y0 ys j path → j + m ≤ 100 → mvF R m xs ys f j path = some r → Fin R t y0 r
  | 0, _, _, _, _, _, _, _, _, _, h => by cases h
  | m + 1, xs, ys, f, j, path, r, hl, hw, hj, h => by
    cases ha : agn R xs f
    · rw [mvF_no ha] at h
      cases h
      exact lap_fin hw hl hR (by omega)
    · rw [mvF_yes ha] at h
      exact mvF_fin hR (hl.next hR ha) (hw.next hl hR) (by omega) h
end
/-- Without further laps a move is its first lap. -/
theorem agn_no {R : Rl} (h : R.re = false) (xs : List Int) (f : Int) : agn R xs f = false := by unfold agn; rw [h]; rfl
theorem way_start (R : Rl) (ys : List Int) : Way R ys ys 0 [] := ⟨(fun y hy => by cases hy), by simp [neg1], rfl, by simp⟩
/-- A move that is endless has further laps. -/
theorem mvF_none {R : Rl} {m : Nat} {xs ys : List Int} {f : Int} {j : Nat} {path : List Int} (h : mvF R (m + 1) xs ys f j path = none) : R.re = true := by
  cases hr : R.re
  · rw [mvF_no (agn_no hr xs f)] at h
    cases h
  · rfl
end Go.Proofs.Ytdhkfkfoibddnaa
