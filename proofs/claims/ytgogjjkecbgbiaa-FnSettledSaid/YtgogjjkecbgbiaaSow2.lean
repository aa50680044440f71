/- Laps and moves as lists of numbers. No conditions. -/
import Derived.Test.YtgogjjkecbgbiaaSow
namespace Go.Proofs.Ytgogjjkecbgbiaa
open Go.Joins Go.ChangeShapes Go.WideShapes Go.ChangeAt Go.RowKit Go.Deep
set_option linter.unusedVariables false

/-- One seed more at a place of a list. -/
def bump (xs : List Int) (i : Int) : List Int := xs.set i.toNat (xs.getD i.toNat 0 + 1)
def putX (xs : List Int) (y : Int) : List Int := if y = -1 then xs else bump xs y
def putY (pl : Int) (ys : List Int) (y : Int) : List Int := if y = -1 then bump ys pl else ys

theorem tot_set : ∀ {xs : List Int} {i : Nat} {v : Int}, i < xs.length → tot (xs.set i v) = tot xs - xs.getD i 0 + v
  | [], _, _, h => by simp at h
  | x :: r, 0, v, _ => by simp [tot]; omega
  | x :: r, i + 1, v, h => by
    have ih := tot_set (xs := r) (i := i) (v := v) (by simpa using h)
    simp only [List.set_cons_succ, tot, ih, List.getD_cons_succ]
    omega
theorem bump_len (xs : List Int) (i : Int) : (bump xs i).length = xs.length := by simp [bump]
theorem tot_bump {xs : List Int} {i : Int} (h : i.toNat < xs.length) : tot (bump xs i) = tot xs + 1 := by
  unfold bump
  rw [tot_set h]
  omega
theorem getD_mem {xs : List Int} {i : Nat} (h : i < xs.length) : xs.getD i 0 ∈ xs := by
  simp [List.getD, List.getElem?_eq_getElem h]
theorem getD_at {xs : List Int} {i : Nat} (h : i < xs.length) : xs[i]? = some (xs.getD i 0) := by
  simp [List.getD, List.getElem?_eq_getElem h]
theorem posB_set {xs : List Int} {i : Nat} {v : Int} (h : posB xs = true) (hv : 0 ≤ v) : posB (xs.set i v) = true := by
  unfold posB at h ⊢
  rw [List.all_eq_true] at h ⊢
  intro x hx
  rcases List.mem_or_eq_of_mem_set hx with hx | rfl
  · exact h x hx
  · simpa using hv
theorem posB_getD {xs : List Int} (h : posB xs = true) (i : Nat) : 0 ≤ xs.getD i 0 := by
  by_cases hi : i < xs.length
  · exact posB_mem h (getD_at hi)
  · simp [List.getD, List.getElem?_eq_none (by omega : xs.length ≤ i)]
theorem posB_bump {xs : List Int} {i : Int} (h : posB xs = true) : posB (bump xs i) = true := posB_set h (by have := posB_getD h i.toNat; omega)
theorem getD_le {xs : List Int} (h : posB xs = true) (i : Nat) : xs.getD i 0 ≤ tot xs := by
  by_cases hi : i < xs.length
  · exact posB_le h _ (getD_mem hi)
  · have := posB_tot h
    simp [List.getD, List.getElem?_eq_none (by omega : xs.length ≤ i)]
    omega

/-- What of the rules sowing goes by, and the player. -/
structure Rl where
  p : Int
  pl : Int
  st : Bool
  sk : Bool
  re : Bool
structure Rl.Fit (R : Rl) : Prop where
  lo : 2 ≤ R.p
  hi : R.p ≤ 8
  pl : R.pl = 0 ∨ R.pl = 1
/-- The place of the k-th seed of a lap from f. -/
def Rl.at (R : Rl) (f : Int) (k : Nat) : Int := plc R.p R.pl R.st R.sk f k
/-- The pits and the stores behind k seeds. -/
def lapX (R : Rl) (f : Int) (xs : List Int) : Nat → List Int
  | 0 => xs
  | k + 1 => putX (lapX R f xs k) (R.at f k)
def lapY (R : Rl) (f : Int) (ys : List Int) : Nat → List Int
  | 0 => ys
  | k + 1 => putY R.pl (lapY R f ys k) (R.at f k)
/-- The places of the first k seeds. -/
def lapP (R : Rl) (f : Int) : Nat → List Int
  | 0 => []
  | k + 1 => lapP R f k ++ [R.at f k]
theorem lapP_len (R : Rl) (f : Int) (k : Nat) : (lapP R f k).length = k := by
  induction k with
  | zero => rfl
  | succ k ih => simp [lapP, ih]

/-- Pits and stores that a move may lead to, all seeds being t. -/
structure Brd (R : Rl) (xs ys : List Int) (t : Int) : Prop where
  lx : (xs.length : Int) = 2 * R.p
  ly : ys.length = 2
  px : posB xs = true
  py : posB ys = true
  tot : tot xs + tot ys = t
theorem Brd.put {R : Rl} (hR : R.Fit) {xs ys : List Int} {t : Int} (h : Brd R xs ys t) {y : Int} (h0 : -1 ≤ y) (h1 : y < 2 * R.p) : Brd R (putX xs y) (putY R.pl ys y) (t + 1) := by
  obtain ⟨lx, ly, px, py, ht⟩ := h
  unfold putX putY
  by_cases e : y = -1
  · rw [if_pos e, if_pos e]
    have hp : R.pl.toNat < ys.length := by rcases hR.pl with h | h <;> rw [h, ly] <;> decide
    exact ⟨lx, by rw [bump_len, ly], px, posB_bump py, by rw [tot_bump hp]; omega⟩
  · rw [if_neg e, if_neg e]
    exact ⟨by rw [bump_len, lx], ly, posB_bump px, py, by rw [tot_bump (by omega)]; omega⟩
theorem Brd.lap {R : Rl} (hR : R.Fit) {xs ys : List Int} {t : Int} (h : Brd R xs ys t) {f : Int} (hf0 : 0 ≤ f) (hf1 : f < 2 * R.p) (k : Nat) : Brd R (lapX R f xs k) (lapY R f ys k) (t + k) := by
  induction k with
  | zero => simpa [lapX, lapY] using h
  | succ k ih =>
    have hb := plc_bd (pl := R.pl) (st := R.st) (sk := R.sk) hR.lo hf0 hf1 k
    have := ih.put hR hb.1 hb.2
    have e : t + ((k + 1 : Nat) : Int) = t + k + 1 := by omega
    rw [e]
    exact this
/-- A pit is emptied. -/
theorem Brd.take {R : Rl} {xs ys : List Int} {t : Int} (h : Brd R xs ys t) {f : Int} (hf0 : 0 ≤ f) (hf1 : f < 2 * R.p) : Brd R (xs.set f.toNat 0) ys (t - xs.getD f.toNat 0) :=
  ⟨by rw [List.length_set]; exact h.lx, h.ly, posB_set h.px (by omega), h.py, by have := h.lx; rw [tot_set (by omega)]; have := h.tot; omega⟩
theorem Brd.bd {R : Rl} {xs ys : List Int} {t : Int} (h : Brd R xs ys t) (i : Nat) : (0 ≤ xs.getD i 0 ∧ xs.getD i 0 ≤ t) ∧ (0 ≤ ys.getD i 0 ∧ ys.getD i 0 ≤ t) := by
  have h1 := posB_getD h.px i
  have h2 := posB_getD h.py i
  have h3 := getD_le h.px i
  have h4 := getD_le h.py i
  have h5 := posB_tot h.px
  have h6 := posB_tot h.py
  have h7 := h.tot
  omega

/-- Before a lap: the pit f is not empty. -/
structure Lap (R : Rl) (xs ys : List Int) (f t : Int) : Prop where
  brd : Brd R xs ys t
  f0 : 0 ≤ f
  f1 : f < 2 * R.p
  ne : 1 ≤ xs.getD f.toNat 0
  hi : t ≤ 96
/-- The number of the lap's seeds. -/
def cnt (xs : List Int) (f : Int) : Nat := (xs.getD f.toNat 0).toNat
def x0 (xs : List Int) (f : Int) : List Int := xs.set f.toNat 0
/-- Pits, stores behind i seeds of the lap. -/
def cx (R : Rl) (xs : List Int) (f : Int) (i : Nat) : List Int := lapX R f (x0 xs f) i
def cy (R : Rl) (ys : List Int) (f : Int) (i : Nat) : List Int := lapY R f ys i
section
variable {R : Rl} {xs ys : List Int} {f t : Int}
theorem Lap.num (h : Lap R xs ys f t) : (cnt xs f : Int) = xs.getD f.toNat 0 := by have := h.ne; unfold cnt; omega
theorem Lap.num_pos (h : Lap R xs ys f t) : 1 ≤ cnt xs f := by have := h.ne; unfold cnt; omega
theorem Lap.num_le (h : Lap R xs ys f t) : cnt xs f ≤ 96 := by have := h.num; have := (h.brd.bd f.toNat).1.2; have := h.hi; omega
theorem Lap.at_bd (h : Lap R xs ys f t) (hR : R.Fit) (i : Nat) : -1 ≤ R.at f i ∧ R.at f i < 2 * R.p := plc_bd hR.lo h.f0 h.f1 i
theorem Lap.mid (h : Lap R xs ys f t) (hR : R.Fit) (i : Nat) : Brd R (cx R xs f i) (cy R ys f i) (t - cnt xs f + i) := by
  have := (h.brd.take h.f0 h.f1).lap hR h.f0 h.f1 i
  rw [← h.num] at this
  exact this
theorem Lap.done (h : Lap R xs ys f t) (hR : R.Fit) : Brd R (cx R xs f (cnt xs f)) (cy R ys f (cnt xs f)) t := by
  have := h.mid hR (cnt xs f)
  rwa [show t - (cnt xs f : Int) + (cnt xs f : Nat) = t by omega] at this
end
/-- The place of the lap's last seed. -/
def lst (R : Rl) (xs : List Int) (f : Int) : Int := R.at f (cnt xs f - 1)
/-- A further lap begins. -/
def agn (R : Rl) (xs : List Int) (f : Int) : Bool := R.re && (decide (lst R xs f ≠ -1) && decide (1 < (cx R xs f (cnt xs f)).getD (lst R xs f).toNat 0))
theorem Lap.next {R : Rl} {xs ys : List Int} {f t : Int} (h : Lap R xs ys f t) (hR : R.Fit) (ha : agn R xs f = true) : Lap R (cx R xs f (cnt xs f)) (cy R ys f (cnt xs f)) (lst R xs f) t := by
  unfold agn at ha
  simp only [Bool.and_eq_true, decide_eq_true_eq] at ha
  have hb := h.at_bd hR (cnt xs f - 1)
  have h1 := ha.2.1
  have h2 := ha.2.2
  exact ⟨h.done hR, by unfold lst at *; omega, hb.2, by omega, h.hi⟩

/-- What a move leads to. -/
structure Res where
  xs : List Int
  ys : List Int
  last : Int
  laps : Nat
  path : List Int
/-- A move that has still m laps; none: it is endless. -/
def mvF (R : Rl) : Nat → List Int → List Int → Int → Nat → List Int → Option Res
  | 0, _, _, _, _, _ => none
  | m + 1, xs, ys, f, j, path =>
    if agn R xs f = true then mvF R m (cx R xs f (cnt xs f)) (cy R ys f (cnt xs f)) (lst R xs f) (j + 1) (path ++ lapP R f (cnt xs f))
    else some ⟨cx R xs f (cnt xs f), cy R ys f (cnt xs f), lst R xs f, j + 1, path ++ lapP R f (cnt xs f)⟩
theorem mvF_yes {R : Rl} {m : Nat} {xs ys : List Int} {f : Int} {j : Nat} {path : List Int} (h : agn R xs f = true) :
    mvF R (m + 1) xs ys f j path = mvF R m (cx R xs f (cnt xs f)) (cy R ys f (cnt xs f)) (lst R xs f) (j + 1) (path ++ lapP R f (cnt xs f)) := if_pos h
theorem mvF_no {R : Rl} {m : Nat} {xs ys : List Int} {f : Int} {j : Nat} {path : List Int} (h : agn R xs f = false) :
    mvF R (m + 1) xs ys f j path = some ⟨cx R xs f (cnt xs f), cy R ys f (cnt xs f), lst R xs f, j + 1, path ++ lapP R f (cnt xs f)⟩ := if_neg (by rw [h]; exact Bool.false_ne_true)
end Go.Proofs.Ytgogjjkecbgbiaa
