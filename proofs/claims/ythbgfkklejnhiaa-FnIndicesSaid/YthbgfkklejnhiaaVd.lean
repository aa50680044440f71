/- Valid distributions: both sides say alike which ones are. No conditions. -/
import Derived.Test.YthbgfkklejnhiaaCnt
import Derived.Test.YthbgfkklejnhiaaSumO
import Derived.Test.YthbgfkklejnhiaaSeeds
namespace Go.Proofs.Ythbgfkklejnhiaa
open Go.Joins Go.ChangeShapes Go.WideShapes Go.ChangeAt Go.RowKit Go.Deep
set_option linter.unusedVariables false

/-- Numbers, as the program's integers. -/
def vals (ys : List Nat) : List Int := ys.map fun (y : Nat) => (y : Int)
theorem vals_len (ys : List Nat) : (vals ys).length = ys.length := by simp [vals]
theorem vals_tot : ∀ ys : List Nat, tot (vals ys) = (sm ys : Int)
  | [] => rfl
  | y :: ys => by
    show (y : Int) + tot (vals ys) = ((y + sm ys : Nat) : Int)
    rw [vals_tot ys]
    omega
theorem vals_at (ys : List Nat) {k y : Nat} (h : ys[k]? = some y) : (vals ys)[k]? = some (y : Int) := by simp [vals, h]
theorem vals_of : ∀ {xs : List Int}, posB xs = true → ∃ ys, xs = vals ys
  | [], _ => ⟨[], rfl⟩
  | x :: xs, h => by
    have h' := h
    unfold posB at h
    simp only [List.all_cons, Bool.and_eq_true, decide_eq_true_eq] at h
    obtain ⟨ys, e⟩ := vals_of (xs := xs) h.2
    exact ⟨x.toNat :: ys, by subst e; show x :: vals ys = ((x.toNat : Nat) : Int) :: vals ys; rw [Int.toNat_of_nonneg h.1]⟩
theorem posB_vals (ys : List Nat) : posB (vals ys) = true := by
  unfold posB vals
  simp
/-- A list is a distribution that can be numbered. -/
def okD (xs : List Int) : Bool := seedB xs [] && cnK (tot xs) xs.length
structure DisOk (ys : List Nat) (P : Nat) : Prop where
  len : ys.length = P + 1
  p15 : P ≤ 15
  s96 : sm ys ≤ 96
  fit : cnt (sm ys) (P + 1) ≤ 1000000000000000
theorem okD_parts {xs : List Int} (h : okD xs = true) : ∃ ys P, xs = vals ys ∧ DisOk ys P := by
  unfold okD at h
  rw [Bool.and_eq_true] at h
  obtain ⟨h1, -, h2⟩ := seedB_parts h.1
  obtain ⟨ys, rfl⟩ := vals_of h1
  obtain ⟨S, P, e1, e2, h3, h4, h5⟩ := cn_parts h.2
  rw [vals_tot] at e1
  rw [vals_len] at e2
  have e3 : sm ys = S := by omega
  exact ⟨ys, P, rfl, by omega, h4, by omega, by rw [e3]; exact h5⟩
theorem ok_of_dis {ys : List Nat} {P : Nat} (h : DisOk ys P) : okD (vals ys) = true := by
  unfold okD seedB
  rw [posB_vals, vals_tot, vals_len, h.len]
  have := cn_in (S := sm ys) (P := P) h.s96 h.p15
  rw [decide_eq_true h.fit] at this
  rw [show ((P + 1 : Nat) : Int) = (P : Int) + 1 by omega, this]
  have e : decide ((sm ys : Int) + tot [] ≤ 96) = true := by rw [decide_eq_true_eq]; have := h.s96; show (sm ys : Int) + 0 ≤ 96; omega
  rw [e]
  rfl

set_option maxHeartbeats 1000000 in
theorem implVd_any (a : Option Addr) (c n : Nat) (xs : List Int) (w : World) (hn : xs.length = n) (h : RowN w a xs) :
    Calls Try.prog 81 #[.slice a n c] w fun e w' => e = .returned (.bool (okD xs)) ∧ Below w.heap.size w w' := by
  have hl : n ≤ 1000000000000 := by rw [← hn]; exact h.1
  have HS := Lib.hid (fun u : World => fun (hu : Below w.heap.size w u) => seeds_any a none n c 0 0 0 xs [] u ⟨h.below hu, rowN_nil _ _, hn, rfl⟩)
  by_cases hs : seedB xs [] = true
  · obtain ⟨h1, -, h2⟩ := seedB_parts hs
    have ht0 : tot [] = 0 := rfl
    have hsv : seedV (seedB xs []) (tot xs + tot []) = tot xs := by rw [hs]; show tot xs + 0 = _; omega
    have t0 := posB_tot h1
    have hok : okD xs = (cnC (tot xs) n == 0) := by
      unfold okD cnC
      rw [hs, hn]
      cases cnK (tot xs) n <;> rfl
    rw [hok]
    unfold SeedP at HS
    rw [hsv, hs] at HS
    generalize tot xs = t at *
    have HC := Lib.hid (fun u : World => implCnt_any t n u)
    unfold CnP at HC
    clear hok h hs h1 h2 hn hsv
    generalize cnC t n = cd at *
    generalize cnV t n = cv at *
    go_enter Try.func81, Try.ntmps81
    go_wp2_with (first | (go_at_call 90; refine (HS.out _ (Below.refl _ _)).mono ?_; rintro e w' ⟨rfl, hb⟩; have HB := Lib.hid hb; clear hb) | (go_at_call 49; refine (HC.out _).mono ?_; rintro e w' ⟨rfl, hb⟩; have HB := Lib.hid (HB.out.trans (hb.mono HB.out.size)); clear hb))
    all_goals
      go_ret
      exact ⟨rfl, HB.out⟩
  · have hs' : seedB xs [] = false := by simpa using hs
    have hok : okD xs = false := by unfold okD; rw [hs']; rfl
    rw [hok]
    unfold SeedP at HS
    rw [hs'] at HS
    clear hok h hs hs' hn
    go_enter Try.func81, Try.ntmps81
    go_wp2_with (go_at_call 90; refine (HS.out _ (Below.refl _ _)).mono ?_; rintro e w' ⟨rfl, hb⟩; have HB := Lib.hid hb; clear hb)
    go_ret
    exact ⟨rfl, HB.out⟩
end Go.Proofs.Ythbgfkklejnhiaa
