/- Cap6, Ch2Pit, LawB4, Wat, WatS, BoxC, VS6, VS7, Cap7, Cap8, Cap9, Cap10, Cap11, Cap12, Cap13, RefC, one after the other (what the laws reach of them). No conditions. -/
import Derived.Test.YtdhkfkfoibddnaaMov5
import Derived.Laws.EntriesVeiled
namespace Go.Proofs.Ytdhkfkfoibddnaa
open Go.Joins Go.ChangeShapes Go.WideShapes Go.ChangeAt Go.RowKit Go.Deep
set_option linter.unusedVariables false
set_option maxHeartbeats 8000000
set_option maxRecDepth 100000
/- Cap6 -/
def ownB (p pl k : Int) : Bool := decide (pl * p ≤ k) && decide (k < (pl + 1) * p)
theorem own_div {p pl k : Int} (hp : 2 ≤ p) (h0 : 0 ≤ k) (h1 : k < 2 * p) (hpl : pl = 0 ∨ pl = 1) : (k / p = pl) ↔ ownB p pl k = true := by
 have e : k / p = if k < p then 0 else 1 := by
  by_cases h : k < p
  ·rw [if_pos h, Int.ediv_eq_zero_of_lt h0 h]
  ·rw [if_neg h]
   have e2 : k = (k - p) + p * 1 := by omega
   rw [e2, Int.add_mul_ediv_left _ _ (by omega), Int.ediv_eq_zero_of_lt (by omega) (by omega)]
   rfl
 rw [e]
 unfold ownB
 rcases hpl with rfl | rfl <;> split <;> simp <;> omega
theorem own_other {p pl k : Int} (hp : 2 ≤ p) (h0 : 0 ≤ k) (h1 : k < 2 * p) (hpl : pl = 0 ∨ pl = 1) : ownB p (1 - pl) k = !(ownB p pl k) := by
 unfold ownB
 rcases hpl with rfl | rfl
 ·by_cases h : k < p
  ·have e1 : decide ((1 - 0) * p ≤ k) = false := by simp; omega
   have e2 : decide (0 * p ≤ k) = true := by simp; omega
   have e3 : decide (k < (0 + 1) * p) = true := by simp; omega
   rw [e1, e2, e3]; rfl
  ·have e1 : decide ((1 - 0) * p ≤ k) = true := by simp; omega
   have e2 : decide (k < (1 - 0 + 1) * p) = true := by simp; omega
   have e3 : decide (k < (0 + 1) * p) = false := by simp; omega
   rw [e1, e2, e3]; simp
 ·by_cases h : k < p
  ·have e1 : decide ((1 - 1) * p ≤ k) = true := by simp; omega
   have e2 : decide (k < (1 - 1 + 1) * p) = true := by simp; omega
   have e3 : decide (1 * p ≤ k) = false := by simp; omega
   rw [e1, e2, e3]; simp
  ·have e1 : decide (k < (1 - 1 + 1) * p) = false := by simp; omega
   have e2 : decide (1 * p ≤ k) = true := by simp; omega
   have e3 : decide (k < (1 + 1) * p) = true := by simp; omega
   rw [e1, e2, e3]; simp
def vAt (xs : List Int) (k : Int) : Int := xs.getD k.toNat 0
theorem vAt_cell {xs : List Int} {k : Int} (h0 : 0 ≤ k) (h1 : k < xs.length) : xs[k.toNat]? = some (vAt xs k) := by
 unfold vAt
 rw [List.getD_eq_getElem?_getD, List.getElem?_eq_getElem (by omega)]
 rfl
theorem vAt_bd {xs : List Int} (h : posB xs = true) (ht : tot xs ≤ 96) (k : Int) : 0 ≤ vAt xs k ∧ vAt xs k ≤ 96 := by
 unfold vAt
 rw [List.getD_eq_getElem?_getD]
 cases e : xs[k.toNat]? with
 | none => simp
 | some x =>
  have h1 := posB_mem h e
  have h2 := posB_le h x (List.mem_of_getElem? e)
  simp
  omega
def twF (p pl : Int) (xs : List Int) : Nat → List Int
 | 0 => []
 | k + 1 => if ownB p (1 - pl) k && (decide (vAt xs k = 2) || decide (vAt xs k = 3)) then (k : Int) :: twF p pl xs k else []
theorem tw_no {p pl : Int} {xs : List Int} {k : Nat} (h : (ownB p (1 - pl) k && (decide (vAt xs k = 2) || decide (vAt xs k = 3))) = false) : twF p pl xs (k + 1) = [] := by
 unfold twF
 rw [h]
 rfl
theorem tw_yes {p pl : Int} {xs : List Int} {k : Nat} (h : (ownB p (1 - pl) k && (decide (vAt xs k = 2) || decide (vAt xs k = 3))) = true) : twF p pl xs (k + 1) = (k : Int) :: twF p pl xs k := by
 rw [twF, h]
 rfl
theorem tw_in (p pl : Int) (xs : List Int) : ∀ n k, k ∈ twF p pl xs n → 0 ≤ k ∧ k < (n : Int)
 | 0, k, h => by cases h
 | n + 1, k, h => by
  unfold twF at h
  split at h
  ·rcases List.mem_cons.1 h with rfl | h
   ·omega
   ·have := tw_in p pl xs n k h
    omega
  ·cases h
theorem tw_nodup (p pl : Int) (xs : List Int) : ∀ n, (twF p pl xs n).Nodup
 | 0 => List.nodup_nil
 | n + 1 => by
  unfold twF
  split
  ·refine List.nodup_cons.2 ⟨fun h => ?_, tw_nodup p pl xs n⟩
   have := tw_in p pl xs n _ h
   omega
  ·exact List.nodup_nil
theorem tw_len (p pl : Int) (xs : List Int) : ∀ n, (twF p pl xs n).length ≤ n
 | 0 => Nat.le_refl _
 | n + 1 => by
  unfold twF
  split
  ·have := tw_len p pl xs n
   simp only [List.length_cons]
   omega
  ·exact Nat.zero_le _
def rawF (cp p pl la : Int) (xs : List Int) : List Int :=
 if la < 0 then [] else
 if cp = 1 then twF p pl xs (la.toNat + 1) else
 if cp = 2 then (if ownB p pl la && decide (vAt xs la = 1) && decide (0 < vAt xs (2 * p - 1 - la)) then [la, 2 * p - 1 - la] else []) else
 if cp = 3 then (if ownB p (1 - pl) la && decide (vAt xs la % 2 = 0) then [la] else []) else []
theorem raw_in {cp p pl la : Int} {xs : List Int} (h : la < 2 * p) : ∀ k ∈ rawF cp p pl la xs, 0 ≤ k ∧ k < 2 * p := by
 unfold rawF
 intro k hk
 split at hk
 ·cases hk
 ·split at hk
  ·have := tw_in _ _ _ _ _ hk
   omega
  ·split at hk
   ·split at hk
    ·rcases List.mem_cons.1 hk with rfl | hk
     ·omega
     ·rcases List.mem_cons.1 hk with rfl | hk
      ·omega
      ·cases hk
    ·cases hk
   ·split at hk
    ·split at hk
     ·rcases List.mem_cons.1 hk with rfl | hk
      ·omega
      ·cases hk
     ·cases hk
    ·cases hk
theorem raw_nodup (cp p pl la : Int) (xs : List Int) : (rawF cp p pl la xs).Nodup := by
 unfold rawF
 split
 ·exact List.nodup_nil
 ·split
  ·exact tw_nodup _ _ _ _
  ·split
   ·split
    ·refine List.nodup_cons.2 ⟨fun h => ?_, List.nodup_cons.2 ⟨(fun h => by cases h), List.nodup_nil⟩⟩
     rcases List.mem_cons.1 h with h | h
     ·omega
     ·cases h
    ·exact List.nodup_nil
   ·split
    ·split
     ·exact List.nodup_cons.2 ⟨(fun h => by cases h), List.nodup_nil⟩
     ·exact List.nodup_nil
    ·exact List.nodup_nil
theorem raw_len {cp p pl la : Int} {xs : List Int} (hp : p ≤ 8) (hp2 : 2 ≤ p) (h : la < 2 * p) : (rawF cp p pl la xs).length ≤ 16 := by
 unfold rawF
 split
 ·simp
 ·split
  ·have := tw_len p pl xs (la.toNat + 1)
   omega
  ·split
   ·split <;> simp
   ·split
    ·split <;> simp
    ·simp
def sumAt (xs L : List Int) : Int := tot (L.map (vAt xs))
theorem sumAt_snoc (xs L : List Int) (k : Int) : sumAt xs (L ++ [k]) = sumAt xs L + vAt xs k := by
 unfold sumAt
 rw [List.map_append, tot_app]
 simp [tot]
theorem sumAt_bd {xs : List Int} (h : posB xs = true) (ht : tot xs ≤ 96) (L : List Int) : 0 ≤ sumAt xs L ∧ sumAt xs L ≤ 96 * L.length := by
 unfold sumAt
 induction L with
 | nil => simp [tot]
 | cons k r ih =>
  have := vAt_bd h ht k
  simp only [List.map_cons, tot, List.length_cons]
  omega
def takenF (p pl : Int) (xs L : List Int) : Int := sumAt xs (L.filter (ownB p (1 - pl)))
theorem taken_snoc (p pl : Int) (xs L : List Int) (k : Int) : takenF p pl xs (L ++ [k]) = takenF p pl xs L + (if ownB p (1 - pl) k then vAt xs k else 0) := by
 unfold takenF
 rw [List.filter_append]
 by_cases h : ownB p (1 - pl) k = true
 ·rw [if_pos h]
  have e : List.filter (ownB p (1 - pl)) [k] = [k] := by simp [h]
  rw [e, sumAt_snoc]
 ·rw [if_neg h]
  have e : List.filter (ownB p (1 - pl)) [k] = [] := by simp [h]
  rw [e, List.append_nil]
  omega
theorem taken_bd {xs : List Int} (h : posB xs = true) (ht : tot xs ≤ 96) (p pl : Int) (L : List Int) : 0 ≤ takenF p pl xs L ∧ takenF p pl xs L ≤ 96 * L.length := by
 have h1 := sumAt_bd h ht (L.filter (ownB p (1 - pl)))
 have h2 := List.length_filter_le (ownB p (1 - pl)) L
 unfold takenF
 omega
def slamB (p pl : Int) (xs L : List Int) : Bool := decide (0 < takenF p pl xs L) && decide (takenF p pl xs L = tot (halfL xs p.toNat (1 - pl)))
def slamF (cp p pl la : Int) (xs : List Int) : Bool := slamB p pl xs (rawF cp p pl la xs)
def pitsF (cp sl p pl la : Int) (xs : List Int) : List Int := if decide (sl = 2) && slamF cp p pl la xs then [] else rawF cp p pl la xs
theorem pits_sub (cp sl p pl la : Int) (xs : List Int) : pitsF cp sl p pl la xs = [] ∨ pitsF cp sl p pl la xs = rawF cp p pl la xs := by
 unfold pitsF
 split
 ·exact .inl rfl
 ·exact .inr rfl
theorem pits_in {cp sl p pl la : Int} {xs : List Int} (h : la < 2 * p) : ∀ k ∈ pitsF cp sl p pl la xs, 0 ≤ k ∧ k < 2 * p := by
 rcases pits_sub cp sl p pl la xs with e | e
 ·rw [e]; intro k hk; cases hk
 ·rw [e]; exact raw_in h
theorem pits_nodup (cp sl p pl la : Int) (xs : List Int) : (pitsF cp sl p pl la xs).Nodup := by
 rcases pits_sub cp sl p pl la xs with e | e
 ·rw [e]; exact List.nodup_nil
 ·rw [e]; exact raw_nodup _ _ _ _ _
theorem pits_len {cp sl p pl la : Int} {xs : List Int} (hp : p ≤ 8) (hp2 : 2 ≤ p) (h : la < 2 * p) : (pitsF cp sl p pl la xs).length ≤ 16 := by
 rcases pits_sub cp sl p pl la xs with e | e
 ·rw [e]; simp
 ·rw [e]; exact raw_len hp hp2 h
def zeroAt (xs : List Int) : List Int → List Int
 | [] => xs
 | k :: r => zeroAt (xs.set k.toNat 0) r
theorem zero_snoc (L : List Int) (k : Int) : ∀ xs, zeroAt xs (L ++ [k]) = (zeroAt xs L).set k.toNat 0 := by
 induction L with
 | nil => intro xs; rfl
 | cons j r ih => intro xs; exact ih _
theorem zero_len (L : List Int) : ∀ xs, (zeroAt xs L).length = xs.length := by
 induction L with
 | nil => intro xs; rfl
 | cons j r ih => intro xs; rw [zeroAt, ih, List.length_set]
theorem zero_else {j : Int} (hj : 0 ≤ j) : ∀ (L xs : List Int), (∀ k ∈ L, 0 ≤ k) → j ∉ L → vAt (zeroAt xs L) j = vAt xs j
 | [], xs, _, _ => rfl
 | k :: r, xs, h0, h => by
  have h1 : j ≠ k := fun e => h (e ▸ List.mem_cons_self)
  have h2 := h0 k List.mem_cons_self
  rw [zeroAt, zero_else hj r _ (fun x hx => h0 x (List.mem_cons_of_mem _ hx)) (fun hm => h (List.mem_cons_of_mem _ hm))]
  unfold vAt
  rw [List.getD_eq_getElem?_getD, List.getD_eq_getElem?_getD, List.getElem?_set_ne (by omega)]
def lastB (st : Bool) (p pl la : Int) (xs ys : List Int) : Bool :=
 if la = -1 then st && decide (0 < vAt ys pl) else (decide (0 ≤ la) && decide (la ≤ 2 * p - 1)) && decide (0 < vAt xs la)
def okS (k : Bool) (p : Int) (st : Bool) (n1 n2 : Nat) (la lp pl : Int) (xs ys : List Int) : Bool :=
 okP k p n1 n2 pl xs ys && (decide (1 ≤ lp) && decide (lp ≤ 100)) && lastB st p pl la xs ys
theorem okS_parts {k : Bool} {p : Int} {st : Bool} {n1 n2 : Nat} {la lp pl : Int} {xs ys : List Int} (h : okS k p st n1 n2 la lp pl xs ys = true) :
  okP k p n1 n2 pl xs ys = true ∧ (1 ≤ lp ∧ lp ≤ 100) ∧ lastB st p pl la xs ys = true := by
 unfold okS at h
 simp only [Bool.and_eq_true, decide_eq_true_eq] at h
 exact ⟨h.1.1, h.1.2, h.2⟩
theorem last_bd {st : Bool} {p pl la : Int} {xs ys : List Int} (hp : 2 ≤ p) (h : lastB st p pl la xs ys = true) : -1 ≤ la ∧ la < 2 * p := by
 unfold lastB at h
 split at h
 ·omega
 ·simp only [Bool.and_eq_true, decide_eq_true_eq] at h
  omega
/- Ch2Pit -/
open Go.ChangeMaps (open_string shut_string)
def pitV (k v : Int) : Int := if k = 0 then v else 0
theorem impl_opposite (p s c l : Int) (st sk re fe ag : Bool) (pit : Int) (w : World) :
  Calls Try.prog 109 #[.agg #[.int .i64 p, .int .i64 s, .bool st, .bool sk, .bool re, .bool fe, .bool ag, .int .i64 c, .int .i64 l], .int .i64 pit] w fun e w' => e = .returned (.tuple #[.int .i64 (pitV (pitC (okR p s c l st ag) p pit) (2 * p - 1 - pit)), .int .i64 (pitC (okR p s c l st ag) p pit)]) ∧ Below w.heap.size w w' := by
 rcases pit_cases (okR p s c l st ag) p pit with ⟨hok, hc⟩ | ⟨hok, hout, hc⟩ | ⟨hok, h0, h1, hc⟩
 ·have Hc := Lib.hid hc
  clear hok hc
  go_enter Try.func109, Try.ntmps109
  go_wp2_with (go_at_call 112; refine (checkPit_any p s c l st sk re fe ag _ _).mono ?_; rintro e w1 ⟨rfl, hb1⟩; obtain ⟨hc1, hf1⟩ := bcell hb1; have hs1 := hb1.size; (try simp at hs1); (try have hz1 : w.heap.size < w1.heap.size := by omega); (try have hy1 : w.heap.size + 1 < w1.heap.size := by omega); (try have hx1 := fun o => hc1 w.heap.size o (by first | omega | (simp; done) | (simp; omega))); (try have hv1 := fun o => hc1 (w.heap.size + 1) o (by first | omega | (simp; done) | (simp; omega))); rw [Hc.out])
  go_ret2
  exact ⟨by rw [Hc.out]; rfl, (by repeat (first | exact Below.refl _ _ | assumption | (refine Below.drew ?_) | (refine Below.setCell ?_ (by first | omega | (simp; done) | (simp; omega)) _) | (refine Below.alloc ?_ (by first | omega | (simp; done) | (simp; omega)) _) | (refine Below.trans ?_ (Below.mono (by assumption) (by first | omega | (simp; done) | (simp; omega))))))⟩
 ·have Hc := Lib.hid hc
  clear hok hc
  go_enter Try.func109, Try.ntmps109
  go_wp2_with (go_at_call 112; refine (checkPit_any p s c l st sk re fe ag _ _).mono ?_; rintro e w1 ⟨rfl, hb1⟩; obtain ⟨hc1, hf1⟩ := bcell hb1; have hs1 := hb1.size; (try simp at hs1); (try have hz1 : w.heap.size < w1.heap.size := by omega); (try have hy1 : w.heap.size + 1 < w1.heap.size := by omega); (try have hx1 := fun o => hc1 w.heap.size o (by first | omega | (simp; done) | (simp; omega))); (try have hv1 := fun o => hc1 (w.heap.size + 1) o (by first | omega | (simp; done) | (simp; omega))); rw [Hc.out])
  go_ret2
  exact ⟨by rw [Hc.out]; rfl, (by repeat (first | exact Below.refl _ _ | assumption | (refine Below.drew ?_) | (refine Below.setCell ?_ (by first | omega | (simp; done) | (simp; omega)) _) | (refine Below.alloc ?_ (by first | omega | (simp; done) | (simp; omega)) _) | (refine Below.trans ?_ (Below.mono (by assumption) (by first | omega | (simp; done) | (simp; omega))))))⟩
 ·have hbd := okR_bd hok
  have Hc := Lib.hid hc
  clear hok hc
  go_enter Try.func109, Try.ntmps109
  go_wp2_with (first | (go_at_call 112; refine (checkPit_any p s c l st sk re fe ag _ _).mono ?_; rintro e w1 ⟨rfl, hb1⟩; obtain ⟨hc1, hf1⟩ := bcell hb1; have hs1 := hb1.size; (try simp at hs1); (try have hz1 : w.heap.size < w1.heap.size := by omega); (try have hy1 : w.heap.size + 1 < w1.heap.size := by omega); (try have hx1 := fun o => hc1 w.heap.size o (by first | omega | (simp; done) | (simp; omega))); (try have hv1 := fun o => hc1 (w.heap.size + 1) o (by first | omega | (simp; done) | (simp; omega))); rw [Hc.out]) | (go_at_call 81; refine (board_any p s c l st sk re fe ag (by unfold I64; omega) _).mono ?_; rintro e w2 ⟨rfl, hb2⟩; obtain ⟨hc2, hf2⟩ := bcell hb2; have hs2 := hb2.size; (try simp at hs2); (try have hz2 : w.heap.size < w2.heap.size := by omega); (try have hy2 : w.heap.size + 1 < w2.heap.size := by omega); (try have hx2 := fun o => hc2 w.heap.size o (by first | omega | (simp; done) | (simp; omega))); (try have hv2 := fun o => hc2 (w.heap.size + 1) o (by first | omega | (simp; done) | (simp; omega))); (try have hq21 : w1.heap.size < w2.heap.size := by omega)))
  go_ret2
  exact ⟨by rw [Hc.out]; rfl, (by repeat (first | exact Below.refl _ _ | assumption | (refine Below.drew ?_) | (refine Below.setCell ?_ (by first | omega | (simp; done) | (simp; omega)) _) | (refine Below.alloc ?_ (by first | omega | (simp; done) | (simp; omega)) _) | (refine Below.trans ?_ (Below.mono (by assumption) (by first | omega | (simp; done) | (simp; omega))))))⟩
/- LawB4 -/
def RpxAt (w : World) (p s c l : Int) (st sk re fe ag : Bool) (p1 p2 : Option Addr) (pn1 pc1 pn2 pc2 : Nat) (pp : Int) (xs ys : List Int) (d : Nat) (x1 x2 : Option Addr) (xn1 xc1 xn2 xc2 : Nat) (xp : Int) (u : World) : Prop := RuAt u w.heap.size p s c l st sk re fe ag ∧ PoAt u (w.heap.size + 1) p1 p2 pn1 pc1 pn2 pc2 pp ∧ PoAt u d x1 x2 xn1 xc1 xn2 xc2 xp ∧ PosR u x1 x2 xn1 xn2 xs ys ∧ Below w.heap.size w u
section
variable {w u v : World} {p s c l : Int} {st sk re fe ag : Bool} {p1 p2 : Option Addr} {pn1 pc1 pn2 pc2 : Nat} {pp : Int} {d : Nat} {x1 x2 : Option Addr} {xn1 xc1 xn2 xc2 : Nat} {xp : Int} {xs ys : List Int}
theorem RpxAt.below (h : RpxAt w p s c l st sk re fe ag p1 p2 pn1 pc1 pn2 pc2 pp xs ys d x1 x2 xn1 xc1 xn2 xc2 xp u) (k : Below u.heap.size u v) : RpxAt w p s c l st sk re fe ag p1 p2 pn1 pc1 pn2 pc2 pp xs ys d x1 x2 xn1 xc1 xn2 xc2 xp v := ⟨h.1.below k, h.2.1.below k, h.2.2.1.below k, h.2.2.2.1.below k, h.2.2.2.2.trans (k.mono h.2.2.2.2.size)⟩
theorem RpxAt.drew (h : RpxAt w p s c l st sk re fe ag p1 p2 pn1 pc1 pn2 pc2 pp xs ys d x1 x2 xn1 xc1 xn2 xc2 xp u) : RpxAt w p s c l st sk re fe ag p1 p2 pn1 pc1 pn2 pc2 pp xs ys d x1 x2 xn1 xc1 xn2 xc2 xp u.drew := ⟨h.1, h.2.1, h.2.2.1, h.2.2.2.1.drewN 1, h.2.2.2.2.drew⟩
end
theorem rpx_new {w u : World} (p s c l : Int) (st sk re fe ag : Bool) (p1 p2 : Option Addr) (pn1 pc1 pn2 pc2 : Nat) (pp : Int) (xs ys : List Int) (x1 x2 : Option Addr) (xn1 xc1 xn2 xc2 : Nat) (xp : Int) (T : TypeId) (h : RpAt w p s c l st sk re fe ag p1 p2 pn1 pc1 pn2 pc2 pp u) (o : PosR u x1 x2 xn1 xn2 xs ys) : RpxAt w p s c l st sk re fe ag p1 p2 pn1 pc1 pn2 pc2 pp xs ys u.heap.size x1 x2 xn1 xc1 xn2 xc2 xp (u.alloc (.cells #[.slice x1 xn1 xc1, .slice x2 xn2 xc2, .int .i64 xp] T)) :=
 have hb : Below u.heap.size u (u.alloc (.cells #[.slice x1 xn1 xc1, .slice x2 xn2 xc2, .int .i64 xp] T)) := (Below.refl _ _).alloc (Nat.le_refl _) _
 ⟨h.1.below hb, h.2.1.below hb, po_new x1 x2 xn1 xc1 xn2 xc2 xp u T, o.alloc _, h.2.2.trans (hb.mono h.2.2.size)⟩
/- Wat -/
structure WAt (u : World) (lo hi A : Nat) (a1 a2 : Option Addr) (b1 b2 n1 c1 n2 c2 : Nat) (pl : Int) (us vs : List Int) : Prop where
 po : PoAt u A a1 a2 n1 c1 n2 c2 pl
 o : PosO u lo a1 a2 b1 b2 n1 n2 us vs
 lo_le : lo ≤ A
 lt : A < hi
 lt1 : b1 < hi
 lt2 : b2 < hi
 hi_le : hi ≤ u.heap.size
 ne1 : A ≠ b1
 ne2 : A ≠ b2
section
variable {u v w : World} {lo hi A b1 b2 n1 c1 n2 c2 : Nat} {a1 a2 : Option Addr} {pl : Int} {us vs : List Int}
theorem WAt.below (h : WAt u lo hi A a1 a2 b1 b2 n1 c1 n2 c2 pl us vs) (k : Below u.heap.size u v) : WAt v lo hi A a1 a2 b1 b2 n1 c1 n2 c2 pl us vs :=
 ⟨h.po.below k, h.o.below k, h.lo_le, h.lt, h.lt1, h.lt2, Nat.le_trans h.hi_le k.size, h.ne1, h.ne2⟩
theorem WAt.drew (h : WAt u lo hi A a1 a2 b1 b2 n1 c1 n2 c2 pl us vs) : WAt u.drew lo hi A a1 a2 b1 b2 n1 c1 n2 c2 pl us vs := h.below (Below.refl _ _).drew
theorem PoAt.but2 {b c d : Nat} {x1 x2 : Option Addr} {xn1 xc1 xn2 xc2 : Nat} {xp : Int} (h : PoAt u d x1 x2 xn1 xc1 xn2 xc2 xp) (k : But2 b c u v) (hb : d ≠ b) (hc : d ≠ c) : PoAt v d x1 x2 xn1 xc1 xn2 xc2 xp := by
 obtain ⟨hd, h⟩ := h
 have e := fun o => k.cell (d := d) (o := o) hd hb hc
 exact ⟨Nat.lt_of_lt_of_le hd k.size, by rw [e, e, e]; exact h⟩
theorem WAt.but2 {b c : Nat} (h : WAt u lo hi A a1 a2 b1 b2 n1 c1 n2 c2 pl us vs) (k : But2 b c u v) (hb : hi ≤ b ∨ b < lo) (hc : hi ≤ c ∨ c < lo) : WAt v lo hi A a1 a2 b1 b2 n1 c1 n2 c2 pl us vs := by
 have h1 := h.lo_le
 have h2 := h.lt
 have h3 := h.lt1
 have h4 := h.lt2
 have h5 := h.o.o1.new
 have h6 := h.o.o2.new
 exact ⟨h.po.but2 k (by omega) (by omega), h.o.but2 k (by omega) (by omega) (by omega) (by omega), h1, h2, h3, h4, Nat.le_trans h.hi_le k.size, h.ne1, h.ne2⟩
theorem WAt.mark {xs ys : List Int} {us' vs' : List Int} (h : WAt u lo hi A a1 a2 b1 b2 n1 c1 n2 c2 pl us vs) (k : But2 b1 b2 u v) (o : PosO v lo a1 a2 b1 b2 n1 n2 us' vs') : WAt v lo hi A a1 a2 b1 b2 n1 c1 n2 c2 pl us' vs' :=
 ⟨h.po.but2 k h.ne1 h.ne2, o, h.lo_le, h.lt, h.lt1, h.lt2, Nat.le_trans h.hi_le k.size, h.ne1, h.ne2⟩
theorem wat_new (T : TypeId) (pl : Int) (c1 c2 : Nat) (ho : PosO u lo a1 a2 b1 b2 n1 n2 us vs) (h1 : b1 < u.heap.size) (h2 : b2 < u.heap.size) (hlo : lo ≤ u.heap.size) :
  WAt (u.alloc (.cells #[.slice a1 n1 c1, .slice a2 n2 c2, .int .i64 pl] T)) lo (u.heap.size + 1) u.heap.size a1 a2 b1 b2 n1 c1 n2 c2 pl us vs :=
 ⟨po_new _ _ _ _ _ _ _ u T, ho.below (al1 _ _), hlo, by omega, by omega, by omega, by simp, by omega, by omega⟩
theorem po_set (hz : ZeroP u A) (pl : Int) (c1 c2 n1 n2 : Nat) (a1 a2 : Option Addr) : PoAt (((u.setCell ⟨A, 0, none⟩ (.slice a1 n1 c1)).setCell ⟨A, 1, none⟩ (.slice a2 n2 c2)).setCell ⟨A, 2, none⟩ (.int .i64 pl)) A a1 a2 n1 c1 n2 c2 pl := by
 obtain ⟨zl, z0, z1, z2, zf⟩ := hz
 have f0 := zf 0
 have f1 := zf 1
 have f2 := zf 2
 exact ⟨by simpa using zl, by go_simp, by go_simp, by go_simp⟩
theorem wat_set (hz : ZeroP u A) (pl : Int) (c1 c2 : Nat) (ho : PosO u lo a1 a2 b1 b2 n1 n2 us vs) (h1 : b1 < u.heap.size) (h2 : b2 < u.heap.size) (hlo : lo ≤ A) (k1 : A ≠ b1) (k2 : A ≠ b2) :
  WAt (((u.setCell ⟨A, 0, none⟩ (.slice a1 n1 c1)).setCell ⟨A, 1, none⟩ (.slice a2 n2 c2)).setCell ⟨A, 2, none⟩ (.int .i64 pl)) lo u.heap.size A a1 a2 b1 b2 n1 c1 n2 c2 pl us vs :=
 ⟨po_set hz pl c1 c2 n1 n2 a1 a2, ho.set3 _ _ _ (fun e => k1 e.symm) (fun e => k2 e.symm), hlo, hz.lt, h1, h2, by simp, k1, k2⟩
theorem WAt.set3 {z : Nat} (h : WAt u lo hi A a1 a2 b1 b2 n1 c1 n2 c2 pl us vs) (x y t : Value) (hz : hi ≤ z) : WAt (((u.setCell ⟨z, 0, none⟩ x).setCell ⟨z, 1, none⟩ y).setCell ⟨z, 2, none⟩ t) lo hi A a1 a2 b1 b2 n1 c1 n2 c2 pl us vs :=
 h.but2 (b := z) (c := z) (.of_l ((((But.refl z u).setCell (p := ⟨z, 0, none⟩) rfl x).setCell (p := ⟨z, 1, none⟩) rfl y).setCell (p := ⟨z, 2, none⟩) rfl t)) (.inl hz) (.inl hz)
variable {p s c l : Int} {st sk re fe ag : Bool} {p1 p2 : Option Addr} {pn1 pc1 pn2 pc2 : Nat} {pp : Int}
theorem RpAt.setA (h : RpAt w p s c l st sk re fe ag p1 p2 pn1 pc1 pn2 pc2 pp u) {z : Nat} (hz : w.heap.size + 1 < z) (x y t : Value) : RpAt w p s c l st sk re fe ag p1 p2 pn1 pc1 pn2 pc2 pp (((u.setCell ⟨z, 0, none⟩ x).setCell ⟨z, 1, none⟩ y).setCell ⟨z, 2, none⟩ t) := by
 have k : But z u (((u.setCell ⟨z, 0, none⟩ x).setCell ⟨z, 1, none⟩ y).setCell ⟨z, 2, none⟩ t) := ((((But.refl z u).setCell (p := ⟨z, 0, none⟩) rfl x).setCell (p := ⟨z, 1, none⟩) rfl y).setCell (p := ⟨z, 2, none⟩) rfl t)
 refine ⟨h.1.but k (by omega), h.2.1.but k (by omega), ?_⟩
 exact ((h.2.2.setCell (p := ⟨z, 0, none⟩) (by show w.heap.size ≤ z; omega) _).setCell (p := ⟨z, 1, none⟩) (by show w.heap.size ≤ z; omega) _).setCell (p := ⟨z, 2, none⟩) (by show w.heap.size ≤ z; omega) _
theorem RpAt.but2 {b b' : Nat} (h : RpAt w p s c l st sk re fe ag p1 p2 pn1 pc1 pn2 pc2 pp u) (k : But2 b b' u v) (hb : w.heap.size + 1 < b) (hc : w.heap.size + 1 < b') : RpAt w p s c l st sk re fe ag p1 p2 pn1 pc1 pn2 pc2 pp v := by
 refine ⟨?_, h.2.1.but2 k (by omega) (by omega), k.below h.2.2 (by omega) (by omega) h.2.2.size⟩
 obtain ⟨hd, h⟩ := h.1
 have e := fun o => k.cell (d := w.heap.size) (o := o) hd (by omega) (by omega)
 exact ⟨Nat.lt_of_lt_of_le hd k.size, by rw [e, e, e, e, e, e, e, e, e]; exact h⟩
end
/- WatS -/
theorem PosO.set4 {w : World} {B z : Nat} {a1 a2 : Option Addr} {b1 b2 n1 n2 : Nat} {xs ys : List Int} (h : PosO w B a1 a2 b1 b2 n1 n2 xs ys) (x y t q : Value) (k1 : b1 ≠ z) (k2 : b2 ≠ z) : PosO ((((w.setCell ⟨z, 0, none⟩ x).setCell ⟨z, 1, none⟩ y).setCell ⟨z, 2, none⟩ t).setCell ⟨z, 3, none⟩ q) B a1 a2 b1 b2 n1 n2 xs ys :=
 h.but (but4 z w x y t q) k1 k2
structure WAtS (u : World) (lo hi A : Nat) (a1 a2 : Option Addr) (b1 b2 n1 c1 n2 c2 : Nat) (pl pk : Int) (us vs : List Int) : Prop where
 po : SoAt u A a1 a2 n1 c1 n2 c2 pl pk
 o : PosO u lo a1 a2 b1 b2 n1 n2 us vs
 lo_le : lo ≤ A
 lt : A < hi
 lt1 : b1 < hi
 lt2 : b2 < hi
 hi_le : hi ≤ u.heap.size
 ne1 : A ≠ b1
 ne2 : A ≠ b2
section
variable {u v w : World} {lo hi A b1 b2 n1 c1 n2 c2 : Nat} {a1 a2 : Option Addr} {pl pk : Int} {us vs : List Int}
theorem WAtS.below (h : WAtS u lo hi A a1 a2 b1 b2 n1 c1 n2 c2 pl pk us vs) (k : Below u.heap.size u v) : WAtS v lo hi A a1 a2 b1 b2 n1 c1 n2 c2 pl pk us vs :=
 ⟨h.po.below k, h.o.below k, h.lo_le, h.lt, h.lt1, h.lt2, Nat.le_trans h.hi_le k.size, h.ne1, h.ne2⟩
theorem WAtS.drew (h : WAtS u lo hi A a1 a2 b1 b2 n1 c1 n2 c2 pl pk us vs) : WAtS u.drew lo hi A a1 a2 b1 b2 n1 c1 n2 c2 pl pk us vs := h.below (Below.refl _ _).drew
theorem SoAt.but2 {b c d : Nat} {x1 x2 : Option Addr} {xn1 xc1 xn2 xc2 : Nat} {xp xq : Int} (h : SoAt u d x1 x2 xn1 xc1 xn2 xc2 xp xq) (k : But2 b c u v) (hb : d ≠ b) (hc : d ≠ c) : SoAt v d x1 x2 xn1 xc1 xn2 xc2 xp xq := by
 obtain ⟨hd, h⟩ := h
 have e := fun o => k.cell (d := d) (o := o) hd hb hc
 exact ⟨Nat.lt_of_lt_of_le hd k.size, by rw [e, e, e, e]; exact h⟩
theorem WAtS.but2 {b c : Nat} (h : WAtS u lo hi A a1 a2 b1 b2 n1 c1 n2 c2 pl pk us vs) (k : But2 b c u v) (hb : hi ≤ b ∨ b < lo) (hc : hi ≤ c ∨ c < lo) : WAtS v lo hi A a1 a2 b1 b2 n1 c1 n2 c2 pl pk us vs := by
 have h1 := h.lo_le
 have h2 := h.lt
 have h3 := h.lt1
 have h4 := h.lt2
 have h5 := h.o.o1.new
 have h6 := h.o.o2.new
 exact ⟨h.po.but2 k (by omega) (by omega), h.o.but2 k (by omega) (by omega) (by omega) (by omega), h1, h2, h3, h4, Nat.le_trans h.hi_le k.size, h.ne1, h.ne2⟩
theorem WAtS.mark {xs ys : List Int} {us' vs' : List Int} (h : WAtS u lo hi A a1 a2 b1 b2 n1 c1 n2 c2 pl pk us vs) (k : But2 b1 b2 u v) (o : PosO v lo a1 a2 b1 b2 n1 n2 us' vs') : WAtS v lo hi A a1 a2 b1 b2 n1 c1 n2 c2 pl pk us' vs' :=
 ⟨h.po.but2 k h.ne1 h.ne2, o, h.lo_le, h.lt, h.lt1, h.lt2, Nat.le_trans h.hi_le k.size, h.ne1, h.ne2⟩
theorem wats_new (T : TypeId) (pl pk : Int) (c1 c2 : Nat) (ho : PosO u lo a1 a2 b1 b2 n1 n2 us vs) (h1 : b1 < u.heap.size) (h2 : b2 < u.heap.size) (hlo : lo ≤ u.heap.size) :
  WAtS (u.alloc (.cells #[.slice a1 n1 c1, .slice a2 n2 c2, .int .i64 pl, .int .i64 pk] T)) lo (u.heap.size + 1) u.heap.size a1 a2 b1 b2 n1 c1 n2 c2 pl pk us vs :=
 ⟨so_new _ _ _ _ _ _ _ _ u T, ho.below (al1 _ _), hlo, by omega, by omega, by omega, by simp, by omega, by omega⟩
theorem so_set (hz : Z4 u A) (pl pk : Int) (c1 c2 n1 n2 : Nat) (a1 a2 : Option Addr) : SoAt ((((u.setCell ⟨A, 0, none⟩ (.slice a1 n1 c1)).setCell ⟨A, 1, none⟩ (.slice a2 n2 c2)).setCell ⟨A, 2, none⟩ (.int .i64 pl)).setCell ⟨A, 3, none⟩ (.int .i64 pk)) A a1 a2 n1 c1 n2 c2 pl pk := by
 obtain ⟨zl, z0, z1, z2, z3, f0, f1, f2, f3⟩ := hz
 exact ⟨by simpa using zl, by go_simp, by go_simp, by go_simp, by go_simp⟩
theorem wats_set (hz : Z4 u A) (pl pk : Int) (c1 c2 : Nat) (ho : PosO u lo a1 a2 b1 b2 n1 n2 us vs) (h1 : b1 < u.heap.size) (h2 : b2 < u.heap.size) (hlo : lo ≤ A) (k1 : A ≠ b1) (k2 : A ≠ b2) :
  WAtS ((((u.setCell ⟨A, 0, none⟩ (.slice a1 n1 c1)).setCell ⟨A, 1, none⟩ (.slice a2 n2 c2)).setCell ⟨A, 2, none⟩ (.int .i64 pl)).setCell ⟨A, 3, none⟩ (.int .i64 pk)) lo u.heap.size A a1 a2 b1 b2 n1 c1 n2 c2 pl pk us vs :=
 ⟨so_set hz pl pk c1 c2 n1 n2 a1 a2, ho.set4 _ _ _ _ (fun e => k1 e.symm) (fun e => k2 e.symm), hlo, hz.lt, h1, h2, by simp, k1, k2⟩
theorem WAtS.set4 {z : Nat} (h : WAtS u lo hi A a1 a2 b1 b2 n1 c1 n2 c2 pl pk us vs) (x y t q : Value) (hz : hi ≤ z) : WAtS ((((u.setCell ⟨z, 0, none⟩ x).setCell ⟨z, 1, none⟩ y).setCell ⟨z, 2, none⟩ t).setCell ⟨z, 3, none⟩ q) lo hi A a1 a2 b1 b2 n1 c1 n2 c2 pl pk us vs :=
 h.but2 (b := z) (c := z) (.of_l (but4 z u x y t q)) (.inl hz) (.inl hz)
theorem WAt.set4 {z : Nat} (h : WAt u lo hi A a1 a2 b1 b2 n1 c1 n2 c2 pl us vs) (x y t q : Value) (hz : hi ≤ z) : WAt ((((u.setCell ⟨z, 0, none⟩ x).setCell ⟨z, 1, none⟩ y).setCell ⟨z, 2, none⟩ t).setCell ⟨z, 3, none⟩ q) lo hi A a1 a2 b1 b2 n1 c1 n2 c2 pl us vs :=
 h.but2 (b := z) (c := z) (.of_l (but4 z u x y t q)) (.inl hz) (.inl hz)
variable {p s c l : Int} {st sk re fe ag : Bool} {p1 p2 : Option Addr} {pn1 pc1 pn2 pc2 : Nat} {pp : Int}
theorem RpAt.setB (h : RpAt w p s c l st sk re fe ag p1 p2 pn1 pc1 pn2 pc2 pp u) {z : Nat} (hz : w.heap.size + 1 < z) (x y t q : Value) : RpAt w p s c l st sk re fe ag p1 p2 pn1 pc1 pn2 pc2 pp ((((u.setCell ⟨z, 0, none⟩ x).setCell ⟨z, 1, none⟩ y).setCell ⟨z, 2, none⟩ t).setCell ⟨z, 3, none⟩ q) :=
 ⟨h.1.but (but4 z u x y t q) (by omega), h.2.1.but (but4 z u x y t q) (by omega), OnW.set4 h.2.2 (by omega) x y t q⟩
end
/- BoxC -/
def RsAt (w : World) (p s c l : Int) (st sk re fe ag : Bool) (p1 p2 : Option Addr) (pn1 pc1 pn2 pc2 : Nat) (pp pq : Int) (u : World) : Prop := RuAt u w.heap.size p s c l st sk re fe ag ∧ SoAt u (w.heap.size + 1) p1 p2 pn1 pc1 pn2 pc2 pp pq ∧ Below w.heap.size w u
section
variable {w u v : World} {p s c l : Int} {st sk re fe ag : Bool} {p1 p2 : Option Addr} {pn1 pc1 pn2 pc2 : Nat} {pp pq : Int}
theorem RsAt.below (h : RsAt w p s c l st sk re fe ag p1 p2 pn1 pc1 pn2 pc2 pp pq u) (k : Below u.heap.size u v) : RsAt w p s c l st sk re fe ag p1 p2 pn1 pc1 pn2 pc2 pp pq v := ⟨h.1.below k, h.2.1.below k, h.2.2.trans (k.mono h.2.2.size)⟩
theorem RsAt.drew (h : RsAt w p s c l st sk re fe ag p1 p2 pn1 pc1 pn2 pc2 pp pq u) : RsAt w p s c l st sk re fe ag p1 p2 pn1 pc1 pn2 pc2 pp pq u.drew := ⟨h.1, h.2.1, h.2.2.drew⟩
theorem RsAt.drewN (h : RsAt w p s c l st sk re fe ag p1 p2 pn1 pc1 pn2 pc2 pp pq u) (m : Nat) : RsAt w p s c l st sk re fe ag p1 p2 pn1 pc1 pn2 pc2 pp pq (u.drewN m) := h.below (below_dn (Below.refl _ _) m)
end
theorem rs_new (p s c l : Int) (st sk re fe ag : Bool) (p1 p2 : Option Addr) (pn1 pc1 pn2 pc2 : Nat) (pp pq : Int) (w : World) (T U : TypeId) : RsAt w p s c l st sk re fe ag p1 p2 pn1 pc1 pn2 pc2 pp pq ((w.alloc (.cells #[.int .i64 p, .int .i64 s, .bool st, .bool sk, .bool re, .bool fe, .bool ag, .int .i64 c, .int .i64 l] T)).alloc (.cells #[.slice p1 pn1 pc1, .slice p2 pn2 pc2, .int .i64 pp, .int .i64 pq] U)) :=
 ⟨(ru_new p s c l st sk re fe ag w T).below ((Below.refl _ _).alloc (Nat.le_refl _) _), by have := so_new p1 p2 pn1 pc1 pn2 pc2 pp pq (w.alloc (.cells #[.int .i64 p, .int .i64 s, .bool st, .bool sk, .bool re, .bool fe, .bool ag, .int .i64 c, .int .i64 l] T)) U; simpa using this, ((Below.refl _ _).alloc (Nat.le_refl _) _).alloc (by simp) _⟩
def RsxAt (w : World) (p s c l : Int) (st sk re fe ag : Bool) (p1 p2 : Option Addr) (pn1 pc1 pn2 pc2 : Nat) (pp pq : Int) (xs ys : List Int) (d : Nat) (x1 x2 : Option Addr) (xn1 xc1 xn2 xc2 : Nat) (xp xq : Int) (u : World) : Prop := RuAt u w.heap.size p s c l st sk re fe ag ∧ SoAt u (w.heap.size + 1) p1 p2 pn1 pc1 pn2 pc2 pp pq ∧ SoAt u d x1 x2 xn1 xc1 xn2 xc2 xp xq ∧ PosR u x1 x2 xn1 xn2 xs ys ∧ Below w.heap.size w u
section
variable {w u v : World} {p s c l : Int} {st sk re fe ag : Bool} {p1 p2 : Option Addr} {pn1 pc1 pn2 pc2 : Nat} {pp pq : Int} {d : Nat} {x1 x2 : Option Addr} {xn1 xc1 xn2 xc2 : Nat} {xp xq : Int} {xs ys : List Int}
theorem RsxAt.below (h : RsxAt w p s c l st sk re fe ag p1 p2 pn1 pc1 pn2 pc2 pp pq xs ys d x1 x2 xn1 xc1 xn2 xc2 xp xq u) (k : Below u.heap.size u v) : RsxAt w p s c l st sk re fe ag p1 p2 pn1 pc1 pn2 pc2 pp pq xs ys d x1 x2 xn1 xc1 xn2 xc2 xp xq v := ⟨h.1.below k, h.2.1.below k, h.2.2.1.below k, h.2.2.2.1.below k, h.2.2.2.2.trans (k.mono h.2.2.2.2.size)⟩
theorem RsxAt.drew (h : RsxAt w p s c l st sk re fe ag p1 p2 pn1 pc1 pn2 pc2 pp pq xs ys d x1 x2 xn1 xc1 xn2 xc2 xp xq u) : RsxAt w p s c l st sk re fe ag p1 p2 pn1 pc1 pn2 pc2 pp pq xs ys d x1 x2 xn1 xc1 xn2 xc2 xp xq u.drew := ⟨h.1, h.2.1, h.2.2.1, h.2.2.2.1.drewN 1, h.2.2.2.2.drew⟩
end
/- VS6 -/
theorem okP_pl (k : Bool) (p : Int) (n1 n2 : Nat) (pl : Int) (xs ys : List Int) : okP k p n1 n2 pl xs ys = (okP k p n1 n2 0 xs ys && isPl pl) := by
 unfold okP isPl
 cases k <;> simp
 cases decide ((n1 : Int) = 2 * p) <;> simp
 cases decide (n2 = 2) <;> simp
 cases seedB xs ys <;> simp
def lastV (st : Bool) (p pl la : Int) (xs ys : List Int) : Int := if la = -1 ∧ st = true then vAt ys pl else if 0 ≤ la ∧ la < 2 * p then vAt xs la else 0
theorem lastB_eq (st : Bool) (p pl la : Int) (xs ys : List Int) : lastB st p pl la xs ys = decide (0 < lastV st p pl la xs ys) := by
 unfold lastB lastV
 by_cases h : la = -1
 ·subst h
  cases st <;> simp
 ·rw [if_neg h, if_neg (by omega)]
  by_cases h2 : 0 ≤ la ∧ la < 2 * p
  ·rw [if_pos h2]
   have e1 : decide (0 ≤ la) = true := by simp; omega
   have e2 : decide (la ≤ 2 * p - 1) = true := by simp; omega
   rw [e1, e2]; rfl
  ·rw [if_neg h2]
   by_cases h3 : 0 ≤ la
   ·have e2 : decide (la ≤ 2 * p - 1) = false := by simp; omega
    rw [e2]; simp
   ·have e2 : decide (0 ≤ la) = false := by simp; omega
    rw [e2]; simp
theorem rowV {w : World} {a : Option Addr} {xs : List Int} {k : Nat} (h : RowN w a xs) (hk : k < xs.length) : ∃ g o, a = some ⟨g, o, none⟩ ∧ g < w.heap.size ∧ w.cell? ⟨g, o + k, none⟩ = some (.int .i64 (vAt xs k)) := by
 have hne : xs ≠ [] := by intro e; subst e; simp at hk
 obtain ⟨g, o, rfl, hg, hc⟩ := h.2.resolve_left hne
 have := vAt_cell (xs := xs) (k := (k : Int)) (by omega) (by omega)
 rw [Int.toNat_natCast] at this
 exact ⟨g, o, rfl, hg, hc k _ this⟩
theorem position_any (p1 p2 : Option Addr) (pn1 pc1 pn2 pc2 : Nat) (pp pq : Int) (player : Int) (w : World) :
  Calls Try.prog 73 #[.agg #[.slice p1 pn1 pc1, .slice p2 pn2 pc2, .int .i64 pp, .int .i64 pq], .int .i64 player] w fun e w' => e = .returned (.agg #[.slice p1 pn1 pc1, .slice p2 pn2 pc2, .int .i64 player]) ∧ Below w.heap.size w w' := by
 go_enter Try.func73, Try.ntmps73
 go_wp2_with fail
 exact bodyPost_ret (v := .agg #[.slice p1 pn1 pc1, .slice p2 pn2 pc2, .int .i64 player]) (by simp [results, Try.results73, go_sem]) rfl ⟨rfl, (by repeat (first | exact Below.refl _ _ | assumption | (refine Below.drew ?_) | (refine Below.setCell ?_ (by first | omega | (simp; done) | (simp; omega)) _) | (refine Below.alloc ?_ (by first | omega | (simp; done) | (simp; omega)) _) | (refine Below.trans ?_ (Below.mono (by assumption) (by first | omega | (simp; done) | (simp; omega))))))⟩
def SrAt (w : World) (p1 p2 : Option Addr) (pn1 pc1 pn2 pc2 : Nat) (pp pq : Int) (p s c l : Int) (st sk re fe ag : Bool) (u : World) : Prop := SoAt u w.heap.size p1 p2 pn1 pc1 pn2 pc2 pp pq ∧ RuAt u (w.heap.size + 1) p s c l st sk re fe ag ∧ Below w.heap.size w u
section
variable {w u v : World} {p s c l : Int} {st sk re fe ag : Bool} {p1 p2 : Option Addr} {pn1 pc1 pn2 pc2 : Nat} {pp pq : Int}
theorem SrAt.below (h : SrAt w p1 p2 pn1 pc1 pn2 pc2 pp pq p s c l st sk re fe ag u) (k : Below u.heap.size u v) : SrAt w p1 p2 pn1 pc1 pn2 pc2 pp pq p s c l st sk re fe ag v := ⟨h.1.below k, h.2.1.below k, h.2.2.trans (k.mono h.2.2.size)⟩
theorem SrAt.drew (h : SrAt w p1 p2 pn1 pc1 pn2 pc2 pp pq p s c l st sk re fe ag u) : SrAt w p1 p2 pn1 pc1 pn2 pc2 pp pq p s c l st sk re fe ag u.drew := ⟨h.1, h.2.1, h.2.2.drew⟩
end
theorem sr_new (p1 p2 : Option Addr) (pn1 pc1 pn2 pc2 : Nat) (pp pq : Int) (p s c l : Int) (st sk re fe ag : Bool) (w : World) (T U : TypeId) : SrAt w p1 p2 pn1 pc1 pn2 pc2 pp pq p s c l st sk re fe ag ((w.alloc (.cells #[.slice p1 pn1 pc1, .slice p2 pn2 pc2, .int .i64 pp, .int .i64 pq] T)).alloc (.cells #[.int .i64 p, .int .i64 s, .bool st, .bool sk, .bool re, .bool fe, .bool ag, .int .i64 c, .int .i64 l] U)) :=
 ⟨(so_new p1 p2 pn1 pc1 pn2 pc2 pp pq w T).below ((Below.refl _ _).alloc (Nat.le_refl _) _), by have := ru_new p s c l st sk re fe ag (w.alloc (.cells #[.slice p1 pn1 pc1, .slice p2 pn2 pc2, .int .i64 pp, .int .i64 pq] T)) U; simpa using this, ((Below.refl _ _).alloc (Nat.le_refl _) _).alloc (by simp) _⟩
theorem lastSeeds_any (p s c l : Int) (st sk re fe ag : Bool) (p1 p2 : Option Addr) (pn1 pc1 pn2 pc2 : Nat) (pp pq : Int) (xs ys : List Int) (player : Int) (w : World) (h : PosR w p1 p2 pn1 pn2 xs ys) (hp : 2 ≤ p ∧ p ≤ 8) (hn1 : (pn1 : Int) = 2 * p) (hn2 : pn2 = 2) (hpl : player = 0 ∨ player = 1) :
    Calls Try.prog 93 #[.agg #[.slice p1 pn1 pc1, .slice p2 pn2 pc2, .int .i64 pp, .int .i64 pq], .agg #[.int .i64 p, .int .i64 s, .bool st, .bool sk, .bool re, .bool fe, .bool ag, .int .i64 c, .int .i64 l], .int .i64 player] w fun e w' => e = .returned (.int .i64 (lastV st p player pp xs ys)) ∧ Below w.heap.size w w' := by
  obtain ⟨hp2, hp8⟩ := hp
  have hl2 := h.l2
  have hl1 := h.l1
  have hq0 : (0 : Int) < (pn2 : Int) := by omega
  have hq1 : (1 : Int) < (pn2 : Int) := by omega
  have Hn1 := Lib.hid hn1
  have Hn2 := Lib.hid hn2
  have BB := Lib.hid (((Below.refl w.heap.size w).alloc (Nat.le_refl _) (.cells #[.slice p1 pn1 pc1, .slice p2 pn2 pc2, .int .i64 pp, .int .i64 pq] 50)).alloc (by simp) (.cells #[.int .i64 p, .int .i64 s, .bool st, .bool sk, .bool re, .bool fe, .bool ag, .int .i64 c, .int .i64 l] 30))
  by_cases h1 : pp = -1
  · have e1 : (pp == (-1 : Int)) = true := by simpa using h1
    have hge : ¬ (0 : Int) ≤ pp := by omega
    rcases st with _ | _
    · have e : lastV false p player pp xs ys = 0 := by unfold lastV; rw [h1]; simp
      rw [e]
      have HS := Lib.hid (sr_new p1 p2 pn1 pc1 pn2 pc2 pp pq p s c l false sk re fe ag w 50 30)
      clear h e h1 hn1 hn2 hl1 hl2
      go_enter Try.func93, Try.ntmps93
      go_wp2_with fail
      have hd : decide (0 ≤ pp) = false := by simp; omega
      apply region_class (SrAt w p1 p2 pn1 pc1 pn2 pc2 pp pq p s c l false sk re fe ag) (by kernel_rfl) (by kernel_rfl) (HS.out.drew)
      repeat (first
        | (apply step_skip (by rfl)
           simp only [Act.put, List.setIfInBounds_toArray, List.set_cons_zero, List.set_cons_succ])
        | (apply step_val (by rfl)
           · intro u hu
             obtain ⟨⟨_, g0, g1, g2, g3⟩, ⟨_, r0, r1, r2, r3, r4, r5, r6, r7, r8⟩, _⟩ := hu
             go_simp
             try with_reducible rfl
           simp only [Act.put, List.setIfInBounds_toArray, List.set_cons_zero, List.set_cons_succ])
        | (apply step_call (by rfl)
           · intro u
             go_simp
             exact ⟨rfl, rfl⟩
           · intro u hu
             (with_reducible refine (board_any p s c l false sk re fe ag (by unfold I64; omega) _).mono ?_); (rintro e u' ⟨rfl, hb5⟩; exact ⟨rfl, hu.below hb5⟩)
           simp only [Act.put, List.setIfInBounds_toArray, List.set_cons_zero, List.set_cons_succ]))
      apply step_nil
      intro w5 hs5
      have HS5 := Lib.hid hs5
      clear hs5
      go_wp2_with fail
      go_ret
      exact ⟨rfl, HS5.out.2.2⟩
    · have e : lastV true p player pp xs ys = vAt ys player := by unfold lastV; rw [h1]; simp
      rw [e]
      rcases hpl with rfl | rfl
      · obtain ⟨g, o, rfl, hg, y⟩ := rowV (k := 0) h.r2 (by omega)
        have hy : vAt ys ((0 : Nat) : Int) = vAt ys 0 := rfl
        rw [hy] at y
        try rw [Nat.add_zero] at y
        have hga : g ≠ w.heap.size := by omega
        have hgb : g ≠ w.heap.size + 1 := by omega
        generalize vAt ys 0 = v at *
        clear h hy e h1 hn1 hn2 hl1 hl2
        go_enter Try.func93, Try.ntmps93
        go_wp2_with fail
        go_ret
        exact ⟨rfl, BB.out⟩
      · obtain ⟨g, o, rfl, hg, y⟩ := rowV (k := 1) h.r2 (by omega)
        have hy : vAt ys ((1 : Nat) : Int) = vAt ys 1 := rfl
        rw [hy] at y
        try rw [Nat.add_zero] at y
        have hga : g ≠ w.heap.size := by omega
        have hgb : g ≠ w.heap.size + 1 := by omega
        generalize vAt ys 1 = v at *
        clear h hy e h1 hn1 hn2 hl1 hl2
        go_enter Try.func93, Try.ntmps93
        go_wp2_with fail
        go_ret
        exact ⟨rfl, BB.out⟩
  · have e1 : (pp == (-1 : Int)) = false := by simpa using h1
    by_cases h2 : 0 ≤ pp ∧ pp < 2 * p
    · have e : lastV st p player pp xs ys = vAt xs pp := by unfold lastV; rw [if_neg (by omega), if_pos h2]
      rw [e]
      obtain ⟨L, rfl⟩ : ∃ L : Nat, pp = (L : Int) := ⟨pp.toNat, by omega⟩
      obtain ⟨g, o, rfl, hg, y⟩ := rowV (k := L) h.r1 (by omega)
      obtain ⟨h2a, h2b⟩ := h2
      have q1 : (L : Int) < (pn1 : Int) := by omega
      have hga : g ≠ w.heap.size := by omega
      have hgb : g ≠ w.heap.size + 1 := by omega
      have HS := Lib.hid (sr_new (some ⟨g, o, none⟩) p2 pn1 pc1 pn2 pc2 (L : Int) pq p s c l st sk re fe ag w 50 30)
      generalize vAt xs (L : Int) = v at *
      have Y := Lib.hid y
      clear h e h1 hn1 hn2 hl1 hl2 y
      go_enter Try.func93, Try.ntmps93
      go_wp2_with fail
      have hd : decide ((0 : Int) ≤ (L : Int)) = true := by simp
      apply region_class (SrAt w (some ⟨g, o, none⟩) p2 pn1 pc1 pn2 pc2 (L : Int) pq p s c l st sk re fe ag) (by kernel_rfl) (by kernel_rfl) (HS.out.drew)
      repeat (first
        | (apply step_skip (by rfl)
           simp only [Act.put, List.setIfInBounds_toArray, List.set_cons_zero, List.set_cons_succ])
        | (apply step_val (by rfl)
           · intro u hu
             obtain ⟨⟨_, g0, g1, g2, g3⟩, ⟨_, r0, r1, r2, r3, r4, r5, r6, r7, r8⟩, _⟩ := hu
             go_simp
             try with_reducible rfl
           simp only [Act.put, List.setIfInBounds_toArray, List.set_cons_zero, List.set_cons_succ])
        | (apply step_call (by rfl)
           · intro u
             go_simp
             exact ⟨rfl, rfl⟩
           · intro u hu
             (with_reducible refine (board_any p s c l st sk re fe ag (by unfold I64; omega) _).mono ?_); (rintro e u' ⟨rfl, hb5⟩; exact ⟨rfl, hu.below hb5⟩)
           simp only [Act.put, List.setIfInBounds_toArray, List.set_cons_zero, List.set_cons_succ]))
      apply step_nil
      intro w5 hs5
      have HS5 := Lib.hid hs5
      clear hs5
      obtain ⟨⟨_, g0, g1, g2, g3⟩, -, -⟩ := HS5.out
      have y1 := (HS5.out.2.2.cell (p := ⟨g, o + L, none⟩) hg).trans Y.out
      go_wp2_with fail
      go_ret
      exact ⟨rfl, HS5.out.2.2⟩
    · have e : lastV st p player pp xs ys = 0 := by unfold lastV; rw [if_neg (by omega), if_neg h2]
      rw [e]
      have HS := Lib.hid (sr_new p1 p2 pn1 pc1 pn2 pc2 pp pq p s c l st sk re fe ag w 50 30)
      by_cases h3 : 0 ≤ pp
      · have h4 : ¬ pp < 2 * p := by omega
        clear h e h1 hn1 hn2 hl1 hl2 h2
        go_enter Try.func93, Try.ntmps93
        go_wp2_with fail
        have hd : decide (0 ≤ pp) = true := by simp; omega
        apply region_class (SrAt w p1 p2 pn1 pc1 pn2 pc2 pp pq p s c l st sk re fe ag) (by kernel_rfl) (by kernel_rfl) (HS.out.drew)
        repeat (first
          | (apply step_skip (by rfl)
             simp only [Act.put, List.setIfInBounds_toArray, List.set_cons_zero, List.set_cons_succ])
          | (apply step_val (by rfl)
             · intro u hu
               obtain ⟨⟨_, g0, g1, g2, g3⟩, ⟨_, r0, r1, r2, r3, r4, r5, r6, r7, r8⟩, _⟩ := hu
               go_simp
               try with_reducible rfl
             simp only [Act.put, List.setIfInBounds_toArray, List.set_cons_zero, List.set_cons_succ])
          | (apply step_call (by rfl)
             · intro u
               go_simp
               exact ⟨rfl, rfl⟩
             · intro u hu
               (with_reducible refine (board_any p s c l st sk re fe ag (by unfold I64; omega) _).mono ?_); (rintro e u' ⟨rfl, hb5⟩; exact ⟨rfl, hu.below hb5⟩)
             simp only [Act.put, List.setIfInBounds_toArray, List.set_cons_zero, List.set_cons_succ]))
        apply step_nil
        intro w5 hs5
        have HS5 := Lib.hid hs5
        clear hs5
        go_wp2_with fail
        go_ret
        exact ⟨rfl, HS5.out.2.2⟩
      · clear h e h1 hn1 hn2 hl1 hl2 h2
        go_enter Try.func93, Try.ntmps93
        go_wp2_with fail
        have hd : decide (0 ≤ pp) = false := by simp; omega
        apply region_class (SrAt w p1 p2 pn1 pc1 pn2 pc2 pp pq p s c l st sk re fe ag) (by kernel_rfl) (by kernel_rfl) (HS.out.drew)
        repeat (first
          | (apply step_skip (by rfl)
             simp only [Act.put, List.setIfInBounds_toArray, List.set_cons_zero, List.set_cons_succ])
          | (apply step_val (by rfl)
             · intro u hu
               obtain ⟨⟨_, g0, g1, g2, g3⟩, ⟨_, r0, r1, r2, r3, r4, r5, r6, r7, r8⟩, _⟩ := hu
               go_simp
               try with_reducible rfl
             simp only [Act.put, List.setIfInBounds_toArray, List.set_cons_zero, List.set_cons_succ])
          | (apply step_call (by rfl)
             · intro u
               go_simp
               exact ⟨rfl, rfl⟩
             · intro u hu
               (with_reducible refine (board_any p s c l st sk re fe ag (by unfold I64; omega) _).mono ?_); (rintro e u' ⟨rfl, hb5⟩; exact ⟨rfl, hu.below hb5⟩)
             simp only [Act.put, List.setIfInBounds_toArray, List.set_cons_zero, List.set_cons_succ]))
        apply step_nil
        intro w5 hs5
        have HS5 := Lib.hid hs5
        clear hs5
        go_wp2_with fail
        go_ret
        exact ⟨rfl, HS5.out.2.2⟩
/- VS7 -/
theorem RsAt.be {w u : World} {p s c l : Int} {st sk re fe ag : Bool} {p1 p2 : Option Addr} {pn1 pc1 pn2 pc2 : Nat} {pp pq : Int} (h : RsAt w p s c l st sk re fe ag p1 p2 pn1 pc1 pn2 pc2 pp pq u) : Below w.heap.size w u := h.2.2
theorem okS_eq (k : Bool) (p : Int) (st : Bool) (n1 n2 : Nat) (la lp pl : Int) (xs ys : List Int) :
  okS k p st n1 n2 la lp pl xs ys = (okP k p n1 n2 0 xs ys && isPl pl && (decide (1 ≤ lp) && decide (lp ≤ 100)) && lastB st p pl la xs ys) := by
 unfold okS
 rw [okP_pl]
def L6N (w : World) (b d : Nat) (p s c l : Int) (st sk re fe ag : Bool) (p1 p2 : Option Addr) (pn1 pc1 pn2 pc2 : Nat) (pp pq : Int) (u : World) : Prop := RuAt u b p s c l st sk re fe ag ∧ SoAt u d p1 p2 pn1 pc1 pn2 pc2 pp pq ∧ Below w.heap.size w u
def L6A (w : World) (b d : Nat) (p s c l : Int) (st sk re fe ag : Bool) (p1 p2 : Option Addr) (pn1 pc1 pn2 pc2 : Nat) (pp pq : Int) (q : Addr) (v : Int) (u : World) : Prop := RuAt u b p s c l st sk re fe ag ∧ SoAt u d p1 p2 pn1 pc1 pn2 pc2 pp pq ∧ u.cell? q = some (.int .i64 v) ∧ Below w.heap.size w u
section
variable {w u : World} {b d : Nat} {p s c l : Int} {st sk re fe ag : Bool} {p1 p2 : Option Addr} {pn1 pc1 pn2 pc2 : Nat} {pp pq : Int} {q : Addr} {v : Int}
theorem L6N.drew (h : L6N w b d p s c l st sk re fe ag p1 p2 pn1 pc1 pn2 pc2 pp pq u) : L6N w b d p s c l st sk re fe ag p1 p2 pn1 pc1 pn2 pc2 pp pq u.drew := ⟨h.1, h.2.1, h.2.2.drew⟩
theorem L6A.drew (h : L6A w b d p s c l st sk re fe ag p1 p2 pn1 pc1 pn2 pc2 pp pq q v u) : L6A w b d p s c l st sk re fe ag p1 p2 pn1 pc1 pn2 pc2 pp pq q v u.drew := ⟨h.1, h.2.1, h.2.2.1, h.2.2.2.drew⟩
theorem L6N.dn (h : L6N w b d p s c l st sk re fe ag p1 p2 pn1 pc1 pn2 pc2 pp pq u) (m : Nat) : L6N w b d p s c l st sk re fe ag p1 p2 pn1 pc1 pn2 pc2 pp pq (u.drewN m) := ⟨h.1, h.2.1, below_dn h.2.2 m⟩
theorem L6A.dn (h : L6A w b d p s c l st sk re fe ag p1 p2 pn1 pc1 pn2 pc2 pp pq q v u) (m : Nat) : L6A w b d p s c l st sk re fe ag p1 p2 pn1 pc1 pn2 pc2 pp pq q v (u.drewN m) := ⟨h.1, h.2.1, h.2.2.1, below_dn h.2.2.2 m⟩
end
theorem l06Ok_any (p s c l : Int) (st sk re fe ag : Bool) (p1 p2 : Option Addr) (pn1 pc1 pn2 pc2 : Nat) (pp pq : Int) (xs ys : List Int) (player : Int) (b d : Nat) (w : World) (hr : RuAt w b p s c l st sk re fe ag) (hs : SoAt w d p1 p2 pn1 pc1 pn2 pc2 pp pq) (h : PosR w p1 p2 pn1 pn2 xs ys) (k : Bool) (hk : okS (okR p s c l st ag) p st pn1 pn2 pp pq player xs ys = k) :
    Calls Try.prog 54 #[.pointer (some ⟨b, 0, none⟩), .pointer (some ⟨d, 0, none⟩), .int .i64 player] w fun e w' => e = .returned (.bool k) ∧ Below w.heap.size w w' := by
  rw [okS_eq] at hk
  have BB := Lib.hid ((Below.refl w.heap.size w).alloc (Nat.le_refl _) (.cells #[.slice p1 pn1 pc1, .slice p2 pn2 pc2, .int .i64 0] 32))
  have HRu : Hid (RuAt (w.alloc (.cells #[.slice p1 pn1 pc1, .slice p2 pn2 pc2, .int .i64 0] 32)).drew b p s c l st sk re fe ag) := Lib.hid (hr.below (al1 w (.cells #[.slice p1 pn1 pc1, .slice p2 pn2 pc2, .int .i64 0] 32)).drew)
  have HPo : Hid (PoAt (w.alloc (.cells #[.slice p1 pn1 pc1, .slice p2 pn2 pc2, .int .i64 0] 32)).drew w.heap.size p1 p2 pn1 pc1 pn2 pc2 0) := Lib.hid ((po_new p1 p2 pn1 pc1 pn2 pc2 0 w 32).below (Below.refl _ _).drew)
  have HSo : Hid (SoAt (w.alloc (.cells #[.slice p1 pn1 pc1, .slice p2 pn2 pc2, .int .i64 0] 32)).drew d p1 p2 pn1 pc1 pn2 pc2 pp pq) := Lib.hid (hs.below (al1 w (.cells #[.slice p1 pn1 pc1, .slice p2 pn2 pc2, .int .i64 0] 32)).drew)
  have HP : Hid (PosR (w.alloc (.cells #[.slice p1 pn1 pc1, .slice p2 pn2 pc2, .int .i64 0] 32)).drew p1 p2 pn1 pn2 xs ys) := Lib.hid (h.below (al1 w (.cells #[.slice p1 pn1 pc1, .slice p2 pn2 pc2, .int .i64 0] 32)).drew)
  obtain ⟨hsl, s0, s1, s2, s3⟩ := hs
  obtain ⟨hbl, r0, r1, r2, r3, r4, r5, r6, r7, r8⟩ := hr
  have H0 := Lib.hid h
  clear h
  rcases h1 : okP (okR p s c l st ag) p pn1 pn2 0 xs ys with _ | _
  · rw [h1] at hk
    simp only [Bool.false_and] at hk
    have H1 := Lib.hid h1
    have Hk := Lib.hid hk
    clear h1 hk
    rw [← Hk.out]
    go_enter Try.func54, Try.ntmps54
    go_wp2_with fail
    go_region
    go_wp2_with fail
    refine (l04Ok_at p s c l st sk re fe ag p1 p2 pn1 pc1 pn2 pc2 0 xs ys _ _ _ HRu.out HPo.out HP.out _ H1.out).mono ?_
    rintro e u ⟨rfl, m, rfl⟩
    go_wp2_with fail
    go_ret
    exact ⟨rfl, below_dn BB.out _⟩
  · rw [h1] at hk
    have hP := okP_parts h1
    have hR := okR_bd hP.1
    obtain ⟨hp2, hp8, -⟩ := hR
    obtain ⟨-, hn1, hn2, -, hsd⟩ := hP
    have H1 := Lib.hid h1
    have hq0 : (0 : Int) < (pn2 : Int) := by omega
    have hq1 : (1 : Int) < (pn2 : Int) := by omega
    have Hn1 := Lib.hid hn1
    have Hn2 := Lib.hid hn2
    rcases h2 : isPl player with _ | _
    · rw [h2] at hk
      simp only [Bool.true_and, Bool.false_and] at hk
      have Hk := Lib.hid hk
      have H2 : Hid ((decide (0 ≤ player) && decide (player ≤ 1)) = false) := Lib.hid h2
      clear h1 h2 hk hn1 hn2
      rw [← Hk.out]
      go_enter Try.func54, Try.ntmps54
      go_wp2_with fail
      go_region
      go_wp2_with fail
      refine (l04Ok_at p s c l st sk re fe ag p1 p2 pn1 pc1 pn2 pc2 0 xs ys _ _ _ HRu.out HPo.out HP.out _ H1.out).mono ?_
      rintro e u ⟨rfl, m, rfl⟩
      go_wp2_with fail
      refine (in_b player 0 1 false H2.out _).mono ?_
      rintro e u2 ⟨rfl, rfl⟩
      go_wp2_with fail
      go_ret
      exact ⟨rfl, below_dn BB.out _⟩
    · have hpl : player = 0 ∨ player = 1 := by
        unfold isPl at h2
        simp only [Bool.and_eq_true, decide_eq_true_eq] at h2
        omega
      rw [h2] at hk
      have H2 : Hid ((decide (0 ≤ player) && decide (player ≤ 1)) = true) := Lib.hid h2
      rcases h3 : (decide (1 ≤ pq) && decide (pq ≤ 100)) with _ | _
      · rw [h3] at hk
        simp only [Bool.true_and, Bool.false_and] at hk
        have Hk := Lib.hid hk
        have H3 := Lib.hid h3
        clear h1 h2 h3 hk hn1 hn2
        rw [← Hk.out]
        go_enter Try.func54, Try.ntmps54
        go_wp2_with fail
        go_region
        go_wp2_with fail
        refine (l04Ok_at p s c l st sk re fe ag p1 p2 pn1 pc1 pn2 pc2 0 xs ys _ _ _ HRu.out HPo.out HP.out _ H1.out).mono ?_
        rintro e u ⟨rfl, m, rfl⟩
        go_wp2_with fail
        refine (in_b player 0 1 true H2.out _).mono ?_
        rintro e u2 ⟨rfl, rfl⟩
        go_wp2_with fail
        refine (in_b pq 1 100 false H3.out _).mono ?_
        rintro e u3 ⟨rfl, rfl⟩
        go_wp2_with fail
        go_ret
        exact ⟨rfl, below_dn BB.out _⟩
      · rw [h3] at hk
        simp only [Bool.true_and] at hk
        have H3 := Lib.hid h3
        have Hk := Lib.hid hk
        have hl2 := HP.out.l2
        have hl1 := HP.out.l1
        clear h1 h2 h3 hk
        by_cases h4 : pp = -1
        · subst h4
          have hk := Hk.out
          unfold lastB at hk
          rw [if_pos rfl] at hk
          rcases st with _ | _
          · have Hk := Lib.hid hk
            clear hk hn1 hn2 hl1 hl2
            rw [← Hk.out]
            go_enter Try.func54, Try.ntmps54
            go_wp2_with fail
            go_region
            go_wp2_with fail
            refine (l04Ok_at p s c l false sk re fe ag p1 p2 pn1 pc1 pn2 pc2 0 xs ys _ _ _ HRu.out HPo.out HP.out _ H1.out).mono ?_
            rintro e u ⟨rfl, m, rfl⟩
            go_wp2_with fail
            refine (in_b player 0 1 true H2.out _).mono ?_
            rintro e u2 ⟨rfl, rfl⟩
            go_wp2_with fail
            refine (in_b pq 1 100 true H3.out _).mono ?_
            rintro e u3 ⟨rfl, rfl⟩
            go_wp2_with fail
            go_ret
            exact ⟨rfl, below_dn BB.out _⟩
          · skip
            rcases hpl with rfl | rfl
            · obtain ⟨g, o, rfl, hg, y⟩ := rowV (k := 0) H0.out.r2 (by omega)
              have hy : vAt ys ((0 : Nat) : Int) = vAt ys 0 := rfl
              rw [hy] at y
              try rw [Nat.add_zero] at y
              generalize vAt ys 0 = v at *
              have Hk := Lib.hid hk
              clear hk hy hn1 hn2 hl1 hl2
              rw [← Hk.out]
              go_enter Try.func54, Try.ntmps54
              go_wp2_with fail
              go_region
              go_wp2_with fail
              refine (l04Ok_at p s c l true sk re fe ag p1 (some ⟨g, o, none⟩) pn1 pc1 pn2 pc2 0 xs ys _ _ _ HRu.out HPo.out HP.out _ H1.out).mono ?_
              rintro e u ⟨rfl, m, rfl⟩
              go_wp2_with fail
              refine (in_b 0 0 1 true H2.out _).mono ?_
              rintro e u2 ⟨rfl, rfl⟩
              go_wp2_with fail
              refine (in_b pq 1 100 true H3.out _).mono ?_
              rintro e u3 ⟨rfl, rfl⟩
              go_wp2_with fail
              go_ret
              exact ⟨rfl, below_dn BB.out _⟩
            · obtain ⟨g, o, rfl, hg, y⟩ := rowV (k := 1) H0.out.r2 (by omega)
              have hy : vAt ys ((1 : Nat) : Int) = vAt ys 1 := rfl
              rw [hy] at y
              try rw [Nat.add_zero] at y
              generalize vAt ys 1 = v at *
              have Hk := Lib.hid hk
              clear hk hy hn1 hn2 hl1 hl2
              rw [← Hk.out]
              go_enter Try.func54, Try.ntmps54
              go_wp2_with fail
              go_region
              go_wp2_with fail
              refine (l04Ok_at p s c l true sk re fe ag p1 (some ⟨g, o, none⟩) pn1 pc1 pn2 pc2 0 xs ys _ _ _ HRu.out HPo.out HP.out _ H1.out).mono ?_
              rintro e u ⟨rfl, m, rfl⟩
              go_wp2_with fail
              refine (in_b 1 0 1 true H2.out _).mono ?_
              rintro e u2 ⟨rfl, rfl⟩
              go_wp2_with fail
              refine (in_b pq 1 100 true H3.out _).mono ?_
              rintro e u3 ⟨rfl, rfl⟩
              go_wp2_with fail
              go_ret
              exact ⟨rfl, below_dn BB.out _⟩
        · have e0 : (pp == (-1 : Int)) = false := by simpa using h4
          have hk := Hk.out
          unfold lastB at hk
          rw [if_neg h4] at hk
          rcases h5 : (decide (0 ≤ pp) && decide (pp ≤ 2 * p - 1)) with _ | _
          · rw [h5] at hk
            have H5 := Lib.hid h5
            have Hk := Lib.hid hk
            clear hk h5 h4 hn1 hn2 hl1 hl2
            rw [← Hk.out]
            go_enter Try.func54, Try.ntmps54
            go_wp2_with fail
            go_region
            go_wp2_with fail
            refine (l04Ok_at p s c l st sk re fe ag p1 p2 pn1 pc1 pn2 pc2 0 xs ys _ _ _ HRu.out HPo.out HP.out _ H1.out).mono ?_
            rintro e u ⟨rfl, m, rfl⟩
            go_wp2_with fail
            refine (in_b player 0 1 true H2.out _).mono ?_
            rintro e u2 ⟨rfl, rfl⟩
            go_wp2_with fail
            refine (in_b pq 1 100 true H3.out _).mono ?_
            rintro e u3 ⟨rfl, rfl⟩
            go_wp2_with fail
            have HX : Hid (L6N w b d p s c l st sk re fe ag p1 p2 pn1 pc1 pn2 pc2 pp pq ((w.alloc (.cells #[.slice p1 pn1 pc1, .slice p2 pn2 pc2, .int .i64 0] 32)).drewN (1 + m))) := Lib.hid ((show L6N w b d p s c l st sk re fe ag p1 p2 pn1 pc1 pn2 pc2 pp pq (w.alloc (.cells #[.slice p1 pn1 pc1, .slice p2 pn2 pc2, .int .i64 0] 32)) from ⟨HRu.out, HSo.out, BB.out⟩).dn _)
            clear hbl r0 r1 r2 r3 r4 r5 r6 r7 r8 hsl s0 s1 s2 s3
            have hw1 : IntKind.i64.wrap (2 * p) = 2 * p := IntWalk.i64_in _ ⟨by omega, by omega⟩
            have hw2 : IntKind.i64.wrap (2 * p - 1) = 2 * p - 1 := IntWalk.i64_in _ ⟨by omega, by omega⟩
            apply region_class (L6N w b d p s c l st sk re fe ag p1 p2 pn1 pc1 pn2 pc2 pp pq) (by kernel_rfl) (by kernel_rfl) (HX.out.drew)
            repeat (first
              | (apply step_skip (by rfl)
                 simp only [Act.put, List.setIfInBounds_toArray, List.set_cons_zero, List.set_cons_succ])
              | (apply step_val (by rfl)
                 · intro u hu
                   obtain ⟨⟨_, r0, r1, r2, r3, r4, r5, r6, r7, r8⟩, ⟨_, g0, g1, g2, g3⟩, _⟩ := hu
                   go_simp
                   try with_reducible rfl
                 simp only [Act.put, List.setIfInBounds_toArray, List.set_cons_zero, List.set_cons_succ])
              | (apply step_call (by rfl)
                 · intro u
                   go_simp
                   exact ⟨rfl, rfl⟩
                 · intro u hu
                   (with_reducible refine (in_b pp 0 (2 * p - 1) false H5.out _).mono ?_); (rintro e u' ⟨rfl, rfl⟩; exact ⟨rfl, hu⟩)
                 simp only [Act.put, List.setIfInBounds_toArray, List.set_cons_zero, List.set_cons_succ]))
            apply step_nil
            intro w5 hs5
            have HS5 := Lib.hid hs5
            clear hs5
            go_wp2_with fail
            go_ret
            exact ⟨rfl, HS5.out.2.2⟩
          · rw [h5] at hk
            have H5 := Lib.hid h5
            simp only [Bool.and_eq_true, decide_eq_true_eq] at h5
            obtain ⟨L, rfl⟩ : ∃ L : Nat, pp = (L : Int) := ⟨pp.toNat, by omega⟩
            obtain ⟨g, o, rfl, hg, y⟩ := rowV (k := L) HP.out.r1 (by omega)
            have q1 : (L : Int) < (pn1 : Int) := by omega
            generalize vAt xs (L : Int) = v at *
            have Hk := Lib.hid hk
            clear hk h5 h4 hn1 hn2 hl1 hl2
            rw [← Hk.out]
            go_enter Try.func54, Try.ntmps54
            go_wp2_with fail
            go_region
            go_wp2_with fail
            refine (l04Ok_at p s c l st sk re fe ag (some ⟨g, o, none⟩) p2 pn1 pc1 pn2 pc2 0 xs ys _ _ _ HRu.out HPo.out HP.out _ H1.out).mono ?_
            rintro e u ⟨rfl, m, rfl⟩
            go_wp2_with fail
            refine (in_b player 0 1 true H2.out _).mono ?_
            rintro e u2 ⟨rfl, rfl⟩
            go_wp2_with fail
            refine (in_b pq 1 100 true H3.out _).mono ?_
            rintro e u3 ⟨rfl, rfl⟩
            go_wp2_with fail
            have HX : Hid (L6A w b d p s c l st sk re fe ag (some ⟨g, o, none⟩) p2 pn1 pc1 pn2 pc2 (L : Int) pq ⟨g, o + L, none⟩ v ((w.alloc (.cells #[.slice (some ⟨g, o, none⟩) pn1 pc1, .slice p2 pn2 pc2, .int .i64 0] 32)).drewN (1 + m))) := Lib.hid ((show L6A w b d p s c l st sk re fe ag (some ⟨g, o, none⟩) p2 pn1 pc1 pn2 pc2 (L : Int) pq ⟨g, o + L, none⟩ v (w.alloc (.cells #[.slice (some ⟨g, o, none⟩) pn1 pc1, .slice p2 pn2 pc2, .int .i64 0] 32)) from ⟨HRu.out, HSo.out, y, BB.out⟩).dn _)
            clear y
            clear hbl r0 r1 r2 r3 r4 r5 r6 r7 r8 hsl s0 s1 s2 s3
            have hw1 : IntKind.i64.wrap (2 * p) = 2 * p := IntWalk.i64_in _ ⟨by omega, by omega⟩
            have hw2 : IntKind.i64.wrap (2 * p - 1) = 2 * p - 1 := IntWalk.i64_in _ ⟨by omega, by omega⟩
            apply region_class (L6A w b d p s c l st sk re fe ag (some ⟨g, o, none⟩) p2 pn1 pc1 pn2 pc2 (L : Int) pq ⟨g, o + L, none⟩ v) (by kernel_rfl) (by kernel_rfl) (HX.out.drew)
            repeat (first
              | (apply step_skip (by rfl)
                 simp only [Act.put, List.setIfInBounds_toArray, List.set_cons_zero, List.set_cons_succ])
              | (apply step_val (by rfl)
                 · intro u hu
                   obtain ⟨⟨_, r0, r1, r2, r3, r4, r5, r6, r7, r8⟩, ⟨_, g0, g1, g2, g3⟩, yv, _⟩ := hu
                   go_simp
                   try with_reducible rfl
                 simp only [Act.put, List.setIfInBounds_toArray, List.set_cons_zero, List.set_cons_succ])
              | (apply step_call (by rfl)
                 · intro u
                   go_simp
                   exact ⟨rfl, rfl⟩
                 · intro u hu
                   (with_reducible refine (in_b (L : Int) 0 (2 * p - 1) true H5.out _).mono ?_); (rintro e u' ⟨rfl, rfl⟩; exact ⟨rfl, hu⟩)
                 simp only [Act.put, List.setIfInBounds_toArray, List.set_cons_zero, List.set_cons_succ]))
            apply step_nil
            intro w5 hs5
            have HS5 := Lib.hid hs5
            clear hs5
            go_wp2_with fail
            go_ret
            exact ⟨rfl, HS5.out.2.2.2⟩
theorem implVS_b (p s c l : Int) (st sk re fe ag : Bool) (p1 p2 : Option Addr) (pn1 pc1 pn2 pc2 : Nat) (pp pq : Int) (xs ys : List Int) (player : Int) (w : World) (h : PosR w p1 p2 pn1 pn2 xs ys) (k : Bool) (hk : okS (okR p s c l st ag) p st pn1 pn2 pp pq player xs ys = k) :
    Calls Try.prog 75 #[.agg #[.int .i64 p, .int .i64 s, .bool st, .bool sk, .bool re, .bool fe, .bool ag, .int .i64 c, .int .i64 l], .agg #[.slice p1 pn1 pc1, .slice p2 pn2 pc2, .int .i64 pp, .int .i64 pq], .int .i64 player] w fun e w' => e = .returned (.bool k) ∧ Below w.heap.size w w' := by
  have H := Lib.hid h
  have HS := Lib.hid (rs_new p s c l st sk re fe ag p1 p2 pn1 pc1 pn2 pc2 pp pq w 30 50)
  unfold okS at hk
  rw [lastB_eq] at hk
  clear h
  rcases h1 : okP (okR p s c l st ag) p pn1 pn2 player xs ys with _ | _
  · rw [h1] at hk
    simp only [Bool.false_and] at hk
    subst hk
    have H1 := Lib.hid h1
    clear h1
    go_enter Try.func75, Try.ntmps75
    go_wp2_with fail
    apply region_class (RsAt w p s c l st sk re fe ag p1 p2 pn1 pc1 pn2 pc2 pp pq) (by kernel_rfl) (by kernel_rfl) (HS.out.drew)
    repeat (first
      | (apply step_skip (by rfl)
         simp only [Act.put, List.setIfInBounds_toArray, List.set_cons_zero, List.set_cons_succ])
      | (apply step_val (by rfl)
         · intro u hu
           obtain ⟨⟨_, r0, r1, r2, r3, r4, r5, r6, r7, r8⟩, ⟨_, g0, g1, g2, g3⟩, _⟩ := hu
           go_simp
           try with_reducible rfl
         simp only [Act.put, List.setIfInBounds_toArray, List.set_cons_zero, List.set_cons_succ])
      | (apply step_call (by rfl)
         · intro u
           go_simp
           exact ⟨rfl, rfl⟩
         · intro u hu
           (with_reducible refine (position_any p1 p2 pn1 pc1 pn2 pc2 pp pq player _).mono ?_); (rintro e u' ⟨rfl, hb5⟩; exact ⟨rfl, hu.below hb5⟩)
         simp only [Act.put, List.setIfInBounds_toArray, List.set_cons_zero, List.set_cons_succ])
      | (apply step_call (by rfl)
         · intro u
           go_simp
           exact ⟨rfl, rfl⟩
         · intro u hu
           (with_reducible refine (implValid_b p s c l st sk re fe ag p1 p2 pn1 pc1 pn2 pc2 player xs ys _ (H.out.below hu.be) _ H1.out).mono ?_); (rintro e u' ⟨rfl, hb5⟩; exact ⟨rfl, hu.below hb5⟩)
         simp only [Act.put, List.setIfInBounds_toArray, List.set_cons_zero, List.set_cons_succ]))
    apply step_nil
    intro w5 hs5
    have HS5 := Lib.hid hs5
    clear hs5
    go_wp2_with fail
    go_ret
    exact ⟨rfl, HS5.out.2.2⟩
  · have hP := okP_parts h1
    have hR := okR_bd hP.1
    have hpq := And.intro hR.1 hR.2.1
    have hn1 := hP.2.1
    have hn2 := hP.2.2.1
    have hpl : player = 0 ∨ player = 1 := by have := hP.2.2.2.1; omega
    rw [h1] at hk
    generalize hv : lastV st p player pp xs ys = v at *
    have Hv := Lib.hid hv
    have H1 := Lib.hid h1
    have Hpq := Lib.hid hpq
    have Hn1 := Lib.hid hn1
    have Hpl := Lib.hid hpl
    have Hn2 := Lib.hid hn2
    clear h1 hP hR hpq hn1 hpl hv hn2
    by_cases h2 : 0 < v
    · by_cases h3 : 1 ≤ pq
      · by_cases h4 : pq ≤ 100
        · have e : k = true := by rw [← hk]; simp [h2, h3, h4]
          have t2 : decide (0 < v) = true := by simpa using h2
          have t3 : decide (1 ≤ pq) = true := by simpa using h3
          have t4 : decide (pq ≤ 100) = true := by simpa using h4
          subst e
          clear hk
          go_enter Try.func75, Try.ntmps75
          go_wp2_with fail
          apply region_class (RsAt w p s c l st sk re fe ag p1 p2 pn1 pc1 pn2 pc2 pp pq) (by kernel_rfl) (by kernel_rfl) (HS.out.drew)
          repeat (first
            | (apply step_skip (by rfl)
               simp only [Act.put, List.setIfInBounds_toArray, List.set_cons_zero, List.set_cons_succ])
            | (apply step_val (by rfl)
               · intro u hu
                 obtain ⟨⟨_, r0, r1, r2, r3, r4, r5, r6, r7, r8⟩, ⟨_, g0, g1, g2, g3⟩, _⟩ := hu
                 go_simp
                 try with_reducible rfl
               simp only [Act.put, List.setIfInBounds_toArray, List.set_cons_zero, List.set_cons_succ])
            | (apply step_call (by rfl)
               · intro u
                 go_simp
                 exact ⟨rfl, rfl⟩
               · intro u hu
                 (with_reducible refine (position_any p1 p2 pn1 pc1 pn2 pc2 pp pq player _).mono ?_); (rintro e u' ⟨rfl, hb5⟩; exact ⟨rfl, hu.below hb5⟩)
               simp only [Act.put, List.setIfInBounds_toArray, List.set_cons_zero, List.set_cons_succ])
            | (apply step_call (by rfl)
               · intro u
                 go_simp
                 exact ⟨rfl, rfl⟩
               · intro u hu
                 (with_reducible refine (implValid_b p s c l st sk re fe ag p1 p2 pn1 pc1 pn2 pc2 player xs ys _ (H.out.below hu.be) _ H1.out).mono ?_); (rintro e u' ⟨rfl, hb5⟩; exact ⟨rfl, hu.below hb5⟩)
               simp only [Act.put, List.setIfInBounds_toArray, List.set_cons_zero, List.set_cons_succ])
            | (apply step_call (by rfl)
               · intro u
                 go_simp
                 exact ⟨rfl, rfl⟩
               · intro u hu
                 (with_reducible refine (lastSeeds_any p s c l st sk re fe ag p1 p2 pn1 pc1 pn2 pc2 pp pq xs ys player _ (H.out.below hu.be) Hpq.out Hn1.out Hn2.out Hpl.out).mono ?_); (rintro e u' ⟨rfl, hb5⟩; rw [Hv.out]; exact ⟨rfl, hu.below hb5⟩)
               simp only [Act.put, List.setIfInBounds_toArray, List.set_cons_zero, List.set_cons_succ]))
          apply step_nil
          intro w5 hs5
          have HS5 := Lib.hid hs5
          clear hs5
          go_wp2_with fail
          go_ret
          exact ⟨rfl, HS5.out.2.2⟩
        · have e : k = false := by rw [← hk]; simp [h2, h3, h4]
          have t2 : decide (0 < v) = true := by simpa using h2
          have t3 : decide (1 ≤ pq) = true := by simpa using h3
          have t4 : decide (pq ≤ 100) = false := by simpa using h4
          subst e
          clear hk
          go_enter Try.func75, Try.ntmps75
          go_wp2_with fail
          apply region_class (RsAt w p s c l st sk re fe ag p1 p2 pn1 pc1 pn2 pc2 pp pq) (by kernel_rfl) (by kernel_rfl) (HS.out.drew)
          repeat (first
            | (apply step_skip (by rfl)
               simp only [Act.put, List.setIfInBounds_toArray, List.set_cons_zero, List.set_cons_succ])
            | (apply step_val (by rfl)
               · intro u hu
                 obtain ⟨⟨_, r0, r1, r2, r3, r4, r5, r6, r7, r8⟩, ⟨_, g0, g1, g2, g3⟩, _⟩ := hu
                 go_simp
                 try with_reducible rfl
               simp only [Act.put, List.setIfInBounds_toArray, List.set_cons_zero, List.set_cons_succ])
            | (apply step_call (by rfl)
               · intro u
                 go_simp
                 exact ⟨rfl, rfl⟩
               · intro u hu
                 (with_reducible refine (position_any p1 p2 pn1 pc1 pn2 pc2 pp pq player _).mono ?_); (rintro e u' ⟨rfl, hb5⟩; exact ⟨rfl, hu.below hb5⟩)
               simp only [Act.put, List.setIfInBounds_toArray, List.set_cons_zero, List.set_cons_succ])
            | (apply step_call (by rfl)
               · intro u
                 go_simp
                 exact ⟨rfl, rfl⟩
               · intro u hu
                 (with_reducible refine (implValid_b p s c l st sk re fe ag p1 p2 pn1 pc1 pn2 pc2 player xs ys _ (H.out.below hu.be) _ H1.out).mono ?_); (rintro e u' ⟨rfl, hb5⟩; exact ⟨rfl, hu.below hb5⟩)
               simp only [Act.put, List.setIfInBounds_toArray, List.set_cons_zero, List.set_cons_succ])
            | (apply step_call (by rfl)
               · intro u
                 go_simp
                 exact ⟨rfl, rfl⟩
               · intro u hu
                 (with_reducible refine (lastSeeds_any p s c l st sk re fe ag p1 p2 pn1 pc1 pn2 pc2 pp pq xs ys player _ (H.out.below hu.be) Hpq.out Hn1.out Hn2.out Hpl.out).mono ?_); (rintro e u' ⟨rfl, hb5⟩; rw [Hv.out]; exact ⟨rfl, hu.below hb5⟩)
               simp only [Act.put, List.setIfInBounds_toArray, List.set_cons_zero, List.set_cons_succ]))
          apply step_nil
          intro w5 hs5
          have HS5 := Lib.hid hs5
          clear hs5
          go_wp2_with fail
          go_ret
          exact ⟨rfl, HS5.out.2.2⟩
      · have e : k = false := by rw [← hk]; simp [h2, h3]
        have t2 : decide (0 < v) = true := by simpa using h2
        have t3 : decide (1 ≤ pq) = false := by simpa using h3
        subst e
        clear hk
        go_enter Try.func75, Try.ntmps75
        go_wp2_with fail
        apply region_class (RsAt w p s c l st sk re fe ag p1 p2 pn1 pc1 pn2 pc2 pp pq) (by kernel_rfl) (by kernel_rfl) (HS.out.drew)
        repeat (first
          | (apply step_skip (by rfl)
             simp only [Act.put, List.setIfInBounds_toArray, List.set_cons_zero, List.set_cons_succ])
          | (apply step_val (by rfl)
             · intro u hu
               obtain ⟨⟨_, r0, r1, r2, r3, r4, r5, r6, r7, r8⟩, ⟨_, g0, g1, g2, g3⟩, _⟩ := hu
               go_simp
               try with_reducible rfl
             simp only [Act.put, List.setIfInBounds_toArray, List.set_cons_zero, List.set_cons_succ])
          | (apply step_call (by rfl)
             · intro u
               go_simp
               exact ⟨rfl, rfl⟩
             · intro u hu
               (with_reducible refine (position_any p1 p2 pn1 pc1 pn2 pc2 pp pq player _).mono ?_); (rintro e u' ⟨rfl, hb5⟩; exact ⟨rfl, hu.below hb5⟩)
             simp only [Act.put, List.setIfInBounds_toArray, List.set_cons_zero, List.set_cons_succ])
          | (apply step_call (by rfl)
             · intro u
               go_simp
               exact ⟨rfl, rfl⟩
             · intro u hu
               (with_reducible refine (implValid_b p s c l st sk re fe ag p1 p2 pn1 pc1 pn2 pc2 player xs ys _ (H.out.below hu.be) _ H1.out).mono ?_); (rintro e u' ⟨rfl, hb5⟩; exact ⟨rfl, hu.below hb5⟩)
             simp only [Act.put, List.setIfInBounds_toArray, List.set_cons_zero, List.set_cons_succ])
          | (apply step_call (by rfl)
             · intro u
               go_simp
               exact ⟨rfl, rfl⟩
             · intro u hu
               (with_reducible refine (lastSeeds_any p s c l st sk re fe ag p1 p2 pn1 pc1 pn2 pc2 pp pq xs ys player _ (H.out.below hu.be) Hpq.out Hn1.out Hn2.out Hpl.out).mono ?_); (rintro e u' ⟨rfl, hb5⟩; rw [Hv.out]; exact ⟨rfl, hu.below hb5⟩)
             simp only [Act.put, List.setIfInBounds_toArray, List.set_cons_zero, List.set_cons_succ]))
        apply step_nil
        intro w5 hs5
        have HS5 := Lib.hid hs5
        clear hs5
        go_wp2_with fail
        go_ret
        exact ⟨rfl, HS5.out.2.2⟩
    · have e : k = false := by rw [← hk]; simp [h2]
      have t2 : decide (0 < v) = false := by simpa using h2
      subst e
      clear hk
      go_enter Try.func75, Try.ntmps75
      go_wp2_with fail
      apply region_class (RsAt w p s c l st sk re fe ag p1 p2 pn1 pc1 pn2 pc2 pp pq) (by kernel_rfl) (by kernel_rfl) (HS.out.drew)
      repeat (first
        | (apply step_skip (by rfl)
           simp only [Act.put, List.setIfInBounds_toArray, List.set_cons_zero, List.set_cons_succ])
        | (apply step_val (by rfl)
           · intro u hu
             obtain ⟨⟨_, r0, r1, r2, r3, r4, r5, r6, r7, r8⟩, ⟨_, g0, g1, g2, g3⟩, _⟩ := hu
             go_simp
             try with_reducible rfl
           simp only [Act.put, List.setIfInBounds_toArray, List.set_cons_zero, List.set_cons_succ])
        | (apply step_call (by rfl)
           · intro u
             go_simp
             exact ⟨rfl, rfl⟩
           · intro u hu
             (with_reducible refine (position_any p1 p2 pn1 pc1 pn2 pc2 pp pq player _).mono ?_); (rintro e u' ⟨rfl, hb5⟩; exact ⟨rfl, hu.below hb5⟩)
           simp only [Act.put, List.setIfInBounds_toArray, List.set_cons_zero, List.set_cons_succ])
        | (apply step_call (by rfl)
           · intro u
             go_simp
             exact ⟨rfl, rfl⟩
           · intro u hu
             (with_reducible refine (implValid_b p s c l st sk re fe ag p1 p2 pn1 pc1 pn2 pc2 player xs ys _ (H.out.below hu.be) _ H1.out).mono ?_); (rintro e u' ⟨rfl, hb5⟩; exact ⟨rfl, hu.below hb5⟩)
           simp only [Act.put, List.setIfInBounds_toArray, List.set_cons_zero, List.set_cons_succ])
        | (apply step_call (by rfl)
           · intro u
             go_simp
             exact ⟨rfl, rfl⟩
           · intro u hu
             (with_reducible refine (lastSeeds_any p s c l st sk re fe ag p1 p2 pn1 pc1 pn2 pc2 pp pq xs ys player _ (H.out.below hu.be) Hpq.out Hn1.out Hn2.out Hpl.out).mono ?_); (rintro e u' ⟨rfl, hb5⟩; rw [Hv.out]; exact ⟨rfl, hu.below hb5⟩)
           simp only [Act.put, List.setIfInBounds_toArray, List.set_cons_zero, List.set_cons_succ]))
      apply step_nil
      intro w5 hs5
      have HS5 := Lib.hid hs5
      clear hs5
      go_wp2_with fail
      go_ret
      exact ⟨rfl, HS5.out.2.2⟩
/- Cap7 -/
def CpAt (w : World) (p s c l : Int) (st sk re fe ag : Bool) (player : Int) (p1 p2 : Option Addr) (pn1 pc1 pn2 pc2 : Nat) (pp pq : Int) (u : World) : Prop := (w.heap.size < u.heap.size ∧ u.cell? ⟨w.heap.size, 0, none⟩ = some (.int .i64 p) ∧ u.cell? ⟨w.heap.size, 1, none⟩ = some (.int .i64 s) ∧ u.cell? ⟨w.heap.size, 2, none⟩ = some (.bool st) ∧ u.cell? ⟨w.heap.size, 3, none⟩ = some (.bool sk) ∧ u.cell? ⟨w.heap.size, 4, none⟩ = some (.bool re) ∧ u.cell? ⟨w.heap.size, 5, none⟩ = some (.bool fe) ∧ u.cell? ⟨w.heap.size, 6, none⟩ = some (.bool ag) ∧ u.cell? ⟨w.heap.size, 7, none⟩ = some (.int .i64 c) ∧ u.cell? ⟨w.heap.size, 8, none⟩ = some (.int .i64 l) ∧ u.cell? ⟨w.heap.size, 9, none⟩ = some (.int .i64 player) ∧ u.cell? ⟨w.heap.size, 10, none⟩ = some (.slice p1 pn1 pc1) ∧ u.cell? ⟨w.heap.size, 11, none⟩ = some (.slice p2 pn2 pc2) ∧ u.cell? ⟨w.heap.size, 12, none⟩ = some (.int .i64 pp) ∧ u.cell? ⟨w.heap.size, 13, none⟩ = some (.int .i64 pq)) ∧ Below w.heap.size w u
section
variable {w u v : World} {p s c l player : Int} {st sk re fe ag : Bool} {p1 p2 : Option Addr} {pn1 pc1 pn2 pc2 : Nat} {pp pq : Int}
theorem CpAt.below (h : CpAt w p s c l st sk re fe ag player p1 p2 pn1 pc1 pn2 pc2 pp pq u) (k : Below u.heap.size u v) : CpAt w p s c l st sk re fe ag player p1 p2 pn1 pc1 pn2 pc2 pp pq v := by
 obtain ⟨⟨hb, h⟩, hw⟩ := h
 have e := fun o => k.cell (p := ⟨w.heap.size, o, none⟩) hb
 exact ⟨⟨Nat.lt_of_lt_of_le hb k.size, by rw [e, e, e, e, e, e, e, e, e, e, e, e, e, e]; exact h⟩, hw.trans (k.mono hw.size)⟩
theorem CpAt.drew (h : CpAt w p s c l st sk re fe ag player p1 p2 pn1 pc1 pn2 pc2 pp pq u) : CpAt w p s c l st sk re fe ag player p1 p2 pn1 pc1 pn2 pc2 pp pq u.drew := ⟨h.1, h.2.drew⟩
theorem CpAt.be (h : CpAt w p s c l st sk re fe ag player p1 p2 pn1 pc1 pn2 pc2 pp pq u) : Below w.heap.size w u := h.2
end
theorem cp_new (p s c l : Int) (st sk re fe ag : Bool) (player : Int) (p1 p2 : Option Addr) (pn1 pc1 pn2 pc2 : Nat) (pp pq : Int) (w : World) (T : TypeId) : CpAt w p s c l st sk re fe ag player p1 p2 pn1 pc1 pn2 pc2 pp pq (w.alloc (.cells #[.int .i64 p, .int .i64 s, .bool st, .bool sk, .bool re, .bool fe, .bool ag, .int .i64 c, .int .i64 l, .int .i64 player, .slice p1 pn1 pc1, .slice p2 pn2 pc2, .int .i64 pp, .int .i64 pq] T)) :=
 ⟨⟨by simp, by go_simp, by go_simp, by go_simp, by go_simp, by go_simp, by go_simp, by go_simp, by go_simp, by go_simp, by go_simp, by go_simp, by go_simp, by go_simp, by go_simp⟩, (Below.refl _ _).alloc (Nat.le_refl _) _⟩
theorem owns_any (p s c l : Int) (st sk re fe ag : Bool) (player place : Int) (w : World) (hp : 2 ≤ p ∧ p ≤ 8) (hpl : player = 0 ∨ player = 1) :
  Calls Try.prog 108 #[.agg #[.int .i64 p, .int .i64 s, .bool st, .bool sk, .bool re, .bool fe, .bool ag, .int .i64 c, .int .i64 l], .int .i64 player, .int .i64 place] w fun e w' => e = .returned (.bool (ownB p player place)) ∧ Below w.heap.size w w' := by
 obtain ⟨hp2, hp8⟩ := hp
 have BB := Lib.hid ((Below.refl w.heap.size w).alloc (Nat.le_refl _) (.cells #[.int .i64 p, .int .i64 s, .bool st, .bool sk, .bool re, .bool fe, .bool ag, .int .i64 c, .int .i64 l] 30))
 have hw1 : IntKind.i64.wrap p = p := IntWalk.i64_in _ ⟨by omega, by omega⟩
 have hw2 : IntKind.i64.wrap (2 * p) = 2 * p := IntWalk.i64_in _ ⟨by omega, by omega⟩
 rcases (show player = 0 ∨ player ≠ 0 from Decidable.em _) with rfl | hno
 ·by_cases h1 : 0 ≤ place
  ·have d1 : decide (0 ≤ place) = true := by simpa using h1
   by_cases h2 : place < p
   ·have d2 : decide (place < p) = true := by simpa using h2
    have e : ownB p 0 place = true := by unfold ownB; simp; omega
    rw [e]
    go_enter Try.func108, Try.ntmps108
    go_wp2_with fail
    go_ret
    exact ⟨rfl, BB.out⟩
   ·have d2 : decide (place < p) = false := by simpa using h2
    have e : ownB p 0 place = false := by unfold ownB; simp; omega
    rw [e]
    go_enter Try.func108, Try.ntmps108
    go_wp2_with fail
    go_ret
    exact ⟨rfl, BB.out⟩
  ·have d1 : decide (0 ≤ place) = false := by simpa using h1
   have e : ownB p 0 place = false := by unfold ownB; simp; omega
   rw [e]
   go_enter Try.func108, Try.ntmps108
   go_wp2_with fail
   go_ret
   exact ⟨rfl, BB.out⟩
 rcases (show player = 1 ∨ player ≠ 1 from Decidable.em _) with rfl | hno
 ·by_cases h1 : p ≤ place
  ·have d1 : decide (p ≤ place) = true := by simpa using h1
   by_cases h2 : place < 2 * p
   ·have d2 : decide (place < 2 * p) = true := by simpa using h2
    have e : ownB p 1 place = true := by unfold ownB; simp; omega
    rw [e]
    go_enter Try.func108, Try.ntmps108
    go_wp2_with fail
    go_ret
    exact ⟨rfl, BB.out⟩
   ·have d2 : decide (place < 2 * p) = false := by simpa using h2
    have e : ownB p 1 place = false := by unfold ownB; simp; omega
    rw [e]
    go_enter Try.func108, Try.ntmps108
    go_wp2_with fail
    go_ret
    exact ⟨rfl, BB.out⟩
  ·have d1 : decide (p ≤ place) = false := by simpa using h1
   have e : ownB p 1 place = false := by unfold ownB; simp; omega
   rw [e]
   go_enter Try.func108, Try.ntmps108
   go_wp2_with fail
   go_ret
   exact ⟨rfl, BB.out⟩
 ·omega
theorem isOther_any (p s c l : Int) (st sk re fe ag : Bool) (player : Int) (p1 p2 : Option Addr) (pn1 pc1 pn2 pc2 : Nat) (pp pq : Int) (place : Int) (w : World) (hp : 2 ≤ p ∧ p ≤ 8) (hpl : player = 0 ∨ player = 1) :
  Calls Try.prog 105 #[.agg #[.int .i64 p, .int .i64 s, .bool st, .bool sk, .bool re, .bool fe, .bool ag, .int .i64 c, .int .i64 l, .int .i64 player, .slice p1 pn1 pc1, .slice p2 pn2 pc2, .int .i64 pp, .int .i64 pq], .int .i64 place] w fun e w' => e = .returned (.bool (ownB p (1 - player) place)) ∧ Below w.heap.size w w' := by
 have HS := Lib.hid (cp_new p s c l st sk re fe ag player p1 p2 pn1 pc1 pn2 pc2 pp pq w 73)
 have hw1 : IntKind.i64.wrap (1 - player) = 1 - player := IntWalk.i64_in _ ⟨by omega, by omega⟩
 have HP := Lib.hid hp
 have HPl : Hid (1 - player = 0 ∨ 1 - player = 1) := Lib.hid (by omega)
 clear hp hpl
 go_enter Try.func105, Try.ntmps105
 go_wp2_with (go_at_call 108; refine (owns_any p s c l st sk re fe ag (1 - player) place _ HP.out HPl.out).mono ?_; rintro e w1 ⟨rfl, hb1⟩; obtain ⟨hc1, hf1⟩ := bcell hb1; have hs1 := hb1.size; (try simp at hs1); (try have hz1 : w.heap.size < w1.heap.size := by omega); (try have hy1 : w.heap.size + 1 < w1.heap.size := by omega); (try have hx1 := fun o => hc1 w.heap.size o (by first | omega | (simp; done) | (simp; omega))); (try have hv1 := fun o => hc1 (w.heap.size + 1) o (by first | omega | (simp; done) | (simp; omega))))
 go_ret
 exact ⟨rfl, (by repeat (first | exact Below.refl _ _ | assumption | (refine Below.drew ?_) | (refine Below.setCell ?_ (by first | omega | (simp; done) | (simp; omega)) _) | (refine Below.alloc ?_ (by first | omega | (simp; done) | (simp; omega)) _) | (refine Below.trans ?_ (Below.mono (by assumption) (by first | omega | (simp; done) | (simp; omega))))))⟩
theorem seedsIn_any (p s c l : Int) (st sk re fe ag : Bool) (player : Int) (p1 p2 : Option Addr) (pn1 pc1 pn2 pc2 : Nat) (pp pq : Int) (xs ys L : List Int) (a : Option Addr) (cc n : Nat) (w : World) (h : PosR w p1 p2 pn1 pn2 xs ys) (hp : posB xs = true) (ht : tot xs ≤ 96) (hL : ∀ k ∈ L, 0 ≤ k ∧ k < (pn1 : Int)) (hn : L.length = n) (hn16 : n ≤ 1000) (ha : RowN w a L) :
  Calls Try.prog 61 #[.agg #[.int .i64 p, .int .i64 s, .bool st, .bool sk, .bool re, .bool fe, .bool ag, .int .i64 c, .int .i64 l, .int .i64 player, .slice p1 pn1 pc1, .slice p2 pn2 pc2, .int .i64 pp, .int .i64 pq], .slice a n cc] w fun e w' => e = .returned (.int .i64 (sumAt xs L)) ∧ Below w.heap.size w w' := by
 have HS := Lib.hid (cp_new p s c l st sk re fe ag player p1 p2 pn1 pc1 pn2 pc2 pp pq w 73)
 obtain ⟨_, c0, c1, c2, c3, c4, c5, c6, c7, c8, c9, c10, c11, c12, c13⟩ := HS.out.1
 have H := Lib.hid (h.alloc (.cells #[.int .i64 p, .int .i64 s, .bool st, .bool sk, .bool re, .bool fe, .bool ag, .int .i64 c, .int .i64 l, .int .i64 player, .slice p1 pn1 pc1, .slice p2 pn2 pc2, .int .i64 pp, .int .i64 pq] 73))
 have HA := Lib.hid (ha.alloc (.cells #[.int .i64 p, .int .i64 s, .bool st, .bool sk, .bool re, .bool fe, .bool ag, .int .i64 c, .int .i64 l, .int .i64 player, .slice p1 pn1 pc1, .slice p2 pn2 pc2, .int .i64 pp, .int .i64 pq] 73))
 clear h ha
 go_enter Try.func61, Try.ntmps61
 go_wp2
 generalize w.alloc (.cells #[.int .i64 p, .int .i64 s, .bool st, .bool sk, .bool re, .bool fe, .bool ag, .int .i64 c, .int .i64 l, .int .i64 player, .slice p1 pn1 pc1, .slice p2 pn2 pc2, .int .i64 pp, .int .i64 pq] 73) = w1 at *
 go_loop [5, 10] (fun s i => ∃ (k : Nat) (t : Int), k ≤ n ∧ i = .int .i64 k ∧ s = .int .i64 t ∧ t = sumAt xs (L.take k)) (fun _ i => n - (intOf i).toNat)
 case atStart => exact ⟨0, 0, Nat.zero_le _, rfl, rfl, rfl⟩
 case round =>
  obtain ⟨k, t, hk, rfl, rfl, ht'⟩ := hrel
  have hb := sumAt_bd hp ht (L.take k)
  rw [← ht', List.length_take] at hb
  obtain ⟨b0, b1⟩ := hb
  have b2 : t ≤ 96 * 1000 := by omega
  have Ht := Lib.hid ht'
  have HpT := Lib.hid (And.intro hp ht)
  clear ht' b1
  by_cases hlt : k < n
  ·obtain ⟨q, hq⟩ : ∃ q, L[k]? = some q := ⟨L[k]'(by rw [hn]; exact hlt), List.getElem?_eq_getElem _⟩
   obtain ⟨q0, q1⟩ := hL q (List.mem_of_getElem? hq)
   obtain ⟨Q, rfl⟩ : ∃ Q : Nat, q = (Q : Int) := ⟨q.toNat, by omega⟩
   have hne : L ≠ [] := by intro e; subst e; cases hq
   obtain ⟨ga, oa, rfl, hga, hca⟩ := HA.out.2.resolve_left hne
   have ya := hca k _ hq
   obtain ⟨g, o, rfl, hg, y⟩ := rowV (k := Q) H.out.r1 (by have := H.out.l1; omega)
   have v0 := vAt_bd hp ht (Q : Int)
   obtain ⟨v1, v2⟩ := v0
   have Hq := Lib.hid hq
   have k0 : (0 : Int) ≤ (k : Int) := by omega
   have k1 : (k : Int) < (n : Int) := by omega
   have hs : sumAt xs (L.take (k + 1)) = t + vAt xs (Q : Int) := by rw [take_next Hq.out, sumAt_snoc, ← Ht.out]
   have Hs := Lib.hid hs
   have HLn := Lib.hid (And.intro hL hn)
   clear hca hq hne hs hL hn hp ht
   generalize vAt xs (Q : Int) = v at *
   go_wp2
   go_round
   case rel => exact ⟨k + 1, t + v, by omega, by go_num, by go_num, by rw [Hs.out]⟩
   case measure => simp [intOf]; omega
  ·obtain rfl : k = n := by omega
   have e1 : L.take k = L := List.take_of_length_le (by rw [hn]; exact Nat.le_refl _)
   have e2 : t = sumAt xs L := by rw [Ht.out, e1]
   have E2 := Lib.hid e2
   clear e1 e2 hn hL
   go_wp2
   go_ret
   exact ⟨by rw [E2.out]; rfl, HS.out.2⟩
/- Cap8 -/
theorem row_1 (u : World) (x : Int) (T : TypeId) : RowN (u.alloc (.cells #[.int .i64 x] T)) (some ⟨u.heap.size, 0, none⟩) [x] :=
 ⟨by simp, .inr ⟨u.heap.size, 0, rfl, by simp, fun i y hi => by
  match i, hi with
  | 0, hi =>
   cases hi
   rw [World.cell?_alloc_new]
   rfl⟩⟩
theorem sumAt_one (xs : List Int) (k : Int) : sumAt xs [k] = vAt xs k := by simp [sumAt, tot]
theorem CpAt.grown {w u v : World} {p s c l player : Int} {st sk re fe ag : Bool} {p1 p2 : Option Addr} {pn1 pc1 pn2 pc2 : Nat} {pp pq : Int} {row : Option Nat} (h : CpAt w p s c l st sk re fe ag player p1 p2 pn1 pc1 pn2 pc2 pp pq u) (hg : u.grownBy v row) (hr : ∀ k, row = some k → w.heap.size < k) : CpAt w p s c l st sk re fe ag player p1 p2 pn1 pc1 pn2 pc2 pp pq v := by
 obtain ⟨⟨hb, h⟩, hw⟩ := h
 have hbl := hg.block w.heap.size hb (fun e => by have := hr _ e.symm; omega)
 have e : ∀ o, v.cell? ⟨w.heap.size, o, none⟩ = u.cell? ⟨w.heap.size, o, none⟩ := fun o => World.cell?_of_block (a := ⟨w.heap.size, o, none⟩) hbl
 exact ⟨⟨Nat.lt_of_lt_of_le hb hg.size, by rw [e, e, e, e, e, e, e, e, e, e, e, e, e, e]; exact h⟩, hw.grown hg hw.size (fun k hk => by have := hr k hk; omega)⟩
theorem CpAt.alloc {w u : World} {p s c l player : Int} {st sk re fe ag : Bool} {p1 p2 : Option Addr} {pn1 pc1 pn2 pc2 : Nat} {pp pq : Int} (h : CpAt w p s c l st sk re fe ag player p1 p2 pn1 pc1 pn2 pc2 pp pq u) (o : Obj) : CpAt w p s c l st sk re fe ag player p1 p2 pn1 pc1 pn2 pc2 pp pq (u.alloc o) := h.below (al1 _ _)
theorem none_any (p s c l : Int) (st sk re fe ag : Bool) (player : Int) (p1 p2 : Option Addr) (pn1 pc1 pn2 pc2 : Nat) (pp pq : Int) (w : World) :
  Calls Try.prog 95 #[.agg #[.int .i64 p, .int .i64 s, .bool st, .bool sk, .bool re, .bool fe, .bool ag, .int .i64 c, .int .i64 l, .int .i64 player, .slice p1 pn1 pc1, .slice p2 pn2 pc2, .int .i64 pp, .int .i64 pq]] w (OwnP [] 0 w) := by
 have HS := Lib.hid (cp_new p s c l st sk re fe ag player p1 p2 pn1 pc1 pn2 pc2 pp pq w 73)
 go_enter Try.func95, Try.ntmps95
 go_wp2_with fail
 go_ret
 exact ⟨_, rfl, World.ownsRow_nil _ _ _ _, HS.out.2⟩
theorem twoThree_any (p s c l : Int) (st sk re fe ag : Bool) (player : Int) (p1 p2 : Option Addr) (pn1 pc1 pn2 pc2 : Nat) (pp pq : Int) (xs ys : List Int) (N : Nat) (w : World) (h : PosR w p1 p2 pn1 pn2 xs ys) (hq : posB xs = true) (ht : tot xs ≤ 96) (hp : 2 ≤ p ∧ p ≤ 8) (hn1 : (pn1 : Int) = 2 * p) (hpl : player = 0 ∨ player = 1) (hla : pp = (N : Int) - 1) (hN : (N : Int) ≤ 2 * p) :
  Calls Try.prog 96 #[.agg #[.int .i64 p, .int .i64 s, .bool st, .bool sk, .bool re, .bool fe, .bool ag, .int .i64 c, .int .i64 l, .int .i64 player, .slice p1 pn1 pc1, .slice p2 pn2 pc2, .int .i64 pp, .int .i64 pq]] w (OwnP (twF p player xs N) (twF p player xs N).length w) := by
 obtain ⟨i0, hi, hz0, hz1, hz2⟩ := info_parts infoN
 have HS := Lib.hid (cp_new p s c l st sk re fe ag player p1 p2 pn1 pc1 pn2 pc2 pp pq w 73)
 have H0 := Lib.hid h
 have HP := Lib.hid hp
 have HPl := Lib.hid hpl
 have HN := Lib.hid hN
 have Hn1 := Lib.hid hn1
 have HQ := Lib.hid (And.intro hq ht)
 have Hla := Lib.hid hla
 clear h hp hpl hN hn1 hq ht hla
 go_enter Try.func96, Try.ntmps96
 go_wp2_with fail
 generalize w.alloc (.cells #[.int .i64 p, .int .i64 s, .bool st, .bool sk, .bool re, .bool fe, .bool ag, .int .i64 c, .int .i64 l, .int .i64 player, .slice p1 pn1 pc1, .slice p2 pn2 pc2, .int .i64 pp, .int .i64 pq] 73) = w1 at *
 go_loopw [3, 4] (fun s0 i wr => ∃ (k m : Nat) (acc : List Int) (z : Int), i = .int .i64 z ∧ z = (k : Int) - 1 ∧ m + k ≤ 16 ∧ wr.ownsRow (w.heap.size + 1) 2 1 s0 m (nvs acc) ∧ acc.length = m ∧ acc ++ twF p player xs k = twF p player xs N ∧ k ≤ N ∧ CpAt w p s c l st sk re fe ag player p1 p2 pn1 pc1 pn2 pc2 pp pq wr) (fun _ i _ => (intOf i + 1).toNat)
 case atStart => exact ⟨N, 0, [], pp, rfl, Hla.out, by have := HN.out; have := HP.out; omega, World.ownsRow_nil _ _ _ _, rfl, rfl, Nat.le_refl _, HS.out⟩
 case round =>
  obtain ⟨k, m, acc, z, rfl, hz, hmk, hown, hlen, hacc, hkN, hC⟩ := hrel
  have HC := Lib.hid hC
  have HO := Lib.hid hown
  have HA := Lib.hid (And.intro hlen hacc)
  obtain ⟨⟨_, c0, c1, c2, c3, c4, c5, c6, c7, c8, c9, c10, c11, c12, c13⟩, -⟩ := hC
  have Hz := Lib.hid hz
  clear hown hlen hacc
  rcases k with _ | k
  ·have hb : ownB p (1 - player) z = false := by
    have h1 := HP.out
    have h2 := HPl.out
    unfold ownB
    rcases h2 with rfl | rfl <;> simp <;> omega
   have Hb := Lib.hid hb
   clear hb hz
   go_wp2_with (go_at_call 105; refine (isOther_any p s c l st sk re fe ag player p1 p2 pn1 pc1 pn2 pc2 pp pq z _ HP.out HPl.out).mono ?_; rintro e w5 ⟨rfl, hb5⟩; rw [Hb.out]; have HC := Lib.hid (HC.out.below hb5); have HO := Lib.hid (own_keep HO.out hb5); clear hb5)
   go_ret
   have e := HA.out.2
   simp only [twF, List.append_nil] at e
   rw [← e, HA.out.1]
   exact ⟨_, rfl, own_lower HO.out (by omega), HC.out.be⟩
  ·obtain rfl : z = (k : Int) := by omega
   clear hz Hz
   have HV := Lib.hid (vAt_bd HQ.out.1 HQ.out.2 (k : Int))
   have HR : Hid (∀ x ∈ [(k : Int)], 0 ≤ x ∧ x < (pn1 : Int)) := Lib.hid (fun x hx => by
    have := Hn1.out
    have := HN.out
    rcases List.mem_cons.1 hx with rfl | hx
    ·omega
    ·cases hx)
   rcases hb : ownB p (1 - player) (k : Int) with _ | _
   ·have e := HA.out.2
    rw [tw_no (by rw [hb]; rfl), List.append_nil] at e
    have Hb := Lib.hid hb
    have He := Lib.hid e
    clear hb e
    go_wp2_with (go_at_call 105; refine (isOther_any p s c l st sk re fe ag player p1 p2 pn1 pc1 pn2 pc2 pp pq (k : Int) _ HP.out HPl.out).mono ?_; rintro e w5 ⟨rfl, hb5⟩; rw [Hb.out]; have HC := Lib.hid (HC.out.below hb5); have HO := Lib.hid (own_keep HO.out hb5); clear hb5)
    go_ret
    rw [← He.out, HA.out.1]
    exact ⟨_, rfl, own_lower HO.out (by omega), HC.out.be⟩
   ·have Hb := Lib.hid hb
    have hs1 := sumAt_one xs (k : Int)
    rcases hv : (decide (vAt xs (k : Int) = 2) || decide (vAt xs (k : Int) = 3)) with _ | _
    ·have e := HA.out.2
     rw [tw_no (by rw [hb, hv]; rfl), List.append_nil] at e
     have He := Lib.hid e
     simp only [Bool.or_eq_false_iff, decide_eq_false_iff_not] at hv
     obtain ⟨hv2, hv3⟩ := hv
     generalize vAt xs (k : Int) = v at *
     have t2 : (v == 2) = false := by simpa using hv2
     have t3 : (v == 3) = false := by simpa using hv3
     have Hs1 := Lib.hid hs1
     clear hb e hv2 hv3 hs1
     go_wp2_with (first | (go_at_call 105; refine (isOther_any p s c l st sk re fe ag player p1 p2 pn1 pc1 pn2 pc2 pp pq (k : Int) _ HP.out HPl.out).mono ?_; rintro e w5 ⟨rfl, hb5⟩; rw [Hb.out]; have HC := Lib.hid (HC.out.below hb5); have HO := Lib.hid (own_keep HO.out hb5); clear hb5; obtain ⟨⟨_, c0, c1, c2, c3, c4, c5, c6, c7, c8, c9, c10, c11, c12, c13⟩, -⟩ := HC.out) | (go_at_call 61; refine (seedsIn_any p s c l st sk re fe ag player p1 p2 pn1 pc1 pn2 pc2 pp pq xs ys [(k : Int)] _ 1 1 _ ((H0.out.below HC.out.be).alloc _) HQ.out.1 HQ.out.2 HR.out rfl (by omega) (row_1 _ _ _)).mono ?_; rintro e w6 ⟨rfl, hb6⟩; rw [Hs1.out]; have HC := Lib.hid ((HC.out.alloc _).below hb6); have HO := Lib.hid (own_keep (own_keep HO.out (al1 _ _)) hb6); clear hb6; obtain ⟨⟨_, c0, c1, c2, c3, c4, c5, c6, c7, c8, c9, c10, c11, c12, c13⟩, -⟩ := HC.out))
     go_ret
     rw [← He.out, HA.out.1]
     exact ⟨_, rfl, own_lower HO.out (by omega), HC.out.be⟩
    ·have e := HA.out.2
     rw [tw_yes (by rw [hb, hv]; rfl), show ∀ (a b : List Int) (x : Int), a ++ x :: b = (a ++ [x]) ++ b from fun a b x => by simp] at e
     have He := Lib.hid e
     rw [Bool.or_eq_true, decide_eq_true_eq, decide_eq_true_eq] at hv
     generalize vAt xs (k : Int) = v at *
     have Hs1 := Lib.hid hs1
     have hbase : w.heap.size + 1 ≤ wr.heap.size := HC.out.1.1
     have hk1 : IntKind.i64.wrap ((k : Int) - 1) = (k : Int) - 1 := IntWalk.i64_in _ ⟨by omega, by omega⟩
     clear hb e hs1
     rcases hv with rfl | rfl
     all_goals
      go_wp2_with (first | (go_at_call 105; refine (isOther_any p s c l st sk re fe ag player p1 p2 pn1 pc1 pn2 pc2 pp pq (k : Int) _ HP.out HPl.out).mono ?_; rintro e w5 ⟨rfl, hb5⟩; rw [Hb.out]; have HC := Lib.hid (HC.out.below hb5); have HO := Lib.hid (own_keep HO.out hb5); clear hb5; obtain ⟨⟨_, c0, c1, c2, c3, c4, c5, c6, c7, c8, c9, c10, c11, c12, c13⟩, -⟩ := HC.out) | (go_at_call 61; refine (seedsIn_any p s c l st sk re fe ag player p1 p2 pn1 pc1 pn2 pc2 pp pq xs ys [(k : Int)] _ 1 1 _ ((H0.out.below HC.out.be).alloc _) HQ.out.1 HQ.out.2 HR.out rfl (by omega) (row_1 _ _ _)).mono ?_; rintro e w6 ⟨rfl, hb6⟩; rw [Hs1.out]; have HC := Lib.hid ((HC.out.alloc _).below hb6); have HO := Lib.hid (own_keep (own_keep HO.out (al1 _ _)) hb6); clear hb6; obtain ⟨⟨_, c0, c1, c2, c3, c4, c5, c6, c7, c8, c9, c10, c11, c12, c13⟩, -⟩ := HC.out) | (at_builtin; refine wpList_append_own _ rfl _ _ 24 rfl (w.heap.size + 1) 2 i0 (.int .i64 0) 1 8 Try.underlying24 hi hz0 hz1 hz2 rfl (by decide) _ m (nvs acc) rfl (own_keep HO.out (al1 _ _)) ⟨_, 0, none⟩ 1 1 (nvs [(k : Int)]) rfl (by simp [nvs]) (row_news (row_1 _ (k : Int) 2)) (nvs_cell _) (by unfold maxLen; omega) (by omega) (by have := HC.out.1.1; simp; omega) ?_; intro v1 w3 hown1 hgrow1 hnil1))
      go_roundw
      case rel =>
       refine ⟨k, m + 1, acc ++ [(k : Int)], (k : Int) - 1, rfl, rfl, by omega, ?_, by rw [List.length_append, HA.out.1]; rfl, He.out, by omega, ?_⟩
       ·rw [nvs_app]
        exact hown1
       ·exact (HC.out.alloc _).grown hgrow1 (fun q hq => by have := ((own_keep HO.out (al1 _ (.cells #[.int .i64 (k : Int)] 2))).lt q hq).1; omega)
      case measure => first | (simp [intOf]; done) | (simp [intOf]; omega)
/- Cap9 -/
theorem own_slice {w : World} {B n : Nat} {v : Value} {xs : List Int} (h : w.ownsRow B 2 1 v n (nvs xs)) (hn : xs.length = n) (hle : n ≤ 1000) : ∃ a cc, v = .slice a n cc ∧ RowN w a xs := by
 by_cases hne : xs = []
 ·subst hne
  obtain ⟨_, ⟨hv, h0⟩ | ⟨g, cap, cur, hv, _⟩⟩ := h
  ·subst h0
   exact ⟨none, 0, hv, rowN_nil _ _⟩
  ·exact ⟨_, cap, hv, rowN_nil _ _⟩
 ·obtain ⟨c, b, hv, ho, _⟩ := outN_own h hn (by omega) hne
  exact ⟨_, c, hv, ho.row⟩
theorem own_1 (u : World) (x : Int) (B : Nat) (hB : B ≤ u.heap.size) : (u.alloc (.cells #[.int .i64 x] 2)).ownsRow B 2 1 (.slice (some ⟨u.heap.size, 0, none⟩) 1 1) 1 (nvs [x]) :=
 ⟨rfl, .inr ⟨u.heap.size, 1, #[.int .i64 x], rfl, hB, by show (u.heap.push _)[u.heap.size]? = _; simp, Nat.le_refl _, by decide, rfl, rfl⟩⟩
theorem own_2 (u : World) (x y : Int) (B : Nat) (hB : B ≤ u.heap.size) : (u.alloc (.cells #[.int .i64 x, .int .i64 y] 2)).ownsRow B 2 1 (.slice (some ⟨u.heap.size, 0, none⟩) 2 2) 2 (nvs [x, y]) :=
 ⟨rfl, .inr ⟨u.heap.size, 2, #[.int .i64 x, .int .i64 y], rfl, hB, by show (u.heap.push _)[u.heap.size]? = _; simp, Nat.le_refl _, by decide, rfl, rfl⟩⟩
theorem even_any (p s c l : Int) (st sk re fe ag : Bool) (player : Int) (p1 p2 : Option Addr) (pn1 pc1 pn2 pc2 : Nat) (pp pq : Int) (xs ys : List Int) (w : World) (h : PosR w p1 p2 pn1 pn2 xs ys) (hq : posB xs = true) (ht : tot xs ≤ 96) (hp : 2 ≤ p ∧ p ≤ 8) (hn1 : (pn1 : Int) = 2 * p) (hpl : player = 0 ∨ player = 1) (hl1 : -1 ≤ pp) (hl2 : pp < 2 * p) (L : List Int) (hL : (if ownB p (1 - player) pp && decide (vAt xs pp % 2 = 0) then [pp] else []) = L) :
  Calls Try.prog 98 #[.agg #[.int .i64 p, .int .i64 s, .bool st, .bool sk, .bool re, .bool fe, .bool ag, .int .i64 c, .int .i64 l, .int .i64 player, .slice p1 pn1 pc1, .slice p2 pn2 pc2, .int .i64 pp, .int .i64 pq]] w (OwnP L L.length w) := by
 have HC := Lib.hid (cp_new p s c l st sk re fe ag player p1 p2 pn1 pc1 pn2 pc2 pp pq w 73)
 obtain ⟨⟨_, c0, c1, c2, c3, c4, c5, c6, c7, c8, c9, c10, c11, c12, c13⟩, -⟩ := HC.out
 have H0 := Lib.hid h
 have HP := Lib.hid hp
 have HPl := Lib.hid hpl
 have HQ := Lib.hid (And.intro hq ht)
 have HV := vAt_bd hq ht pp
 have hs1 := sumAt_one xs pp
 have hR : (ownB p (1 - player) pp = true) → ∀ x ∈ [pp], 0 ≤ x ∧ x < (pn1 : Int) := fun ho x hx => by
  unfold ownB at ho
  simp only [Bool.and_eq_true, decide_eq_true_eq] at ho
  rcases List.mem_cons.1 hx with rfl | hx
  ·rcases hpl with rfl | rfl <;> omega
  ·cases hx
 generalize vAt xs pp = v at *
 rcases hb : ownB p (1 - player) pp with _ | _
 ·have e : L = [] := by rw [← hL, hb]; rfl
  subst e
  have Hb := Lib.hid hb
  clear hb hL h hp hpl hq ht hn1 hR hs1
  go_enter Try.func98, Try.ntmps98
  go_wp2_with (go_at_call 105; refine (isOther_any p s c l st sk re fe ag player p1 p2 pn1 pc1 pn2 pc2 pp pq pp _ HP.out HPl.out).mono ?_; rintro e w5 ⟨rfl, hb5⟩; rw [Hb.out]; have HC := Lib.hid (HC.out.below hb5); clear hb5; obtain ⟨⟨_, c0, c1, c2, c3, c4, c5, c6, c7, c8, c9, c10, c11, c12, c13⟩, -⟩ := HC.out)
  go_ret
  exact ⟨_, rfl, World.ownsRow_nil _ _ _ _, HC.out.be⟩
 ·have HR := Lib.hid (hR hb)
  have Hb := Lib.hid hb
  have Hs1 := Lib.hid hs1
  by_cases he : v % 2 = 0
  ·have e : L = [pp] := by rw [← hL, hb, decide_eq_true he]; rfl
   subst e
   have t1 : (v % 2 != 0) = false := by simp [he]
   have t2 : (v.tmod 2 != 0) = false := by rw [Int.tmod_eq_emod_of_nonneg HV.1]; exact t1
   clear hb hL h hp hpl hq ht hn1 hR hs1
   go_enter Try.func98, Try.ntmps98
   go_wp2_with (first | (go_at_call 105; refine (isOther_any p s c l st sk re fe ag player p1 p2 pn1 pc1 pn2 pc2 pp pq pp _ HP.out HPl.out).mono ?_; rintro e w5 ⟨rfl, hb5⟩; rw [Hb.out]; have HC := Lib.hid (HC.out.below hb5); clear hb5; obtain ⟨⟨_, c0, c1, c2, c3, c4, c5, c6, c7, c8, c9, c10, c11, c12, c13⟩, -⟩ := HC.out) | (go_at_call 61; refine (seedsIn_any p s c l st sk re fe ag player p1 p2 pn1 pc1 pn2 pc2 pp pq xs ys [pp] _ 1 1 _ ((H0.out.below HC.out.be).alloc _) HQ.out.1 HQ.out.2 HR.out rfl (by omega) (row_1 _ _ _)).mono ?_; rintro e w6 ⟨rfl, hb6⟩; rw [Hs1.out]; have HC := Lib.hid ((HC.out.alloc _).below hb6); clear hb6; obtain ⟨⟨_, c0, c1, c2, c3, c4, c5, c6, c7, c8, c9, c10, c11, c12, c13⟩, -⟩ := HC.out))
   go_ret
   exact ⟨_, rfl, own_1 _ pp _ HC.out.be.size, (HC.out.alloc _).be⟩
  ·have e : L = [] := by rw [← hL, hb, decide_eq_false he]; rfl
   subst e
   have t1 : (v % 2 != 0) = true := by simp [he]
   have t2 : (v.tmod 2 != 0) = true := by rw [Int.tmod_eq_emod_of_nonneg HV.1]; exact t1
   clear hb hL h hp hpl hq ht hn1 hR hs1
   go_enter Try.func98, Try.ntmps98
   go_wp2_with (first | (go_at_call 105; refine (isOther_any p s c l st sk re fe ag player p1 p2 pn1 pc1 pn2 pc2 pp pq pp _ HP.out HPl.out).mono ?_; rintro e w5 ⟨rfl, hb5⟩; rw [Hb.out]; have HC := Lib.hid (HC.out.below hb5); clear hb5; obtain ⟨⟨_, c0, c1, c2, c3, c4, c5, c6, c7, c8, c9, c10, c11, c12, c13⟩, -⟩ := HC.out) | (go_at_call 61; refine (seedsIn_any p s c l st sk re fe ag player p1 p2 pn1 pc1 pn2 pc2 pp pq xs ys [pp] _ 1 1 _ ((H0.out.below HC.out.be).alloc _) HQ.out.1 HQ.out.2 HR.out rfl (by omega) (row_1 _ _ _)).mono ?_; rintro e w6 ⟨rfl, hb6⟩; rw [Hs1.out]; have HC := Lib.hid ((HC.out.alloc _).below hb6); clear hb6; obtain ⟨⟨_, c0, c1, c2, c3, c4, c5, c6, c7, c8, c9, c10, c11, c12, c13⟩, -⟩ := HC.out))
   go_ret
   exact ⟨_, rfl, World.ownsRow_nil _ _ _ _, HC.out.be⟩
theorem cross_any (p s c l : Int) (st sk re fe ag : Bool) (player : Int) (p1 p2 : Option Addr) (pn1 pc1 pn2 pc2 : Nat) (pp pq : Int) (xs ys : List Int) (w : World) (h : PosR w p1 p2 pn1 pn2 xs ys) (hq : posB xs = true) (ht : tot xs ≤ 96) (hok : okR p s c l st ag = true) (hn1 : (pn1 : Int) = 2 * p) (hpl : player = 0 ∨ player = 1) (hl1 : -1 ≤ pp) (hl2 : pp < 2 * p) (L : List Int) (hL : (if ownB p player pp && decide (vAt xs pp = 1) && decide (0 < vAt xs (2 * p - 1 - pp)) then [pp, 2 * p - 1 - pp] else []) = L) :
  Calls Try.prog 97 #[.agg #[.int .i64 p, .int .i64 s, .bool st, .bool sk, .bool re, .bool fe, .bool ag, .int .i64 c, .int .i64 l, .int .i64 player, .slice p1 pn1 pc1, .slice p2 pn2 pc2, .int .i64 pp, .int .i64 pq]] w (OwnP L L.length w) := by
 have HC := Lib.hid (cp_new p s c l st sk re fe ag player p1 p2 pn1 pc1 pn2 pc2 pp pq w 73)
 obtain ⟨⟨_, c0, c1, c2, c3, c4, c5, c6, c7, c8, c9, c10, c11, c12, c13⟩, -⟩ := HC.out
 have H0 := Lib.hid h
 have hbd := okR_bd hok
 have HP : Hid (2 ≤ p ∧ p ≤ 8) := Lib.hid ⟨hbd.1, hbd.2.1⟩
 have HPl := Lib.hid hpl
 have HQ := Lib.hid (And.intro hq ht)
 have HV := vAt_bd hq ht (2 * p - 1 - pp)
 have hs1 := sumAt_one xs pp
 have hs2 := sumAt_one xs (2 * p - 1 - pp)
 have hr0 : (ownB p player pp = true) → 0 ≤ pp := fun ho => by
  unfold ownB at ho
  simp only [Bool.and_eq_true, decide_eq_true_eq] at ho
  rcases hpl with rfl | rfl <;> omega
 generalize vAt xs pp = v at *
 generalize vAt xs (2 * p - 1 - pp) = v2 at *
 rcases hb : ownB p player pp with _ | _
 ·have e : L = [] := by rw [← hL, hb]; rfl
  subst e
  have Hb := Lib.hid hb
  clear hb hL h hbd hok hpl hq ht hn1 hr0 hs1 hs2
  go_enter Try.func97, Try.ntmps97
  go_wp2_with (go_at_call 108; refine (owns_any p s c l st sk re fe ag player pp _ HP.out HPl.out).mono ?_; rintro e w5 ⟨rfl, hb5⟩; rw [Hb.out]; have HC := Lib.hid (HC.out.below hb5); clear hb5; obtain ⟨⟨_, c0, c1, c2, c3, c4, c5, c6, c7, c8, c9, c10, c11, c12, c13⟩, -⟩ := HC.out)
  go_ret
  exact ⟨_, rfl, World.ownsRow_nil _ _ _ _, HC.out.be⟩
 ·have h0 := hr0 hb
  have HR : Hid (∀ x ∈ [pp], 0 ≤ x ∧ x < (pn1 : Int)) := Lib.hid (fun x hx => by
   rcases List.mem_cons.1 hx with rfl | hx
   ·omega
   ·cases hx)
  have HR2 : Hid (∀ x ∈ [2 * p - 1 - pp], 0 ≤ x ∧ x < (pn1 : Int)) := Lib.hid (fun x hx => by
   rcases List.mem_cons.1 hx with rfl | hx
   ·omega
   ·cases hx)
  have hpc : pitC (okR p s c l st ag) p pp = 0 := by rw [hok]; exact pitC_in h0 hl2
  have Hpc := Lib.hid hpc
  have Hpv : Hid (pitV 0 (2 * p - 1 - pp) = 2 * p - 1 - pp) := Lib.hid rfl
  have Hb := Lib.hid hb
  have Hs1 := Lib.hid hs1
  have Hs2 := Lib.hid hs2
  by_cases he : v = 1
  ·have t1 : (v != 1) = false := by simp [he]
   by_cases hz : 0 < v2
   ·have e : L = [pp, 2 * p - 1 - pp] := by rw [← hL, hb, decide_eq_true he, decide_eq_true hz]; rfl
    subst e
    have t2 : (v2 == 0) = false := by simp; omega
    clear hb hL h hbd hok hpl hq ht hn1 hr0 hs1 hs2 hpc he
    go_enter Try.func97, Try.ntmps97
    go_wp2_with (first | (go_at_call 108; refine (owns_any p s c l st sk re fe ag player pp _ HP.out HPl.out).mono ?_; rintro e w5 ⟨rfl, hb5⟩; rw [Hb.out]; have HC := Lib.hid (HC.out.below hb5); clear hb5; obtain ⟨⟨_, c0, c1, c2, c3, c4, c5, c6, c7, c8, c9, c10, c11, c12, c13⟩, -⟩ := HC.out) | (go_at_call 109; refine (impl_opposite p s c l st sk re fe ag pp _).mono ?_; rintro e w7 ⟨rfl, hb7⟩; rw [Hpc.out, Hpv.out]; have HC := Lib.hid (HC.out.below hb7); clear hb7; obtain ⟨⟨_, c0, c1, c2, c3, c4, c5, c6, c7, c8, c9, c10, c11, c12, c13⟩, -⟩ := HC.out) | (go_at_call 61; refine (seedsIn_any p s c l st sk re fe ag player p1 p2 pn1 pc1 pn2 pc2 pp pq xs ys [2 * p - 1 - pp] _ 1 1 _ ((H0.out.below HC.out.be).alloc _) HQ.out.1 HQ.out.2 HR2.out rfl (by omega) (row_1 _ _ _)).mono ?_; rintro e w8 ⟨rfl, hb8⟩; rw [Hs2.out]; have HC := Lib.hid ((HC.out.alloc _).below hb8); clear hb8; obtain ⟨⟨_, c0, c1, c2, c3, c4, c5, c6, c7, c8, c9, c10, c11, c12, c13⟩, -⟩ := HC.out) | (go_at_call 61; refine (seedsIn_any p s c l st sk re fe ag player p1 p2 pn1 pc1 pn2 pc2 pp pq xs ys [pp] _ 1 1 _ ((H0.out.below HC.out.be).alloc _) HQ.out.1 HQ.out.2 HR.out rfl (by omega) (row_1 _ _ _)).mono ?_; rintro e w6 ⟨rfl, hb6⟩; rw [Hs1.out]; have HC := Lib.hid ((HC.out.alloc _).below hb6); clear hb6; obtain ⟨⟨_, c0, c1, c2, c3, c4, c5, c6, c7, c8, c9, c10, c11, c12, c13⟩, -⟩ := HC.out))
    go_ret
    exact ⟨_, rfl, own_2 _ pp _ _ HC.out.be.size, (HC.out.alloc _).be⟩
   ·have e : L = [] := by rw [← hL, hb, decide_eq_true he, decide_eq_false hz]; rfl
    subst e
    have t2 : (v2 == 0) = true := by simp; omega
    clear hb hL h hbd hok hpl hq ht hn1 hr0 hs1 hs2 hpc he
    go_enter Try.func97, Try.ntmps97
    go_wp2_with (first | (go_at_call 108; refine (owns_any p s c l st sk re fe ag player pp _ HP.out HPl.out).mono ?_; rintro e w5 ⟨rfl, hb5⟩; rw [Hb.out]; have HC := Lib.hid (HC.out.below hb5); clear hb5; obtain ⟨⟨_, c0, c1, c2, c3, c4, c5, c6, c7, c8, c9, c10, c11, c12, c13⟩, -⟩ := HC.out) | (go_at_call 109; refine (impl_opposite p s c l st sk re fe ag pp _).mono ?_; rintro e w7 ⟨rfl, hb7⟩; rw [Hpc.out, Hpv.out]; have HC := Lib.hid (HC.out.below hb7); clear hb7; obtain ⟨⟨_, c0, c1, c2, c3, c4, c5, c6, c7, c8, c9, c10, c11, c12, c13⟩, -⟩ := HC.out) | (go_at_call 61; refine (seedsIn_any p s c l st sk re fe ag player p1 p2 pn1 pc1 pn2 pc2 pp pq xs ys [2 * p - 1 - pp] _ 1 1 _ ((H0.out.below HC.out.be).alloc _) HQ.out.1 HQ.out.2 HR2.out rfl (by omega) (row_1 _ _ _)).mono ?_; rintro e w8 ⟨rfl, hb8⟩; rw [Hs2.out]; have HC := Lib.hid ((HC.out.alloc _).below hb8); clear hb8; obtain ⟨⟨_, c0, c1, c2, c3, c4, c5, c6, c7, c8, c9, c10, c11, c12, c13⟩, -⟩ := HC.out) | (go_at_call 61; refine (seedsIn_any p s c l st sk re fe ag player p1 p2 pn1 pc1 pn2 pc2 pp pq xs ys [pp] _ 1 1 _ ((H0.out.below HC.out.be).alloc _) HQ.out.1 HQ.out.2 HR.out rfl (by omega) (row_1 _ _ _)).mono ?_; rintro e w6 ⟨rfl, hb6⟩; rw [Hs1.out]; have HC := Lib.hid ((HC.out.alloc _).below hb6); clear hb6; obtain ⟨⟨_, c0, c1, c2, c3, c4, c5, c6, c7, c8, c9, c10, c11, c12, c13⟩, -⟩ := HC.out))
    go_ret
    exact ⟨_, rfl, World.ownsRow_nil _ _ _ _, HC.out.be⟩
  ·have t1 : (v != 1) = true := by simp [he]
   have e : L = [] := by rw [← hL, hb, decide_eq_false he]; rfl
   subst e
   clear hb hL h hbd hok hpl hq ht hn1 hr0 hs1 hs2 hpc he
   go_enter Try.func97, Try.ntmps97
   go_wp2_with (first | (go_at_call 108; refine (owns_any p s c l st sk re fe ag player pp _ HP.out HPl.out).mono ?_; rintro e w5 ⟨rfl, hb5⟩; rw [Hb.out]; have HC := Lib.hid (HC.out.below hb5); clear hb5; obtain ⟨⟨_, c0, c1, c2, c3, c4, c5, c6, c7, c8, c9, c10, c11, c12, c13⟩, -⟩ := HC.out) | (go_at_call 61; refine (seedsIn_any p s c l st sk re fe ag player p1 p2 pn1 pc1 pn2 pc2 pp pq xs ys [pp] _ 1 1 _ ((H0.out.below HC.out.be).alloc _) HQ.out.1 HQ.out.2 HR.out rfl (by omega) (row_1 _ _ _)).mono ?_; rintro e w6 ⟨rfl, hb6⟩; rw [Hs1.out]; have HC := Lib.hid ((HC.out.alloc _).below hb6); clear hb6; obtain ⟨⟨_, c0, c1, c2, c3, c4, c5, c6, c7, c8, c9, c10, c11, c12, c13⟩, -⟩ := HC.out))
   go_ret
   exact ⟨_, rfl, World.ownsRow_nil _ _ _ _, HC.out.be⟩
/- Cap10 -/
def KnAt (w : World) (p s c l : Int) (st sk re fe ag : Bool) (player : Int) (p1 p2 : Option Addr) (pn1 pc1 pn2 pc2 : Nat) (pp pq : Int) (u : World) : Prop := CpAt w p s c l st sk re fe ag player p1 p2 pn1 pc1 pn2 pc2 pp pq u ∧ (w.heap.size + 1 < u.heap.size ∧ u.cell? ⟨w.heap.size + 1, 0, none⟩ = some (.func (.func 95) #[] #[]) ∧ u.cell? ⟨w.heap.size + 1, 1, none⟩ = some (.func (.func 96) #[] #[]) ∧ u.cell? ⟨w.heap.size + 1, 2, none⟩ = some (.func (.func 97) #[] #[]) ∧ u.cell? ⟨w.heap.size + 1, 3, none⟩ = some (.func (.func 98) #[] #[]))
section
variable {w u v : World} {p s c l player : Int} {st sk re fe ag : Bool} {p1 p2 : Option Addr} {pn1 pc1 pn2 pc2 : Nat} {pp pq : Int}
theorem KnAt.below (h : KnAt w p s c l st sk re fe ag player p1 p2 pn1 pc1 pn2 pc2 pp pq u) (k : Below u.heap.size u v) : KnAt w p s c l st sk re fe ag player p1 p2 pn1 pc1 pn2 pc2 pp pq v := by
 obtain ⟨h1, hb, h⟩ := h
 have e := fun o => k.cell (p := ⟨w.heap.size + 1, o, none⟩) hb
 exact ⟨h1.below k, Nat.lt_of_lt_of_le hb k.size, by rw [e, e, e, e]; exact h⟩
theorem KnAt.drew (h : KnAt w p s c l st sk re fe ag player p1 p2 pn1 pc1 pn2 pc2 pp pq u) : KnAt w p s c l st sk re fe ag player p1 p2 pn1 pc1 pn2 pc2 pp pq u.drew := ⟨h.1.drew, h.2⟩
end
theorem kn_new {w u : World} {p s c l player : Int} {st sk re fe ag : Bool} {p1 p2 : Option Addr} {pn1 pc1 pn2 pc2 : Nat} {pp pq : Int} (T : TypeId) (h : CpAt w p s c l st sk re fe ag player p1 p2 pn1 pc1 pn2 pc2 pp pq u) (hs : u.heap.size = w.heap.size + 1) : KnAt w p s c l st sk re fe ag player p1 p2 pn1 pc1 pn2 pc2 pp pq (u.alloc (.cells #[.func (.func 95) #[] #[], .func (.func 96) #[] #[], .func (.func 97) #[] #[], .func (.func 98) #[] #[]] T)) := by
 refine ⟨h.alloc _, ?_⟩
 rw [← hs]
 exact ⟨by simp, by go_simp, by go_simp, by go_simp, by go_simp⟩
theorem raw_any0 (p s c l : Int) (st sk re fe ag : Bool) (player : Int) (p1 p2 : Option Addr) (pn1 pc1 pn2 pc2 : Nat) (pp pq : Int) (w : World) (hc : c = 0) (L : List Int)
  (hf : ∀ u, Below w.heap.size w u → Calls Try.prog 95 #[.agg #[.int .i64 p, .int .i64 s, .bool st, .bool sk, .bool re, .bool fe, .bool ag, .int .i64 c, .int .i64 l, .int .i64 player, .slice p1 pn1 pc1, .slice p2 pn2 pc2, .int .i64 pp, .int .i64 pq]] u (OwnP L L.length u)) :
  Calls Try.prog 79 #[.agg #[.int .i64 p, .int .i64 s, .bool st, .bool sk, .bool re, .bool fe, .bool ag, .int .i64 c, .int .i64 l, .int .i64 player, .slice p1 pn1 pc1, .slice p2 pn2 pc2, .int .i64 pp, .int .i64 pq]] w (OwnP L L.length w) := by
 subst hc
 have HF := Lib.hid hf
 have HC := Lib.hid (cp_new p s 0 l st sk re fe ag player p1 p2 pn1 pc1 pn2 pc2 pp pq w 73)
 have HX := Lib.hid (kn_new 116 HC.out (by simp))
 obtain ⟨⟨_, c0, c1, c2, c3, c4, c5, c6, c7, c8, c9, c10, c11, c12, c13⟩, -⟩ := HC.out
 clear hf
 go_enter Try.func79, Try.ntmps79
 go_wp2_with fail
 go_region_held3 (fun u => ((w.heap.size < u.heap.size ∧ u.cell? ⟨w.heap.size, 0, none⟩ = some (.int .i64 p) ∧ u.cell? ⟨w.heap.size, 1, none⟩ = some (.int .i64 s) ∧ u.cell? ⟨w.heap.size, 2, none⟩ = some (.bool st) ∧ u.cell? ⟨w.heap.size, 3, none⟩ = some (.bool sk) ∧ u.cell? ⟨w.heap.size, 4, none⟩ = some (.bool re) ∧ u.cell? ⟨w.heap.size, 5, none⟩ = some (.bool fe) ∧ u.cell? ⟨w.heap.size, 6, none⟩ = some (.bool ag) ∧ u.cell? ⟨w.heap.size, 7, none⟩ = some (.int .i64 0) ∧ u.cell? ⟨w.heap.size, 8, none⟩ = some (.int .i64 l) ∧ u.cell? ⟨w.heap.size, 9, none⟩ = some (.int .i64 player) ∧ u.cell? ⟨w.heap.size, 10, none⟩ = some (.slice p1 pn1 pc1) ∧ u.cell? ⟨w.heap.size, 11, none⟩ = some (.slice p2 pn2 pc2) ∧ u.cell? ⟨w.heap.size, 12, none⟩ = some (.int .i64 pp) ∧ u.cell? ⟨w.heap.size, 13, none⟩ = some (.int .i64 pq)) ∧ Below w.heap.size w u) ∧ (w.heap.size + 1 < u.heap.size ∧ u.cell? ⟨w.heap.size + 1, 0, none⟩ = some (.func (.func 95) #[] #[]) ∧ u.cell? ⟨w.heap.size + 1, 1, none⟩ = some (.func (.func 96) #[] #[]) ∧ u.cell? ⟨w.heap.size + 1, 2, none⟩ = some (.func (.func 97) #[] #[]) ∧ u.cell? ⟨w.heap.size + 1, 3, none⟩ = some (.func (.func 98) #[] #[]))) (first | exact HX.out | exact HX.out.drew)
  ((go_at_call 95; refine (HF.out _ (by first | exact HX.out.1.be | exact HX.out.drew.1.be)).mono ?_; rintro e w5 ⟨v, rfl, hown, hb5⟩; have HO := Lib.hid (own_lower hown (by have h1 := HX.out.1.be.size; exact h1)); have HX := Lib.hid (by first | exact HX.out.below hb5 | exact HX.out.drew.below hb5 : KnAt w p s 0 l st sk re fe ag player p1 p2 pn1 pc1 pn2 pc2 pp pq w5); clear hown hb5))
 go_wp2_with fail
 go_ret
 exact ⟨_, rfl, HO.out, HX.out.1.be⟩
theorem raw_any1 (p s c l : Int) (st sk re fe ag : Bool) (player : Int) (p1 p2 : Option Addr) (pn1 pc1 pn2 pc2 : Nat) (pp pq : Int) (w : World) (hc : c = 1) (L : List Int)
  (hf : ∀ u, Below w.heap.size w u → Calls Try.prog 96 #[.agg #[.int .i64 p, .int .i64 s, .bool st, .bool sk, .bool re, .bool fe, .bool ag, .int .i64 c, .int .i64 l, .int .i64 player, .slice p1 pn1 pc1, .slice p2 pn2 pc2, .int .i64 pp, .int .i64 pq]] u (OwnP L L.length u)) :
  Calls Try.prog 79 #[.agg #[.int .i64 p, .int .i64 s, .bool st, .bool sk, .bool re, .bool fe, .bool ag, .int .i64 c, .int .i64 l, .int .i64 player, .slice p1 pn1 pc1, .slice p2 pn2 pc2, .int .i64 pp, .int .i64 pq]] w (OwnP L L.length w) := by
 subst hc
 have HF := Lib.hid hf
 have HC := Lib.hid (cp_new p s 1 l st sk re fe ag player p1 p2 pn1 pc1 pn2 pc2 pp pq w 73)
 have HX := Lib.hid (kn_new 116 HC.out (by simp))
 obtain ⟨⟨_, c0, c1, c2, c3, c4, c5, c6, c7, c8, c9, c10, c11, c12, c13⟩, -⟩ := HC.out
 clear hf
 go_enter Try.func79, Try.ntmps79
 go_wp2_with fail
 go_region_held3 (fun u => ((w.heap.size < u.heap.size ∧ u.cell? ⟨w.heap.size, 0, none⟩ = some (.int .i64 p) ∧ u.cell? ⟨w.heap.size, 1, none⟩ = some (.int .i64 s) ∧ u.cell? ⟨w.heap.size, 2, none⟩ = some (.bool st) ∧ u.cell? ⟨w.heap.size, 3, none⟩ = some (.bool sk) ∧ u.cell? ⟨w.heap.size, 4, none⟩ = some (.bool re) ∧ u.cell? ⟨w.heap.size, 5, none⟩ = some (.bool fe) ∧ u.cell? ⟨w.heap.size, 6, none⟩ = some (.bool ag) ∧ u.cell? ⟨w.heap.size, 7, none⟩ = some (.int .i64 1) ∧ u.cell? ⟨w.heap.size, 8, none⟩ = some (.int .i64 l) ∧ u.cell? ⟨w.heap.size, 9, none⟩ = some (.int .i64 player) ∧ u.cell? ⟨w.heap.size, 10, none⟩ = some (.slice p1 pn1 pc1) ∧ u.cell? ⟨w.heap.size, 11, none⟩ = some (.slice p2 pn2 pc2) ∧ u.cell? ⟨w.heap.size, 12, none⟩ = some (.int .i64 pp) ∧ u.cell? ⟨w.heap.size, 13, none⟩ = some (.int .i64 pq)) ∧ Below w.heap.size w u) ∧ (w.heap.size + 1 < u.heap.size ∧ u.cell? ⟨w.heap.size + 1, 0, none⟩ = some (.func (.func 95) #[] #[]) ∧ u.cell? ⟨w.heap.size + 1, 1, none⟩ = some (.func (.func 96) #[] #[]) ∧ u.cell? ⟨w.heap.size + 1, 2, none⟩ = some (.func (.func 97) #[] #[]) ∧ u.cell? ⟨w.heap.size + 1, 3, none⟩ = some (.func (.func 98) #[] #[]))) (first | exact HX.out | exact HX.out.drew)
  ((go_at_call 96; refine (HF.out _ (by first | exact HX.out.1.be | exact HX.out.drew.1.be)).mono ?_; rintro e w5 ⟨v, rfl, hown, hb5⟩; have HO := Lib.hid (own_lower hown (by have h1 := HX.out.1.be.size; exact h1)); have HX := Lib.hid (by first | exact HX.out.below hb5 | exact HX.out.drew.below hb5 : KnAt w p s 1 l st sk re fe ag player p1 p2 pn1 pc1 pn2 pc2 pp pq w5); clear hown hb5))
 go_wp2_with fail
 go_ret
 exact ⟨_, rfl, HO.out, HX.out.1.be⟩
theorem raw_any2 (p s c l : Int) (st sk re fe ag : Bool) (player : Int) (p1 p2 : Option Addr) (pn1 pc1 pn2 pc2 : Nat) (pp pq : Int) (w : World) (hc : c = 2) (L : List Int)
  (hf : ∀ u, Below w.heap.size w u → Calls Try.prog 97 #[.agg #[.int .i64 p, .int .i64 s, .bool st, .bool sk, .bool re, .bool fe, .bool ag, .int .i64 c, .int .i64 l, .int .i64 player, .slice p1 pn1 pc1, .slice p2 pn2 pc2, .int .i64 pp, .int .i64 pq]] u (OwnP L L.length u)) :
  Calls Try.prog 79 #[.agg #[.int .i64 p, .int .i64 s, .bool st, .bool sk, .bool re, .bool fe, .bool ag, .int .i64 c, .int .i64 l, .int .i64 player, .slice p1 pn1 pc1, .slice p2 pn2 pc2, .int .i64 pp, .int .i64 pq]] w (OwnP L L.length w) := by
 subst hc
 have HF := Lib.hid hf
 have HC := Lib.hid (cp_new p s 2 l st sk re fe ag player p1 p2 pn1 pc1 pn2 pc2 pp pq w 73)
 have HX := Lib.hid (kn_new 116 HC.out (by simp))
 obtain ⟨⟨_, c0, c1, c2, c3, c4, c5, c6, c7, c8, c9, c10, c11, c12, c13⟩, -⟩ := HC.out
 clear hf
 go_enter Try.func79, Try.ntmps79
 go_wp2_with fail
 go_region_held3 (fun u => ((w.heap.size < u.heap.size ∧ u.cell? ⟨w.heap.size, 0, none⟩ = some (.int .i64 p) ∧ u.cell? ⟨w.heap.size, 1, none⟩ = some (.int .i64 s) ∧ u.cell? ⟨w.heap.size, 2, none⟩ = some (.bool st) ∧ u.cell? ⟨w.heap.size, 3, none⟩ = some (.bool sk) ∧ u.cell? ⟨w.heap.size, 4, none⟩ = some (.bool re) ∧ u.cell? ⟨w.heap.size, 5, none⟩ = some (.bool fe) ∧ u.cell? ⟨w.heap.size, 6, none⟩ = some (.bool ag) ∧ u.cell? ⟨w.heap.size, 7, none⟩ = some (.int .i64 2) ∧ u.cell? ⟨w.heap.size, 8, none⟩ = some (.int .i64 l) ∧ u.cell? ⟨w.heap.size, 9, none⟩ = some (.int .i64 player) ∧ u.cell? ⟨w.heap.size, 10, none⟩ = some (.slice p1 pn1 pc1) ∧ u.cell? ⟨w.heap.size, 11, none⟩ = some (.slice p2 pn2 pc2) ∧ u.cell? ⟨w.heap.size, 12, none⟩ = some (.int .i64 pp) ∧ u.cell? ⟨w.heap.size, 13, none⟩ = some (.int .i64 pq)) ∧ Below w.heap.size w u) ∧ (w.heap.size + 1 < u.heap.size ∧ u.cell? ⟨w.heap.size + 1, 0, none⟩ = some (.func (.func 95) #[] #[]) ∧ u.cell? ⟨w.heap.size + 1, 1, none⟩ = some (.func (.func 96) #[] #[]) ∧ u.cell? ⟨w.heap.size + 1, 2, none⟩ = some (.func (.func 97) #[] #[]) ∧ u.cell? ⟨w.heap.size + 1, 3, none⟩ = some (.func (.func 98) #[] #[]))) (first | exact HX.out | exact HX.out.drew)
  ((go_at_call 97; refine (HF.out _ (by first | exact HX.out.1.be | exact HX.out.drew.1.be)).mono ?_; rintro e w5 ⟨v, rfl, hown, hb5⟩; have HO := Lib.hid (own_lower hown (by have h1 := HX.out.1.be.size; exact h1)); have HX := Lib.hid (by first | exact HX.out.below hb5 | exact HX.out.drew.below hb5 : KnAt w p s 2 l st sk re fe ag player p1 p2 pn1 pc1 pn2 pc2 pp pq w5); clear hown hb5))
 go_wp2_with fail
 go_ret
 exact ⟨_, rfl, HO.out, HX.out.1.be⟩
theorem raw_any3 (p s c l : Int) (st sk re fe ag : Bool) (player : Int) (p1 p2 : Option Addr) (pn1 pc1 pn2 pc2 : Nat) (pp pq : Int) (w : World) (hc : c = 3) (L : List Int)
  (hf : ∀ u, Below w.heap.size w u → Calls Try.prog 98 #[.agg #[.int .i64 p, .int .i64 s, .bool st, .bool sk, .bool re, .bool fe, .bool ag, .int .i64 c, .int .i64 l, .int .i64 player, .slice p1 pn1 pc1, .slice p2 pn2 pc2, .int .i64 pp, .int .i64 pq]] u (OwnP L L.length u)) :
  Calls Try.prog 79 #[.agg #[.int .i64 p, .int .i64 s, .bool st, .bool sk, .bool re, .bool fe, .bool ag, .int .i64 c, .int .i64 l, .int .i64 player, .slice p1 pn1 pc1, .slice p2 pn2 pc2, .int .i64 pp, .int .i64 pq]] w (OwnP L L.length w) := by
 subst hc
 have HF := Lib.hid hf
 have HC := Lib.hid (cp_new p s 3 l st sk re fe ag player p1 p2 pn1 pc1 pn2 pc2 pp pq w 73)
 have HX := Lib.hid (kn_new 116 HC.out (by simp))
 obtain ⟨⟨_, c0, c1, c2, c3, c4, c5, c6, c7, c8, c9, c10, c11, c12, c13⟩, -⟩ := HC.out
 clear hf
 go_enter Try.func79, Try.ntmps79
 go_wp2_with fail
 go_region_held3 (fun u => ((w.heap.size < u.heap.size ∧ u.cell? ⟨w.heap.size, 0, none⟩ = some (.int .i64 p) ∧ u.cell? ⟨w.heap.size, 1, none⟩ = some (.int .i64 s) ∧ u.cell? ⟨w.heap.size, 2, none⟩ = some (.bool st) ∧ u.cell? ⟨w.heap.size, 3, none⟩ = some (.bool sk) ∧ u.cell? ⟨w.heap.size, 4, none⟩ = some (.bool re) ∧ u.cell? ⟨w.heap.size, 5, none⟩ = some (.bool fe) ∧ u.cell? ⟨w.heap.size, 6, none⟩ = some (.bool ag) ∧ u.cell? ⟨w.heap.size, 7, none⟩ = some (.int .i64 3) ∧ u.cell? ⟨w.heap.size, 8, none⟩ = some (.int .i64 l) ∧ u.cell? ⟨w.heap.size, 9, none⟩ = some (.int .i64 player) ∧ u.cell? ⟨w.heap.size, 10, none⟩ = some (.slice p1 pn1 pc1) ∧ u.cell? ⟨w.heap.size, 11, none⟩ = some (.slice p2 pn2 pc2) ∧ u.cell? ⟨w.heap.size, 12, none⟩ = some (.int .i64 pp) ∧ u.cell? ⟨w.heap.size, 13, none⟩ = some (.int .i64 pq)) ∧ Below w.heap.size w u) ∧ (w.heap.size + 1 < u.heap.size ∧ u.cell? ⟨w.heap.size + 1, 0, none⟩ = some (.func (.func 95) #[] #[]) ∧ u.cell? ⟨w.heap.size + 1, 1, none⟩ = some (.func (.func 96) #[] #[]) ∧ u.cell? ⟨w.heap.size + 1, 2, none⟩ = some (.func (.func 97) #[] #[]) ∧ u.cell? ⟨w.heap.size + 1, 3, none⟩ = some (.func (.func 98) #[] #[]))) (first | exact HX.out | exact HX.out.drew)
  ((go_at_call 98; refine (HF.out _ (by first | exact HX.out.1.be | exact HX.out.drew.1.be)).mono ?_; rintro e w5 ⟨v, rfl, hown, hb5⟩; have HO := Lib.hid (own_lower hown (by have h1 := HX.out.1.be.size; exact h1)); have HX := Lib.hid (by first | exact HX.out.below hb5 | exact HX.out.drew.below hb5 : KnAt w p s 3 l st sk re fe ag player p1 p2 pn1 pc1 pn2 pc2 pp pq w5); clear hown hb5))
 go_wp2_with fail
 go_ret
 exact ⟨_, rfl, HO.out, HX.out.1.be⟩
def offH (o P : Nat) (player : Int) : Nat := if player = 0 then o else o + P
def capH (o P : Nat) (player : Int) : Nat := if player = 0 then o else o - P
theorem row_half {w : World} {g o : Nat} {xs : List Int} {P : Nat} {player : Int} (h : RowN w (some ⟨g, o, none⟩) xs) (hne : xs ≠ []) (hpl : player = 0 ∨ player = 1) : RowN w (some ⟨g, offH o P player, none⟩) (halfL xs P player) := by
 rcases hpl with rfl | rfl
 ·have := h.part hne 0 P
  rw [Nat.add_zero] at this
  unfold halfL
  simpa [offH] using this
 ·have := h.part hne P P
  unfold halfL
  simpa [offH] using this
theorem side_d0 (P : Nat) (s c l : Int) (st sk re fe ag : Bool) (g o : Nat) (p2 : Option Addr) (pc1 pn2 pc2 : Nat) (pp : Int) (player : Int) (w : World) (hP : 2 ≤ P) (hP2 : P ≤ 8) (hc : 2 * P ≤ pc1) (hp : player = 0 ∨ player = 1) :
  Calls Try.prog 107 #[.agg #[.slice (some ⟨g, o, none⟩) (2 * P) pc1, .slice p2 pn2 pc2, .int .i64 pp], .agg #[.int .i64 P, .int .i64 s, .bool st, .bool sk, .bool re, .bool fe, .bool ag, .int .i64 c, .int .i64 l], .int .i64 player] w fun e w' =>
   e = .returned (.slice (some ⟨g, offH o P player, none⟩) P (capH pc1 P player)) ∧ Below w.heap.size w w' := by
 have BB := Lib.hid (((Below.refl w.heap.size w).alloc (Nat.le_refl _) (.cells #[.slice (some ⟨g, o, none⟩) (2 * P) pc1, .slice p2 pn2 pc2, .int .i64 pp] 32)).alloc (by simp) (.cells #[.int .i64 P, .int .i64 s, .bool st, .bool sk, .bool re, .bool fe, .bool ag, .int .i64 c, .int .i64 l] 30))
 rcases hp with rfl | rfl
 ·go_enter Try.func107, Try.ntmps107
  go_wp2
  go_ret
  exact ⟨rfl, BB.out⟩
 ·have he : 2 * P - P = P := by omega
  have HE := Lib.hid he
  clear he
  go_enter Try.func107, Try.ntmps107
  go_wp2
  go_ret
  refine ⟨?_, BB.out⟩
  show Ending.returned (.slice (some ⟨g, o + P, none⟩) (2 * P - P) (pc1 - P)) = _
  rw [HE.out]
  rfl
theorem side_d (p s c l : Int) (st sk re fe ag : Bool) (p1 p2 : Option Addr) (pn1 pc1 pn2 pc2 : Nat) (pp : Int) (g o : Nat) (player : Int) (w : World) (hp1 : p1 = some ⟨g, o, none⟩) (hp : 2 ≤ p ∧ p ≤ 8) (h2 : (pn1 : Int) = 2 * p) (hc : pn1 ≤ pc1) (hpl : player = 0 ∨ player = 1) :
  Calls Try.prog 107 #[.agg #[.slice p1 pn1 pc1, .slice p2 pn2 pc2, .int .i64 pp], .agg #[.int .i64 p, .int .i64 s, .bool st, .bool sk, .bool re, .bool fe, .bool ag, .int .i64 c, .int .i64 l], .int .i64 player] w fun e w' => e = .returned (.slice (some ⟨g, offH o p.toNat player, none⟩) p.toNat (capH pc1 p.toNat player)) ∧ Below w.heap.size w w' := by
 obtain ⟨P, rfl⟩ : ∃ P : Nat, p = (P : Int) := ⟨p.toNat, by omega⟩
 rw [Int.toNat_natCast]
 subst hp1
 obtain rfl : pn1 = 2 * P := by omega
 exact side_d0 P s c l st sk re fe ag g o p2 pc1 pn2 pc2 pp player w (by omega) (by omega) hc hpl
theorem isSlam_any (p s c l : Int) (st sk re fe ag : Bool) (player : Int) (p1 p2 : Option Addr) (pn1 pc1 pn2 pc2 : Nat) (pp pq : Int) (xs ys L : List Int) (a : Option Addr) (cc n : Nat) (w : World) (h : PosR w p1 p2 pn1 pn2 xs ys) (hq : posB xs = true) (ht : tot xs ≤ 96) (hp : 2 ≤ p ∧ p ≤ 8) (hn1 : (pn1 : Int) = 2 * p) (hpl : player = 0 ∨ player = 1) (hL : ∀ k ∈ L, 0 ≤ k ∧ k < (pn1 : Int)) (hn : L.length = n) (hn16 : n ≤ 1000) (ha : RowN w a L) (hcap : pn1 ≤ pc1) :
    Calls Try.prog 90 #[.agg #[.int .i64 p, .int .i64 s, .bool st, .bool sk, .bool re, .bool fe, .bool ag, .int .i64 c, .int .i64 l, .int .i64 player, .slice p1 pn1 pc1, .slice p2 pn2 pc2, .int .i64 pp, .int .i64 pq], .slice a n cc] w fun e w' => e = .returned (.bool (slamB p player xs L)) ∧ Below w.heap.size w w' := by
  have HC := Lib.hid (cp_new p s c l st sk re fe ag player p1 p2 pn1 pc1 pn2 pc2 pp pq w 73)
  obtain ⟨⟨_, c0, c1, c2, c3, c4, c5, c6, c7, c8, c9, c10, c11, c12, c13⟩, -⟩ := HC.out
  have H0 := Lib.hid h
  have HA := Lib.hid ha
  have HP := Lib.hid hp
  have HPl0 := Lib.hid hpl
  have HPl : Hid (1 - player = 0 ∨ 1 - player = 1) := Lib.hid (by omega)
  have HQ := Lib.hid (And.intro hq ht)
  have Hn1 := Lib.hid hn1
  have Hcap := Lib.hid hcap
  have HL1 := Lib.hid h.l1
  have hlp : xs.length = 2 * p.toNat := by have := h.l1; omega
  have HLh := Lib.hid (half_len hlp HPl.out)
  have hht := half_tot hlp HPl.out hq
  have HH : Hid (posB (halfL xs p.toNat (1 - player)) = true ∧ tot (halfL xs p.toNat (1 - player)) ≤ 96) := Lib.hid ⟨hht.1, by omega⟩
  have hw1 : IntKind.i64.wrap (1 - player) = 1 - player := IntWalk.i64_in _ ⟨by omega, by omega⟩
  have HLn := Lib.hid (And.intro hL hn)
  have hnex : xs ≠ [] := by intro e; have := h.l1; subst e; simp at this; omega
  obtain ⟨gx, ox, hgx, -⟩ := h.r1.2.resolve_left hnex
  have HG := Lib.hid hgx
  have HRow : Hid (∀ u, Below w.heap.size w u → RowN u (some ⟨gx, offH ox p.toNat (1 - player), none⟩) (halfL xs p.toNat (1 - player))) := Lib.hid (fun u hu => row_half (by rw [← HG.out]; exact (H0.out.below hu).r1) hnex HPl.out)
  clear hnex hgx
  clear h ha hp hpl hq ht hn1 hcap hlp hht hL hn
  go_enter Try.func90, Try.ntmps90
  go_wp2_with fail
  generalize w.alloc (.cells #[.int .i64 p, .int .i64 s, .bool st, .bool sk, .bool re, .bool fe, .bool ag, .int .i64 c, .int .i64 l, .int .i64 player, .slice p1 pn1 pc1, .slice p2 pn2 pc2, .int .i64 pp, .int .i64 pq] 73) = w1 at *
  clear c0 c1 c2 c3 c4 c5 c6 c7 c8 c9 c10 c11 c12 c13
  go_loopw [5, 10] (fun s0 i wr => ∃ (k : Nat) (t : Int), k ≤ n ∧ i = .int .i64 k ∧ s0 = .int .i64 t ∧ t = takenF p player xs (L.take k) ∧ CpAt w p s c l st sk re fe ag player p1 p2 pn1 pc1 pn2 pc2 pp pq wr) (fun _ i _ => n - (intOf i).toNat)
  case atStart => exact ⟨0, 0, Nat.zero_le _, rfl, rfl, rfl, HC.out⟩
  case round =>
    obtain ⟨k, t, hk, rfl, rfl, ht', hC⟩ := hrel
    have hb := taken_bd HQ.out.1 HQ.out.2 p player (L.take k)
    rw [← ht', List.length_take] at hb
    obtain ⟨b0, b1⟩ := hb
    have b2 : t ≤ 96 * 1000 := by omega
    have Ht := Lib.hid ht'
    have HC := Lib.hid hC
    obtain ⟨⟨_, c0, c1, c2, c3, c4, c5, c6, c7, c8, c9, c10, c11, c12, c13⟩, -⟩ := hC
    clear ht' b1
    by_cases hlt : k < n
    · obtain ⟨q, hq⟩ : ∃ q, L[k]? = some q := ⟨L[k]'(by rw [HLn.out.2]; exact hlt), List.getElem?_eq_getElem _⟩
      obtain ⟨q0, q1⟩ := HLn.out.1 q (List.mem_of_getElem? hq)
      obtain ⟨Q, rfl⟩ : ∃ Q : Nat, q = (Q : Int) := ⟨q.toNat, by omega⟩
      have hne : L ≠ [] := by intro e; subst e; cases hq
      obtain ⟨ga, oa, rfl, hga, hca⟩ := (HA.out.below HC.out.be).2.resolve_left hne
      have ya := hca k _ hq
      have HV := vAt_bd HQ.out.1 HQ.out.2 (Q : Int)
      obtain ⟨v1, v2⟩ := HV
      have HR : Hid (∀ x ∈ [(Q : Int)], 0 ≤ x ∧ x < (pn1 : Int)) := Lib.hid (fun x hx => by
        rcases List.mem_cons.1 hx with rfl | hx
        · omega
        · cases hx)
      have hs1 := sumAt_one xs (Q : Int)
      have hst := taken_snoc p player xs (L.take k) (Q : Int)
      rw [← take_next hq, ← Ht.out] at hst
      have k0 : (0 : Int) ≤ (k : Int) := by omega
      have k1 : (k : Int) < (n : Int) := by omega
      clear hca hq hne
      generalize vAt xs (Q : Int) = v at *
      have Hs1 := Lib.hid hs1
      rcases hb : ownB p (1 - player) (Q : Int) with _ | _
      · rw [hb] at hst
        have Hst := Lib.hid hst
        have Hb := Lib.hid hb
        clear hst hb hs1
        go_wp2_with (first | (go_at_call 105; refine (isOther_any p s c l st sk re fe ag player p1 p2 pn1 pc1 pn2 pc2 pp pq (Q : Int) _ HP.out HPl0.out).mono ?_; rintro e w5 ⟨rfl, hb5⟩; rw [Hb.out]; have HC := Lib.hid (HC.out.below hb5); clear hb5; obtain ⟨⟨_, c0, c1, c2, c3, c4, c5, c6, c7, c8, c9, c10, c11, c12, c13⟩, -⟩ := HC.out) | (go_at_call 61; refine (seedsIn_any p s c l st sk re fe ag player p1 p2 pn1 pc1 pn2 pc2 pp pq xs ys [(Q : Int)] _ 1 1 _ ((H0.out.below HC.out.be).alloc _) HQ.out.1 HQ.out.2 HR.out rfl (by omega) (row_1 _ _ _)).mono ?_; rintro e w6 ⟨rfl, hb6⟩; rw [Hs1.out]; have HC := Lib.hid ((HC.out.alloc _).below hb6); clear hb6; obtain ⟨⟨_, c0, c1, c2, c3, c4, c5, c6, c7, c8, c9, c10, c11, c12, c13⟩, -⟩ := HC.out))
        go_roundw
        case rel => exact ⟨k + 1, t, by omega, by go_num, rfl, by rw [Hst.out]; simp, HC.out⟩
        case measure => simp [intOf]; omega
      · rw [hb, if_pos rfl] at hst
        have Hst := Lib.hid hst
        have Hb := Lib.hid hb
        clear hst hb hs1
        go_wp2_with (first | (go_at_call 105; refine (isOther_any p s c l st sk re fe ag player p1 p2 pn1 pc1 pn2 pc2 pp pq (Q : Int) _ HP.out HPl0.out).mono ?_; rintro e w5 ⟨rfl, hb5⟩; rw [Hb.out]; have HC := Lib.hid (HC.out.below hb5); clear hb5; obtain ⟨⟨_, c0, c1, c2, c3, c4, c5, c6, c7, c8, c9, c10, c11, c12, c13⟩, -⟩ := HC.out) | (go_at_call 61; refine (seedsIn_any p s c l st sk re fe ag player p1 p2 pn1 pc1 pn2 pc2 pp pq xs ys [(Q : Int)] _ 1 1 _ ((H0.out.below HC.out.be).alloc _) HQ.out.1 HQ.out.2 HR.out rfl (by omega) (row_1 _ _ _)).mono ?_; rintro e w6 ⟨rfl, hb6⟩; rw [Hs1.out]; have HC := Lib.hid ((HC.out.alloc _).below hb6); clear hb6; obtain ⟨⟨_, c0, c1, c2, c3, c4, c5, c6, c7, c8, c9, c10, c11, c12, c13⟩, -⟩ := HC.out))
        go_roundw
        case rel => exact ⟨k + 1, t + v, by omega, by go_num, by go_num, by rw [Hst.out], HC.out⟩
        case measure => simp [intOf]; omega
    · obtain rfl : k = n := by omega
      have e1 : L.take k = L := List.take_of_length_le (by rw [HLn.out.2]; exact Nat.le_refl _)
      have e2 : slamB p player xs L = (decide (0 < t) && decide (t = tot (halfL xs p.toNat (1 - player)))) := by unfold slamB; rw [Ht.out, e1]
      clear e1
      generalize halfL xs p.toNat (1 - player) = hs at *
      by_cases h0 : 0 < t
      · have d0 : decide (0 < t) = true := by simpa using h0
        generalize hT : tot hs = T at *
        have HT := Lib.hid hT
        by_cases h1 : t = T
        · have d1 : (t == T) = true := by simpa using h1
          have e3 : (decide (0 < t) && decide (t = T)) = true := by rw [decide_eq_true h0, decide_eq_true h1]; rfl
          rw [e3] at e2
          have HE2 := Lib.hid e2
          clear h1 hT e2 e3
          go_wp2_with fail
          apply region_class (CpAt w p s c l st sk re fe ag player p1 p2 pn1 pc1 pn2 pc2 pp pq) (by kernel_rfl) (by kernel_rfl) (HC.out.drew)
          repeat (first
            | (apply step_skip (by rfl)
               simp only [Act.put, List.setIfInBounds_toArray, List.set_cons_zero, List.set_cons_succ])
            | (apply step_val (by rfl)
               · intro u hu
                 obtain ⟨⟨_, r0, r1, r2, r3, r4, r5, r6, r7, r8, r9, r10, r11, r12, r13⟩, _⟩ := hu
                 go_simp
                 try with_reducible rfl
               simp only [Act.put, List.setIfInBounds_toArray, List.set_cons_zero, List.set_cons_succ])
            | (apply step_call (by rfl)
               · intro u
                 go_simp
                 exact ⟨rfl, rfl⟩
               · intro u hu
                 (with_reducible refine (position_any p1 p2 pn1 pc1 pn2 pc2 pp pq player _).mono ?_); (rintro e u' ⟨rfl, hb5⟩; exact ⟨rfl, hu.below hb5⟩)
               simp only [Act.put, List.setIfInBounds_toArray, List.set_cons_zero, List.set_cons_succ])
            | (apply step_call (by rfl)
               · intro u
                 go_simp
                 exact ⟨rfl, rfl⟩
               · intro u hu
                 (with_reducible refine (side_d p s c l st sk re fe ag p1 p2 pn1 pc1 pn2 pc2 player gx ox (1 - player) _ HG.out HP.out Hn1.out Hcap.out HPl.out).mono ?_); (rintro e u' ⟨rfl, hb5⟩; exact ⟨rfl, hu.below hb5⟩)
               simp only [Act.put, List.setIfInBounds_toArray, List.set_cons_zero, List.set_cons_succ])
            | (apply step_call (by rfl)
               · intro u
                 go_simp
                 exact ⟨rfl, rfl⟩
               · intro u hu
                 (with_reducible refine (sumOf_any _ _ p.toNat hs _ HLh.out (HRow.out _ hu.be) HH.out.1 (by rw [HT.out]; exact HH.out.2)).mono ?_); (rintro e u' ⟨rfl, rfl⟩; rw [HT.out]; exact ⟨rfl, hu⟩)
               simp only [Act.put, List.setIfInBounds_toArray, List.set_cons_zero, List.set_cons_succ]))
          apply step_nil
          intro w5 hs5
          have HS5 := Lib.hid hs5
          clear hs5
          go_wp2_with fail
          go_ret
          exact ⟨by rw [HE2.out]; rfl, HS5.out.be⟩
        · have d1 : (t == T) = false := by simpa using h1
          have e3 : (decide (0 < t) && decide (t = T)) = false := by rw [decide_eq_false h1]; simp
          rw [e3] at e2
          have HE2 := Lib.hid e2
          clear h1 hT e2 e3
          go_wp2_with fail
          apply region_class (CpAt w p s c l st sk re fe ag player p1 p2 pn1 pc1 pn2 pc2 pp pq) (by kernel_rfl) (by kernel_rfl) (HC.out.drew)
          repeat (first
            | (apply step_skip (by rfl)
               simp only [Act.put, List.setIfInBounds_toArray, List.set_cons_zero, List.set_cons_succ])
            | (apply step_val (by rfl)
               · intro u hu
                 obtain ⟨⟨_, r0, r1, r2, r3, r4, r5, r6, r7, r8, r9, r10, r11, r12, r13⟩, _⟩ := hu
                 go_simp
                 try with_reducible rfl
               simp only [Act.put, List.setIfInBounds_toArray, List.set_cons_zero, List.set_cons_succ])
            | (apply step_call (by rfl)
               · intro u
                 go_simp
                 exact ⟨rfl, rfl⟩
               · intro u hu
                 (with_reducible refine (position_any p1 p2 pn1 pc1 pn2 pc2 pp pq player _).mono ?_); (rintro e u' ⟨rfl, hb5⟩; exact ⟨rfl, hu.below hb5⟩)
               simp only [Act.put, List.setIfInBounds_toArray, List.set_cons_zero, List.set_cons_succ])
            | (apply step_call (by rfl)
               · intro u
                 go_simp
                 exact ⟨rfl, rfl⟩
               · intro u hu
                 (with_reducible refine (side_d p s c l st sk re fe ag p1 p2 pn1 pc1 pn2 pc2 player gx ox (1 - player) _ HG.out HP.out Hn1.out Hcap.out HPl.out).mono ?_); (rintro e u' ⟨rfl, hb5⟩; exact ⟨rfl, hu.below hb5⟩)
               simp only [Act.put, List.setIfInBounds_toArray, List.set_cons_zero, List.set_cons_succ])
            | (apply step_call (by rfl)
               · intro u
                 go_simp
                 exact ⟨rfl, rfl⟩
               · intro u hu
                 (with_reducible refine (sumOf_any _ _ p.toNat hs _ HLh.out (HRow.out _ hu.be) HH.out.1 (by rw [HT.out]; exact HH.out.2)).mono ?_); (rintro e u' ⟨rfl, rfl⟩; rw [HT.out]; exact ⟨rfl, hu⟩)
               simp only [Act.put, List.setIfInBounds_toArray, List.set_cons_zero, List.set_cons_succ]))
          apply step_nil
          intro w5 hs5
          have HS5 := Lib.hid hs5
          clear hs5
          go_wp2_with fail
          go_ret
          exact ⟨by rw [HE2.out]; rfl, HS5.out.be⟩
      · have d0 : decide (0 < t) = false := by simpa using h0
        have e3 : (decide (0 < t) && decide (t = tot hs)) = false := by rw [decide_eq_false h0]; rfl
        rw [e3] at e2
        have HE2 := Lib.hid e2
        clear e2 e3
        go_wp2_with fail
        apply region_class (CpAt w p s c l st sk re fe ag player p1 p2 pn1 pc1 pn2 pc2 pp pq) (by kernel_rfl) (by kernel_rfl) (HC.out.drew)
        repeat (first
          | (apply step_skip (by rfl)
             simp only [Act.put, List.setIfInBounds_toArray, List.set_cons_zero, List.set_cons_succ])
          | (apply step_val (by rfl)
             · intro u hu
               obtain ⟨⟨_, r0, r1, r2, r3, r4, r5, r6, r7, r8, r9, r10, r11, r12, r13⟩, _⟩ := hu
               go_simp
               try with_reducible rfl
             simp only [Act.put, List.setIfInBounds_toArray, List.set_cons_zero, List.set_cons_succ]))
        apply step_nil
        intro w5 hs5
        have HS5 := Lib.hid hs5
        clear hs5
        go_wp2_with fail
        go_ret
        exact ⟨by rw [HE2.out]; rfl, HS5.out.be⟩
/- Cap11 -/
structure Good (p s c l : Int) (st sk re fe ag : Bool) (player : Int) (pn1 pn2 : Nat) (pp : Int) (xs ys : List Int) : Prop where
 ok : okR p s c l st ag = true
 p2 : 2 ≤ p ∧ p ≤ 8
 c3 : 0 ≤ c ∧ c ≤ 3
 n1 : (pn1 : Int) = 2 * p
 n2 : pn2 = 2
 pl : player = 0 ∨ player = 1
 q1 : posB xs = true
 q2 : posB ys = true
 q3 : tot xs + tot ys ≤ 96
 l1 : -1 ≤ pp
 l2 : pp < 2 * p
theorem good_of (p s c l : Int) (st sk re fe ag : Bool) {player : Int} {pn1 pn2 : Nat} {pp pq : Int} {xs ys : List Int} (h : okS (okR p s c l st ag) p st pn1 pn2 pp pq player xs ys = true) : Good p s c l st sk re fe ag player pn1 pn2 pp xs ys := by
 obtain ⟨h1, -, h3⟩ := okS_parts h
 obtain ⟨k1, k2, k3, k4, k5⟩ := okP_parts h1
 obtain ⟨m1, m2, -, -, m5, m6, -⟩ := okR_bd k1
 obtain ⟨s1, s2, s3⟩ := seedB_parts k5
 obtain ⟨r1, r2⟩ := last_bd m1 h3
 exact ⟨k1, ⟨m1, m2⟩, ⟨m5, m6⟩, k2, k3, by omega, s1, s2, s3, r1, r2⟩
theorem Good.t1 {p s c l player : Int} {st sk re fe ag : Bool} {pn1 pn2 : Nat} {pp : Int} {xs ys : List Int} (h : Good p s c l st sk re fe ag player pn1 pn2 pp xs ys) : tot xs ≤ 96 := by
 have := posB_tot h.q2
 have := h.q3
 omega
theorem Good.raw {p s c l player : Int} {st sk re fe ag : Bool} {pn1 pn2 : Nat} {pp : Int} {xs ys : List Int} (h : Good p s c l st sk re fe ag player pn1 pn2 pp xs ys) (cp : Int) : ∀ k ∈ rawF cp p player pp xs, 0 ≤ k ∧ k < (pn1 : Int) := fun k hk => by
 have := raw_in h.l2 k hk
 have := h.n1
 omega
theorem own_out {p pl k : Int} (hp : 2 ≤ p) (hpl : pl = 0 ∨ pl = 1) (hk : k < 0) : ownB p pl k = false := by
 unfold ownB
 rcases hpl with rfl | rfl <;> simp <;> omega
theorem rawI_any (p s c l : Int) (st sk re fe ag : Bool) (player : Int) (p1 p2 : Option Addr) (pn1 pc1 pn2 pc2 : Nat) (pp pq : Int) (xs ys : List Int) (w : World) (h : PosR w p1 p2 pn1 pn2 xs ys) (g : Good p s c l st sk re fe ag player pn1 pn2 pp xs ys) :
  Calls Try.prog 79 #[.agg #[.int .i64 p, .int .i64 s, .bool st, .bool sk, .bool re, .bool fe, .bool ag, .int .i64 c, .int .i64 l, .int .i64 player, .slice p1 pn1 pc1, .slice p2 pn2 pc2, .int .i64 pp, .int .i64 pq]] w (OwnP (rawF c p player pp xs) (rawF c p player pp xs).length w) := by
 have hc := g.c3
 have hp2 := g.p2.1
 have hl1 := g.l1
 rcases (show c = 0 ∨ c = 1 ∨ c = 2 ∨ c = 3 by omega) with e | e | e | e
 ·refine raw_any0 p s c l st sk re fe ag player _ _ _ _ _ _ _ _ w e _ (fun u hu => ?_)
  have er : rawF c p player pp xs = [] := by
   unfold rawF
   by_cases hlt : pp < 0
   ·rw [if_pos hlt]
   ·rw [if_neg hlt, if_neg (by omega), if_neg (by omega), if_neg (by omega)]
  rw [er]
  exact none_any p s c l st sk re fe ag player _ _ _ _ _ _ _ _ u
 ·refine raw_any1 p s c l st sk re fe ag player _ _ _ _ _ _ _ _ w e _ (fun u hu => ?_)
  have er : rawF c p player pp xs = twF p player xs (pp + 1).toNat := by
   unfold rawF
   by_cases hlt : pp < 0
   ·rw [if_pos hlt, show (pp + 1).toNat = 0 by omega]; rfl
   ·rw [if_neg hlt, if_pos e, show (pp + 1).toNat = pp.toNat + 1 by omega]
  rw [er]
  exact twoThree_any p s c l st sk re fe ag player _ _ _ _ _ _ _ _ xs ys _ u (h.below hu) g.q1 g.t1 g.p2 g.n1 g.pl (by omega) (by have := g.l2; omega)
 ·refine raw_any2 p s c l st sk re fe ag player _ _ _ _ _ _ _ _ w e _ (fun u hu => ?_)
  refine cross_any p s c l st sk re fe ag player _ _ _ _ _ _ _ _ xs ys u (h.below hu) g.q1 g.t1 g.ok g.n1 g.pl g.l1 g.l2 _ ?_
  unfold rawF
  by_cases hlt : pp < 0
  ·rw [if_pos hlt, own_out hp2 g.pl hlt]; rfl
  ·rw [if_neg hlt, if_neg (show ¬ c = 1 by omega), if_pos e]
 ·refine raw_any3 p s c l st sk re fe ag player _ _ _ _ _ _ _ _ w e _ (fun u hu => ?_)
  refine even_any p s c l st sk re fe ag player _ _ _ _ _ _ _ _ xs ys u (h.below hu) g.q1 g.t1 g.p2 g.n1 g.pl g.l1 g.l2 _ ?_
  unfold rawF
  by_cases hlt : pp < 0
  ·rw [if_pos hlt, own_out hp2 (by have := g.pl; omega) hlt]; rfl
  ·rw [if_neg hlt, if_neg (show ¬ c = 1 by omega), if_neg (show ¬ c = 2 by omega), if_pos e]
theorem spared_any (p s c l : Int) (st sk re fe ag : Bool) (player : Int) (p1 p2 : Option Addr) (pn1 pc1 pn2 pc2 : Nat) (pp pq : Int) (xs ys : List Int) (w : World) (h : PosR w p1 p2 pn1 pn2 xs ys) (g : Good p s c l st sk re fe ag player pn1 pn2 pp xs ys) (hcap : pn1 ≤ pc1) :
  Calls Try.prog 78 #[.agg #[.int .i64 p, .int .i64 s, .bool st, .bool sk, .bool re, .bool fe, .bool ag, .int .i64 c, .int .i64 l, .int .i64 player, .slice p1 pn1 pc1, .slice p2 pn2 pc2, .int .i64 pp, .int .i64 pq]] w fun e w' => e = .returned (.bool (decide (l = 2) && slamB p player xs (rawF c p player pp xs))) ∧ Below w.heap.size w w' := by
 have HC := Lib.hid (cp_new p s c l st sk re fe ag player p1 p2 pn1 pc1 pn2 pc2 pp pq w 73)
 obtain ⟨⟨_, c0, c1, c2, c3, c4, c5, c6, c7, c8, c9, c10, c11, c12, c13⟩, -⟩ := HC.out
 have H0 := Lib.hid h
 have G := Lib.hid g
 have Hcap := Lib.hid hcap
 have HLn : Hid ((rawF c p player pp xs).length ≤ 1000) := Lib.hid (by have := raw_len (cp := c) (pl := player) (xs := xs) g.p2.2 g.p2.1 g.l2; omega)
 have HRaw : Hid (∀ u, Below w.heap.size w u → Calls Try.prog 79 #[.agg #[.int .i64 p, .int .i64 s, .bool st, .bool sk, .bool re, .bool fe, .bool ag, .int .i64 c, .int .i64 l, .int .i64 player, .slice p1 pn1 pc1, .slice p2 pn2 pc2, .int .i64 pp, .int .i64 pq]] u (OwnP (rawF c p player pp xs) (rawF c p player pp xs).length u)) := Lib.hid (fun u hu => rawI_any p s c l st sk re fe ag player _ _ _ _ _ _ _ _ xs ys u (h.below hu) g)
 have HRin := Lib.hid (g.raw c)
 generalize rawF c p player pp xs = R at *
 clear h g hcap
 by_cases hl : l = 2
 ·have t1 : (l == 2) = true := by simpa using hl
  rw [decide_eq_true hl, Bool.true_and]
  clear hl
  go_enter Try.func78, Try.ntmps78
  go_wp2_with fail
  go_region_held3 (fun u => (w.heap.size < u.heap.size ∧ u.cell? ⟨w.heap.size, 0, none⟩ = some (.int .i64 p) ∧ u.cell? ⟨w.heap.size, 1, none⟩ = some (.int .i64 s) ∧ u.cell? ⟨w.heap.size, 2, none⟩ = some (.bool st) ∧ u.cell? ⟨w.heap.size, 3, none⟩ = some (.bool sk) ∧ u.cell? ⟨w.heap.size, 4, none⟩ = some (.bool re) ∧ u.cell? ⟨w.heap.size, 5, none⟩ = some (.bool fe) ∧ u.cell? ⟨w.heap.size, 6, none⟩ = some (.bool ag) ∧ u.cell? ⟨w.heap.size, 7, none⟩ = some (.int .i64 c) ∧ u.cell? ⟨w.heap.size, 8, none⟩ = some (.int .i64 l) ∧ u.cell? ⟨w.heap.size, 9, none⟩ = some (.int .i64 player) ∧ u.cell? ⟨w.heap.size, 10, none⟩ = some (.slice p1 pn1 pc1) ∧ u.cell? ⟨w.heap.size, 11, none⟩ = some (.slice p2 pn2 pc2) ∧ u.cell? ⟨w.heap.size, 12, none⟩ = some (.int .i64 pp) ∧ u.cell? ⟨w.heap.size, 13, none⟩ = some (.int .i64 pq)) ∧ Below w.heap.size w u) (first | exact HC.out | exact HC.out.drew)
   (first
   | (go_at_call 79; refine (HRaw.out _ (by first | exact HC.out.be | exact HC.out.drew.be)).mono ?_; rintro e w5 ⟨v5, rfl, hown, hb5⟩; obtain ⟨a5, cc5, rfl, hr5⟩ := own_slice hown rfl HLn.out; have HR5 := Lib.hid hr5; have HC := Lib.hid (by first | exact HC.out.below hb5 | exact HC.out.drew.below hb5 : CpAt w p s c l st sk re fe ag player p1 p2 pn1 pc1 pn2 pc2 pp pq w5); clear hown hr5 hb5)
   | (go_at_call 90; refine (isSlam_any p s c l st sk re fe ag player p1 p2 pn1 pc1 pn2 pc2 pp pq xs ys _ a5 cc5 _ _ (H0.out.below (by first | exact HC.out.be | exact HC.out.drew.be)) G.out.q1 G.out.t1 G.out.p2 G.out.n1 G.out.pl HRin.out rfl HLn.out (by first | exact HR5.out | exact HR5.out.drewN 1) Hcap.out).mono ?_; rintro e w6 ⟨rfl, hb6⟩; have HC := Lib.hid (by first | exact HC.out.below hb6 | exact HC.out.drew.below hb6 : CpAt w p s c l st sk re fe ag player p1 p2 pn1 pc1 pn2 pc2 pp pq w6); clear hb6))
  go_wp2_with fail
  go_ret
  exact ⟨rfl, HC.out.be⟩
 ·have t1 : (l == 2) = false := by simpa using hl
  rw [decide_eq_false hl, Bool.false_and]
  clear hl
  go_enter Try.func78, Try.ntmps78
  go_wp2_with fail
  go_quiet (fail)
  go_wp2_with fail
  go_ret
  exact ⟨rfl, by first | exact HC.out.be | exact (show Below w.heap.size w _ from HC.out.be.trans ((Below.refl _ _).mono HC.out.be.size)) | exact HC.out.drew.be | exact below_dn HC.out.be _⟩
theorem pits_any (p s c l : Int) (st sk re fe ag : Bool) (player : Int) (p1 p2 : Option Addr) (pn1 pc1 pn2 pc2 : Nat) (pp pq : Int) (xs ys : List Int) (w : World) (h : PosR w p1 p2 pn1 pn2 xs ys) (g : Good p s c l st sk re fe ag player pn1 pn2 pp xs ys) (hcap : pn1 ≤ pc1) :
  Calls Try.prog 59 #[.agg #[.int .i64 p, .int .i64 s, .bool st, .bool sk, .bool re, .bool fe, .bool ag, .int .i64 c, .int .i64 l, .int .i64 player, .slice p1 pn1 pc1, .slice p2 pn2 pc2, .int .i64 pp, .int .i64 pq]] w (OwnP (pitsF c l p player pp xs) (pitsF c l p player pp xs).length w) := by
 have HC := Lib.hid (cp_new p s c l st sk re fe ag player p1 p2 pn1 pc1 pn2 pc2 pp pq w 73)
 obtain ⟨⟨_, c0, c1, c2, c3, c4, c5, c6, c7, c8, c9, c10, c11, c12, c13⟩, -⟩ := HC.out
 have hpf : pitsF c l p player pp xs = if decide (l = 2) && slamB p player xs (rawF c p player pp xs) then [] else rawF c p player pp xs := rfl
 have HRaw : Hid (∀ u, Below w.heap.size w u → Calls Try.prog 79 #[.agg #[.int .i64 p, .int .i64 s, .bool st, .bool sk, .bool re, .bool fe, .bool ag, .int .i64 c, .int .i64 l, .int .i64 player, .slice p1 pn1 pc1, .slice p2 pn2 pc2, .int .i64 pp, .int .i64 pq]] u (OwnP (rawF c p player pp xs) (rawF c p player pp xs).length u)) := Lib.hid (fun u hu => rawI_any p s c l st sk re fe ag player _ _ _ _ _ _ _ _ xs ys u (h.below hu) g)
 have HSp : Hid (∀ u, Below w.heap.size w u → Calls Try.prog 78 #[.agg #[.int .i64 p, .int .i64 s, .bool st, .bool sk, .bool re, .bool fe, .bool ag, .int .i64 c, .int .i64 l, .int .i64 player, .slice p1 pn1 pc1, .slice p2 pn2 pc2, .int .i64 pp, .int .i64 pq]] u fun e w' => e = .returned (.bool (decide (l = 2) && slamB p player xs (rawF c p player pp xs))) ∧ Below u.heap.size u w') := Lib.hid (fun u hu => spared_any p s c l st sk re fe ag player p1 p2 pn1 pc1 pn2 pc2 pp pq xs ys u (h.below hu) g hcap)
 generalize pitsF c l p player pp xs = PF at *
 generalize rawF c p player pp xs = R at *
 generalize (decide (l = 2) && slamB p player xs R) = sb at *
 clear h g hcap
 cases sb
 ·have e : PF = R := by rw [hpf]; simp
  subst e
  clear hpf
  go_enter Try.func59, Try.ntmps59
  go_wp2_with (first | (go_at_call 78; refine (HSp.out _ HC.out.be).mono ?_; rintro e w4 ⟨rfl, hb4⟩; have HC := Lib.hid (HC.out.below hb4); clear hb4; obtain ⟨⟨_, c0, c1, c2, c3, c4, c5, c6, c7, c8, c9, c10, c11, c12, c13⟩, -⟩ := HC.out) | (go_at_call 79; refine (HRaw.out _ HC.out.be).mono ?_; rintro e w5 ⟨v5, rfl, hown, hb5⟩; have HO := Lib.hid (own_lower hown (by have h1 := HC.out.be.size; exact h1)); have HC := Lib.hid (HC.out.below hb5); clear hown hb5))
  go_ret
  exact ⟨_, rfl, HO.out, HC.out.be⟩
 ·have e : PF = [] := by rw [hpf]; rfl
  subst e
  clear hpf
  go_enter Try.func59, Try.ntmps59
  go_wp2_with (go_at_call 78; refine (HSp.out _ HC.out.be).mono ?_; rintro e w4 ⟨rfl, hb4⟩; have HC := Lib.hid (HC.out.below hb4); clear hb4; obtain ⟨⟨_, c0, c1, c2, c3, c4, c5, c6, c7, c8, c9, c10, c11, c12, c13⟩, -⟩ := HC.out)
  go_ret
  exact ⟨_, rfl, World.ownsRow_nil _ _ _ _, HC.out.be⟩
/- Cap12 -/
structure Zero14 (u : World) (z : Nat) : Prop where
 lt : z < u.heap.size
 c0 : u.cell? ⟨z, 0, none⟩ = some (.int .i64 0)
 c1 : u.cell? ⟨z, 1, none⟩ = some (.int .i64 0)
 c2 : u.cell? ⟨z, 2, none⟩ = some (.bool false)
 c3 : u.cell? ⟨z, 3, none⟩ = some (.bool false)
 c4 : u.cell? ⟨z, 4, none⟩ = some (.bool false)
 c5 : u.cell? ⟨z, 5, none⟩ = some (.bool false)
 c6 : u.cell? ⟨z, 6, none⟩ = some (.bool false)
 c7 : u.cell? ⟨z, 7, none⟩ = some (.int .i64 0)
 c8 : u.cell? ⟨z, 8, none⟩ = some (.int .i64 0)
 c9 : u.cell? ⟨z, 9, none⟩ = some (.int .i64 0)
 c10 : u.cell? ⟨z, 10, none⟩ = some (.slice none 0 0)
 c11 : u.cell? ⟨z, 11, none⟩ = some (.slice none 0 0)
 c12 : u.cell? ⟨z, 12, none⟩ = some (.int .i64 0)
 c13 : u.cell? ⟨z, 13, none⟩ = some (.int .i64 0)
 fr : ∀ o, u.frozen? ⟨z, o, none⟩ = false
theorem Zero14.below {u v : World} {z : Nat} (h : Zero14 u z) (k : Below u.heap.size u v) : Zero14 v z := by
 have e := fun o => k.cell (p := ⟨z, o, none⟩) h.lt
 exact ⟨Nat.lt_of_lt_of_le h.lt k.size, (e _).trans h.c0, (e _).trans h.c1, (e _).trans h.c2, (e _).trans h.c3, (e _).trans h.c4, (e _).trans h.c5, (e _).trans h.c6, (e _).trans h.c7, (e _).trans h.c8, (e _).trans h.c9, (e _).trans h.c10, (e _).trans h.c11, (e _).trans h.c12, (e _).trans h.c13, fun o => (k.frozen (p := ⟨z, o, none⟩) h.lt).trans (h.fr o)⟩
theorem zero14_new (w : World) (T : TypeId) : Zero14 (w.alloc (.cells #[.int .i64 0, .int .i64 0, .bool false, .bool false, .bool false, .bool false, .bool false, .int .i64 0, .int .i64 0, .int .i64 0, .slice none 0 0, .slice none 0 0, .int .i64 0, .int .i64 0] T)) w.heap.size :=
 ⟨by simp, by go_simp, by go_simp, by go_simp, by go_simp, by go_simp, by go_simp, by go_simp, by go_simp, by go_simp, by go_simp, by go_simp, by go_simp, by go_simp, by go_simp, fun o => by go_simp⟩
theorem below14 {B z : Nat} {w u : World} (h : Below B w u) (hz : B ≤ z) (x0 x1 x2 x3 x4 x5 x6 x7 x8 x9 x10 x11 x12 x13 : Value) : Below B w ((((((((((((((u.setCell ⟨z, 0, none⟩ x0).setCell ⟨z, 1, none⟩ x1).setCell ⟨z, 2, none⟩ x2).setCell ⟨z, 3, none⟩ x3).setCell ⟨z, 4, none⟩ x4).setCell ⟨z, 5, none⟩ x5).setCell ⟨z, 6, none⟩ x6).setCell ⟨z, 7, none⟩ x7).setCell ⟨z, 8, none⟩ x8).setCell ⟨z, 9, none⟩ x9).setCell ⟨z, 10, none⟩ x10).setCell ⟨z, 11, none⟩ x11).setCell ⟨z, 12, none⟩ x12).setCell ⟨z, 13, none⟩ x13) :=
 ((((((((((((((h.setCell (p := ⟨z, 0, none⟩) hz x0).setCell (p := ⟨z, 1, none⟩) hz x1).setCell (p := ⟨z, 2, none⟩) hz x2).setCell (p := ⟨z, 3, none⟩) hz x3).setCell (p := ⟨z, 4, none⟩) hz x4).setCell (p := ⟨z, 5, none⟩) hz x5).setCell (p := ⟨z, 6, none⟩) hz x6).setCell (p := ⟨z, 7, none⟩) hz x7).setCell (p := ⟨z, 8, none⟩) hz x8).setCell (p := ⟨z, 9, none⟩) hz x9).setCell (p := ⟨z, 10, none⟩) hz x10).setCell (p := ⟨z, 11, none⟩) hz x11).setCell (p := ⟨z, 12, none⟩) hz x12).setCell (p := ⟨z, 13, none⟩) hz x13)
structure BcAt (w : World) (p s c l : Int) (st sk re fe ag : Bool) (p1 p2 : Option Addr) (pn1 pc1 pn2 pc2 : Nat) (pp pq : Int) (u : World) : Prop where
 rs : RsAt w p s c l st sk re fe ag p1 p2 pn1 pc1 pn2 pc2 pp pq u
 z : Zero14 u (w.heap.size + 1 + 1)
theorem BcAt.below {w u v : World} {p s c l : Int} {st sk re fe ag : Bool} {p1 p2 : Option Addr} {pn1 pc1 pn2 pc2 : Nat} {pp pq : Int} (h : BcAt w p s c l st sk re fe ag p1 p2 pn1 pc1 pn2 pc2 pp pq u) (k : Below u.heap.size u v) : BcAt w p s c l st sk re fe ag p1 p2 pn1 pc1 pn2 pc2 pp pq v := ⟨h.rs.below k, h.z.below k⟩
theorem bc_new (p s c l : Int) (st sk re fe ag : Bool) (p1 p2 : Option Addr) (pn1 pc1 pn2 pc2 : Nat) (pp pq : Int) (w : World) (T U V : TypeId) : BcAt w p s c l st sk re fe ag p1 p2 pn1 pc1 pn2 pc2 pp pq (((w.alloc (.cells #[.int .i64 p, .int .i64 s, .bool st, .bool sk, .bool re, .bool fe, .bool ag, .int .i64 c, .int .i64 l] T)).alloc (.cells #[.slice p1 pn1 pc1, .slice p2 pn2 pc2, .int .i64 pp, .int .i64 pq] U)).alloc (.cells #[.int .i64 0, .int .i64 0, .bool false, .bool false, .bool false, .bool false, .bool false, .int .i64 0, .int .i64 0, .int .i64 0, .slice none 0 0, .slice none 0 0, .int .i64 0, .int .i64 0] V)) :=
 ⟨(rs_new p s c l st sk re fe ag p1 p2 pn1 pc1 pn2 pc2 pp pq w T U).below (al1 _ _), by have := zero14_new ((w.alloc (.cells #[.int .i64 p, .int .i64 s, .bool st, .bool sk, .bool re, .bool fe, .bool ag, .int .i64 c, .int .i64 l] T)).alloc (.cells #[.slice p1 pn1 pc1, .slice p2 pn2 pc2, .int .i64 pp, .int .i64 pq] U)) V; simpa using this⟩
theorem beginC_no (p s c l : Int) (st sk re fe ag : Bool) (player : Int) (p1 p2 : Option Addr) (pn1 pc1 pn2 pc2 : Nat) (pp pq : Int) (xs ys : List Int) (w : World) (h : PosR w p1 p2 pn1 pn2 xs ys) (hk : okS (okR p s c l st ag) p st pn1 pn2 pp pq player xs ys = false) :
  Calls Try.prog 56 #[.agg #[.int .i64 p, .int .i64 s, .bool st, .bool sk, .bool re, .bool fe, .bool ag, .int .i64 c, .int .i64 l], .agg #[.slice p1 pn1 pc1, .slice p2 pn2 pc2, .int .i64 pp, .int .i64 pq], .int .i64 player] w fun e w' => e = .returned (.tuple #[.agg #[.int .i64 0, .int .i64 0, .bool false, .bool false, .bool false, .bool false, .bool false, .int .i64 0, .int .i64 0, .int .i64 0, .slice none 0 0, .slice none 0 0, .int .i64 0, .int .i64 0], .int .i64 1]) ∧ Below w.heap.size w w' := by
 have H := Lib.hid h
 have HS := Lib.hid (bc_new p s c l st sk re fe ag p1 p2 pn1 pc1 pn2 pc2 pp pq w 30 50 73)
 have Hk := Lib.hid hk
 clear h hk
 go_enter Try.func56, Try.ntmps56
 go_wp2_with fail
 refine (implVS_b p s c l st sk re fe ag p1 p2 pn1 pc1 pn2 pc2 pp pq xs ys player _ (H.out.below HS.out.rs.2.2) _ Hk.out).mono ?_
 rintro e u ⟨rfl, hb⟩
 have HS := Lib.hid (HS.out.below hb)
 obtain ⟨zl, z0, z1, z2, z3, z4, z5, z6, z7, z8, z9, z10, z11, z12, z13, zf⟩ := HS.out.z
 obtain ⟨⟨_, r0, r1, r2, r3, r4, r5, r6, r7, r8⟩, ⟨_, g0, g1, g2, g3⟩, -⟩ := HS.out.rs
 have f0 := zf 0
 have f1 := zf 1
 have f2 := zf 2
 have f3 := zf 3
 have f4 := zf 4
 have f5 := zf 5
 have f6 := zf 6
 have f7 := zf 7
 have f8 := zf 8
 have f9 := zf 9
 have f10 := zf 10
 have f11 := zf 11
 have f12 := zf 12
 have f13 := zf 13
 clear hb zf
 go_wp2_with fail
 refine bodyPost_ret (v := .tuple #[.agg #[.int .i64 0, .int .i64 0, .bool false, .bool false, .bool false, .bool false, .bool false, .int .i64 0, .int .i64 0, .int .i64 0, .slice none 0 0, .slice none 0 0, .int .i64 0, .int .i64 0], .int .i64 1]) (by simp [results, Try.results56, go_sem, z0, z1, z2, z3, z4, z5, z6, z7, z8, z9, z10, z11, z12, z13]) rfl ⟨rfl, ?_⟩
 exact below14 HS.out.rs.2.2 (by omega) _ _ _ _ _ _ _ _ _ _ _ _ _ _
theorem beginC_yes (p s c l : Int) (st sk re fe ag : Bool) (player : Int) (p1 p2 : Option Addr) (pn1 pc1 pn2 pc2 : Nat) (pp pq : Int) (xs ys : List Int) (w : World) (h : PosR w p1 p2 pn1 pn2 xs ys) (hk : okS (okR p s c l st ag) p st pn1 pn2 pp pq player xs ys = true) :
  Calls Try.prog 56 #[.agg #[.int .i64 p, .int .i64 s, .bool st, .bool sk, .bool re, .bool fe, .bool ag, .int .i64 c, .int .i64 l], .agg #[.slice p1 pn1 pc1, .slice p2 pn2 pc2, .int .i64 pp, .int .i64 pq], .int .i64 player] w fun e w' => e = .returned (.tuple #[.agg #[.int .i64 p, .int .i64 s, .bool st, .bool sk, .bool re, .bool fe, .bool ag, .int .i64 c, .int .i64 l, .int .i64 player, .slice p1 pn1 pc1, .slice p2 pn2 pc2, .int .i64 pp, .int .i64 pq], .int .i64 0]) ∧ Below w.heap.size w w' := by
 have H := Lib.hid h
 have HS := Lib.hid (bc_new p s c l st sk re fe ag p1 p2 pn1 pc1 pn2 pc2 pp pq w 30 50 73)
 have Hk := Lib.hid hk
 clear h hk
 go_enter Try.func56, Try.ntmps56
 go_wp2_with fail
 refine (implVS_b p s c l st sk re fe ag p1 p2 pn1 pc1 pn2 pc2 pp pq xs ys player _ (H.out.below HS.out.rs.2.2) _ Hk.out).mono ?_
 rintro e u ⟨rfl, hb⟩
 have HS := Lib.hid (HS.out.below hb)
 obtain ⟨zl, z0, z1, z2, z3, z4, z5, z6, z7, z8, z9, z10, z11, z12, z13, zf⟩ := HS.out.z
 obtain ⟨⟨_, r0, r1, r2, r3, r4, r5, r6, r7, r8⟩, ⟨_, g0, g1, g2, g3⟩, -⟩ := HS.out.rs
 have f0 := zf 0
 have f1 := zf 1
 have f2 := zf 2
 have f3 := zf 3
 have f4 := zf 4
 have f5 := zf 5
 have f6 := zf 6
 have f7 := zf 7
 have f8 := zf 8
 have f9 := zf 9
 have f10 := zf 10
 have f11 := zf 11
 have f12 := zf 12
 have f13 := zf 13
 clear hb zf
 go_wp2_with fail
 refine bodyPost_ret (v := .tuple #[.agg #[.int .i64 p, .int .i64 s, .bool st, .bool sk, .bool re, .bool fe, .bool ag, .int .i64 c, .int .i64 l, .int .i64 player, .slice p1 pn1 pc1, .slice p2 pn2 pc2, .int .i64 pp, .int .i64 pq], .int .i64 0]) (by simp [results, Try.results56, go_sem, z0, z1, z2, z3, z4, z5, z6, z7, z8, z9, z10, z11, z12, z13]) rfl ⟨rfl, ?_⟩
 exact below14 HS.out.rs.2.2 (by omega) _ _ _ _ _ _ _ _ _ _ _ _ _ _
/- RefC -/
section
variable {w u v : World} {b d : Nat} {p s c l : Int} {st sk re fe ag : Bool} {p1 p2 : Option Addr} {pn1 pc1 pn2 pc2 : Nat} {pp pq : Int}
theorem L6N.below (h : L6N w b d p s c l st sk re fe ag p1 p2 pn1 pc1 pn2 pc2 pp pq u) (k : Below u.heap.size u v) : L6N w b d p s c l st sk re fe ag p1 p2 pn1 pc1 pn2 pc2 pp pq v := ⟨h.1.below k, h.2.1.below k, h.2.2.trans (k.mono h.2.2.size)⟩
theorem L6N.be (h : L6N w b d p s c l st sk re fe ag p1 p2 pn1 pc1 pn2 pc2 pp pq u) : Below w.heap.size w u := h.2.2
end
theorem L6N.grown {w u v : World} {b d : Nat} {p s c l : Int} {st sk re fe ag : Bool} {p1 p2 : Option Addr} {pn1 pc1 pn2 pc2 : Nat} {pp pq : Int} {row : Option Nat} (h : L6N w b d p s c l st sk re fe ag p1 p2 pn1 pc1 pn2 pc2 pp pq u) (hg : u.grownBy v row) (hb : b < w.heap.size) (hd : d < w.heap.size) (hr : ∀ k, row = some k → w.heap.size ≤ k) : L6N w b d p s c l st sk re fe ag p1 p2 pn1 pc1 pn2 pc2 pp pq v := by
 obtain ⟨⟨hb1, h1⟩, ⟨hd1, h2⟩, hw⟩ := h
 have e1 : ∀ o, v.cell? ⟨b, o, none⟩ = u.cell? ⟨b, o, none⟩ := fun o => World.cell?_of_block (a := ⟨b, o, none⟩) (hg.block b hb1 (fun e => by have := hr _ e.symm; omega))
 have e2 : ∀ o, v.cell? ⟨d, o, none⟩ = u.cell? ⟨d, o, none⟩ := fun o => World.cell?_of_block (a := ⟨d, o, none⟩) (hg.block d hd1 (fun e => by have := hr _ e.symm; omega))
 exact ⟨⟨Nat.lt_of_lt_of_le hb1 hg.size, by rw [e1, e1, e1, e1, e1, e1, e1, e1, e1]; exact h1⟩, ⟨Nat.lt_of_lt_of_le hd1 hg.size, by rw [e2, e2, e2, e2]; exact h2⟩, hw.grown hg hw.size hr⟩
theorem own_eq {p pl k : Int} (hp : 2 ≤ p) (h0 : 0 ≤ k) (h1 : k < 2 * p) (hpl : pl = 0 ∨ pl = 1) : (k / p == pl) = ownB p pl k := by
 have h := own_div hp h0 h1 hpl
 cases e : ownB p pl k
 ·rw [e] at h
  simpa using h
 ·rw [e] at h
  simpa using h
theorem own_ne {p pl k : Int} (hp : 2 ≤ p) (h0 : 0 ≤ k) (h1 : k < 2 * p) (hpl : pl = 0 ∨ pl = 1) : (k / p != pl) = ownB p (1 - pl) k := by
 rw [own_other hp h0 h1 hpl, ← own_eq hp h0 h1 hpl]
 rfl
theorem in_23 (v : Int) : (decide (2 ≤ v) && decide (v ≤ 3)) = (decide (v = 2) || decide (v = 3)) := by
 by_cases h2 : v = 2
 ·subst h2; rfl
 ·by_cases h3 : v = 3
  ·subst h3; rfl
  ·rw [decide_eq_false h2, decide_eq_false h3]
   by_cases h : 2 ≤ v
   ·have : decide (v ≤ 3) = false := by simp; omega
    rw [this]; simp
   ·rw [decide_eq_false h]; rfl
theorem l06Sum_still (p1 p2 : Option Addr) (pn1 pc1 pn2 pc2 : Nat) (pp pq : Int) (xs ys L : List Int) (d : Nat) (a : Option Addr) (cc n : Nat) (w : World) (hs : SoAt w d p1 p2 pn1 pc1 pn2 pc2 pp pq) (h : PosR w p1 p2 pn1 pn2 xs ys) (hp : posB xs = true) (ht : tot xs ≤ 96) (hL : ∀ k ∈ L, 0 ≤ k ∧ k < (pn1 : Int)) (hn : L.length = n) (hn16 : n ≤ 1000) (ha : RowN w a L) :
  Calls Try.prog 60 #[.pointer (some ⟨d, 0, none⟩), .slice a n cc] w (Still (.int .i64 (sumAt xs L)) w) := by
 obtain ⟨_, s0, s1, s2, s3⟩ := hs
 have H := Lib.hid h
 have HA := Lib.hid ha
 clear h ha
 go_enter Try.func60, Try.ntmps60
 go_wp2
 go_loopw [5, 6] (fun s0 i wr => ∃ (k m : Nat) (t : Int), k ≤ n ∧ i = .int .i64 k ∧ s0 = .int .i64 t ∧ wr = w.drewN m ∧ t = sumAt xs (L.take k)) (fun _ i _ => n - (intOf i).toNat)
 case atStart => exact ⟨0, 0, 0, Nat.zero_le _, rfl, rfl, rfl, rfl⟩
 case round =>
  obtain ⟨k, m, t, hk, rfl, rfl, rfl, ht'⟩ := hrel
  have hb := sumAt_bd hp ht (L.take k)
  rw [← ht', List.length_take] at hb
  obtain ⟨b0, b1⟩ := hb
  have b2 : t ≤ 96 * 1000 := by omega
  have Ht := Lib.hid ht'
  clear ht' b1
  by_cases hlt : k < n
  ·obtain ⟨q, hq⟩ : ∃ q, L[k]? = some q := ⟨L[k]'(by rw [hn]; exact hlt), List.getElem?_eq_getElem _⟩
   obtain ⟨q0, q1⟩ := hL q (List.mem_of_getElem? hq)
   obtain ⟨Q, rfl⟩ : ∃ Q : Nat, q = (Q : Int) := ⟨q.toNat, by omega⟩
   have hne : L ≠ [] := by intro e; subst e; cases hq
   obtain ⟨ga, oa, rfl, hga, hca⟩ := HA.out.2.resolve_left hne
   have ya := hca k _ hq
   obtain ⟨g, o, rfl, hg, y⟩ := rowV (k := Q) H.out.r1 (by have := H.out.l1; omega)
   obtain ⟨v1, v2⟩ := vAt_bd hp ht (Q : Int)
   have Hq := Lib.hid hq
   have k0 : (0 : Int) ≤ (k : Int) := by omega
   have k1 : (k : Int) < (n : Int) := by omega
   have hs : sumAt xs (L.take (k + 1)) = t + vAt xs (Q : Int) := by rw [take_next Hq.out, sumAt_snoc, ← Ht.out]
   have Hs := Lib.hid hs
   clear hca hq hne hs hL hn hp ht
   generalize vAt xs (Q : Int) = v at *
   go_wp2
   go_region
   go_wp2
   go_roundw
   case rel => exact ⟨k + 1, _, t + v, by omega, by go_num, by go_num, rfl, by rw [Hs.out]⟩
   case measure => simp [intOf]; omega
  ·obtain rfl : k = n := by omega
   have e1 : L.take k = L := List.take_of_length_le (by rw [hn]; exact Nat.le_refl _)
   have e2 : t = sumAt xs L := by rw [Ht.out, e1]
   have E2 := Lib.hid e2
   clear e1 e2 hn hL
   go_wp2
   go_ret
   exact ⟨by rw [E2.out]; rfl, _, rfl⟩
theorem l06Raw_0 (p s c l : Int) (st sk re fe ag : Bool) (player : Int) (p1 p2 : Option Addr) (pn1 pc1 pn2 pc2 : Nat) (pp pq : Int) (xs ys : List Int) (b d : Nat) (w : World) (hr : RuAt w b p s c l st sk re fe ag) (hs : SoAt w d p1 p2 pn1 pc1 pn2 pc2 pp pq) (g : Good p s c l st sk re fe ag player pn1 pn2 pp xs ys) (hc : pp < 0 ∨ c = 0) :
  Calls Try.prog 77 #[.pointer (some ⟨b, 0, none⟩), .pointer (some ⟨d, 0, none⟩), .int .i64 player] w (OwnP [] 0 w) := by
 have HX := Lib.hid (show L6N w b d p s c l st sk re fe ag p1 p2 pn1 pc1 pn2 pc2 pp pq w from ⟨hr, hs, Below.refl _ _⟩)
 obtain ⟨hb, r0, r1, r2, r3, r4, r5, r6, r7, r8⟩ := hr
 obtain ⟨hd, s0, s1, s2, s3⟩ := hs
 have g1 := g.p2.1
 have g2 := g.p2.2
 have g3 := g.l2
 by_cases t0 : pp < 0
 ·clear hc g
  go_enter Try.func77, Try.ntmps77
  go_wp2_with fail
  go_ret
  exact ⟨_, rfl, World.ownsRow_made w #[] 0 (Nat.le_refl _) (by decide) rfl, (HX.out.below (al1 _ _)).be⟩
 ·have e : c = 0 := by omega
  have e1 : (c == 1) = false := by simp [e]
  have e2 : (c == 2) = false := by simp [e]
  have e3 : (c == 3) = false := by simp [e]
  clear hc g e
  go_enter Try.func77, Try.ntmps77
  go_wp2_with (go_at_call 86; refine (owner_any p _ _ _ (by go_simp) (by omega) (by omega) (by omega) (by omega)).mono ?_; rintro e w' ⟨rfl, rfl⟩)
  go_ret
  exact ⟨_, rfl, World.ownsRow_made w #[] 0 (Nat.le_refl _) (by decide) rfl, (HX.out.below (al1 _ _)).be⟩
theorem l06Raw_1 (p s c l : Int) (st sk re fe ag : Bool) (player : Int) (p1 p2 : Option Addr) (pn1 pc1 pn2 pc2 : Nat) (pp pq : Int) (xs ys : List Int) (N : Nat) (b d : Nat) (w : World) (hr : RuAt w b p s c l st sk re fe ag) (hs : SoAt w d p1 p2 pn1 pc1 pn2 pc2 pp pq) (h : PosR w p1 p2 pn1 pn2 xs ys) (g : Good p s c l st sk re fe ag player pn1 pn2 pp xs ys) (h0 : 0 ≤ pp) (hN : pp = (N : Int) - 1) (e1 : (c == 1) = true) :
  Calls Try.prog 77 #[.pointer (some ⟨b, 0, none⟩), .pointer (some ⟨d, 0, none⟩), .int .i64 player] w (OwnP (twF p player xs N) (twF p player xs N).length w) := by
 obtain ⟨i0, hi, hz0, hz1, hz2⟩ := info_parts infoN
 have HX := Lib.hid (show L6N w b d p s c l st sk re fe ag p1 p2 pn1 pc1 pn2 pc2 pp pq w from ⟨hr, hs, Below.refl _ _⟩)
 have H0 := Lib.hid h
 have G := Lib.hid g
 have HN := Lib.hid hN
 obtain ⟨hb, r0, r1, r2, r3, r4, r5, r6, r7, r8⟩ := hr
 obtain ⟨hd, s0, s1, s2, s3⟩ := hs
 have g1 := g.p2.1
 have g2 := g.p2.2
 have g3 := g.l2
 have t0 : ¬ pp < 0 := by omega
 clear g h hN
 go_enter Try.func77, Try.ntmps77
 go_wp2_with (go_at_call 86; refine (owner_any p _ _ _ (by go_simp) (by omega) (by omega) (by omega) (by omega)).mono ?_; rintro e w' ⟨rfl, rfl⟩)
 have HX := Lib.hid (HX.out.below (al1 w (.cells #[] 2)))
 have hown0 := World.ownsRow_made (e := 2) (size := 1) w #[] 0 (Nat.le_refl _) (by decide) rfl
 generalize w.alloc (.cells #[] 2) = w1 at *
 clear r0 r1 r2 r3 r4 r5 r6 r7 r8 s0 s1 s2 s3 t0 h0
 go_loopw [7, 8] (fun s0 i wr => ∃ (k m : Nat) (acc : List Int) (z : Int), i = .int .i64 z ∧ z = (k : Int) - 1 ∧ m + k ≤ 16 ∧ wr.ownsRow w.heap.size 2 1 s0 m (nvs acc) ∧ acc.length = m ∧ acc ++ twF p player xs k = twF p player xs N ∧ k ≤ N ∧ L6N w b d p s c l st sk re fe ag p1 p2 pn1 pc1 pn2 pc2 pp pq wr) (fun _ i _ => (intOf i + 1).toNat)
 case atStart => exact ⟨N, 0, [], pp, rfl, HN.out, by have := HN.out; omega, hown0, rfl, rfl, Nat.le_refl _, HX.out⟩
 case round =>
  obtain ⟨k, m, acc, z, rfl, hz, hmk, hown, hlen, hacc, hkN, hC⟩ := hrel
  have HX := Lib.hid hC
  have HO := Lib.hid hown
  have HA := Lib.hid (And.intro hlen hacc)
  obtain ⟨⟨hbl, r0, r1, r2, r3, r4, r5, r6, r7, r8⟩, ⟨hdl, s0, s1, s2, s3⟩, -⟩ := hC
  have Hz := Lib.hid hz
  clear hown hlen hacc hown0
  rcases k with _ | k
  ·have t1 : ¬ 0 ≤ z := by omega
   clear hz
   go_wp2_with (go_at_call 86; refine (owner_any p _ _ _ (by go_simp) (by omega) (by omega) (by omega) (by omega)).mono ?_; rintro e w' ⟨rfl, rfl⟩)
   go_ret
   have e := HA.out.2
   simp only [twF, List.append_nil] at e
   rw [← e, HA.out.1]
   exact ⟨_, rfl, HO.out, HX.out.be⟩
  ·obtain rfl : z = (k : Int) := by omega
   have hkp : (k : Int) < 2 * p := by have := HN.out; omega
   have k0 : (0 : Int) ≤ (k : Int) := by omega
   obtain ⟨gx, ox, rfl, hg, y⟩ := rowV (k := k) (H0.out.below HX.out.be).r1 (by have := G.out.n1; have := H0.out.l1; omega)
   have q1 : (k : Int) < (pn1 : Int) := by have := G.out.n1; omega
   have hne := own_ne (p := p) (pl := player) g1 k0 hkp G.out.pl
   clear hz Hz
   rcases hb : ownB p (1 - player) (k : Int) with _ | _
   ·have e := HA.out.2
    rw [tw_no (by rw [hb]; rfl), List.append_nil] at e
    have He := Lib.hid e
    rw [hb] at hne
    clear hb e
    go_wp2_with (go_at_call 86; refine (owner_any p _ _ _ (by go_simp) (by omega) (by omega) (by omega) (by omega)).mono ?_; rintro e w' ⟨rfl, rfl⟩)
    go_ret
    rw [← He.out, HA.out.1]
    exact ⟨_, rfl, HO.out, HX.out.be⟩
   ·rw [hb] at hne
    have hin := in_23 (vAt xs (k : Int))
    rcases hv : (decide (vAt xs (k : Int) = 2) || decide (vAt xs (k : Int) = 3)) with _ | _
    ·have e := HA.out.2
     rw [tw_no (by rw [hb, hv]; rfl), List.append_nil] at e
     have He := Lib.hid e
     rw [hv] at hin
     have HI := Lib.hid hin
     generalize vAt xs (k : Int) = v at *
     clear hb e hv hin
     go_wp2_with (first | (go_at_call 86; refine (owner_any p _ _ _ (by go_simp) (by omega) (by omega) (by omega) (by omega)).mono ?_; rintro e w' ⟨rfl, rfl⟩) | (go_at_call 63; refine (in_b v 2 3 _ HI.out _).mono ?_; rintro e w' ⟨rfl, rfl⟩))
     go_ret
     rw [← He.out, HA.out.1]
     exact ⟨_, rfl, HO.out, HX.out.be⟩
    ·have e := HA.out.2
     rw [tw_yes (by rw [hb, hv]; rfl), show ∀ (a b : List Int) (x : Int), a ++ x :: b = (a ++ [x]) ++ b from fun a b x => by simp] at e
     have He := Lib.hid e
     rw [hv] at hin
     have HI := Lib.hid hin
     generalize vAt xs (k : Int) = v at *
     clear hb e hv hin
     go_wp2_with (first | (go_at_call 86; refine (owner_any p _ _ _ (by go_simp) (by omega) (by omega) (by omega) (by omega)).mono ?_; rintro e w' ⟨rfl, rfl⟩) | (go_at_call 63; refine (in_b v 2 3 _ HI.out _).mono ?_; rintro e w' ⟨rfl, rfl⟩) | (at_builtin; refine wpList_append_own _ rfl _ _ 24 rfl w.heap.size 2 i0 (.int .i64 0) 1 8 Try.underlying24 hi hz0 hz1 hz2 rfl (by decide) _ m (nvs acc) rfl (own_keep HO.out (al1 _ _)) ⟨_, 0, none⟩ 1 1 (nvs [(k : Int)]) rfl (by simp [nvs]) (row_news (row_1 _ (k : Int) 2)) (nvs_cell _) (by unfold maxLen; omega) (by omega) (by have := HX.out.be.size; simp; omega) ?_; intro v1 w3 hown1 hgrow1 hnil1))
     go_roundw
     case rel =>
      refine ⟨k, m + 1, acc ++ [(k : Int)], (k : Int) - 1, rfl, rfl, by omega, ?_, by rw [List.length_append, HA.out.1]; rfl, He.out, by omega, ?_⟩
      ·rw [nvs_app]
       exact hown1
      ·exact L6N.grown (HX.out.below (al1 _ _)) hgrow1 hb hd (fun q hq => ((own_keep HO.out (al1 _ (.cells #[.int .i64 (k : Int)] 2))).lt q hq).1)
     case measure => first | (simp [intOf]; done) | (simp [intOf]; omega)
end Go.Proofs.Ytdhkfkfoibddnaa
