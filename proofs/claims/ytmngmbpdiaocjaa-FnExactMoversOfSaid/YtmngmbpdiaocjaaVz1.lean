/- Same4, Cap6, GameO, Turn4, Sl4, Sow3, BoxC, VS6, PosZ, Feed7, ITurn4, View4, Begin5, BegY5, Sow5S, VS7, Cap7, Cap8, one after the other (what the laws reach of them). No conditions. -/
import Derived.Test.YtmngmbpdiaocjaaCmp4
import Derived.Test.YtmngmbpdiaocjaaSide4
import Derived.Deep.AppendLies
import Derived.Lib.AppendZerosOnto
import Derived.Laws.CopyOwn
import Derived.WalkSpells
import Derived.Test.YtmngmbpdiaocjaaCh2More
import Derived.Test.YtmngmbpdiaocjaaSw5
import Derived.Test.YtmngmbpdiaocjaaLap5
import Derived.StillTailTactics
namespace Go.Proofs.Ytmngmbpdiaocjaa
open Go.Joins Go.ChangeShapes Go.WideShapes Go.ChangeAt Go.RowKit Go.Deep
set_option linter.unusedVariables false
set_option maxHeartbeats 8000000
set_option maxRecDepth 100000
/- Same4 -/
theorem cmpL_zero : ∀ {a b : List Int}, cmpL a b = 0 ↔ a = b
 | [], [] => by simp [cmpL]
 | [], _ :: _ => by simp [cmpL]
 | _ :: _, [] => by simp [cmpL]
 | x :: r, y :: q => by
  unfold cmpL
  split
  ·constructor
   ·intro h; omega
   ·intro h; cases h; omega
  ·split
   ·constructor
    ·intro h; omega
    ·intro h; cases h; omega
   ·rw [cmpL_zero]
    have : x = y := by omega
    simp [this]
def sameB (xs us ys vs : List Int) (p q : Int) : Bool := decide (xs = us) && decide (ys = vs) && (p == q)
theorem cmpP_zero (xs us ys vs : List Int) (p q : Int) : (cmpP xs us ys vs p q == 0) = sameB xs us ys vs p q := by
 unfold cmpP or3 sameB
 by_cases h1 : cmpL xs us = 0
 ·rw [if_pos h1, decide_eq_true (cmpL_zero.1 h1)]
  by_cases h2 : cmpL ys vs = 0
  ·rw [if_pos h2, decide_eq_true (cmpL_zero.1 h2)]
   by_cases h3 : p = q
   ·subst h3
    simp [cmpL]
   ·have : cmpL [p] [q] ≠ 0 := fun h => h3 (by have := cmpL_zero.1 h; simpa using this)
    rw [beq_eq_false_iff_ne.2 this, beq_eq_false_iff_ne.2 h3]
    rfl
  ·rw [if_neg h2, decide_eq_false (fun h => h2 (cmpL_zero.2 h))]
   simp [h2]
 ·rw [if_neg h1, decide_eq_false (fun h => h1 (cmpL_zero.2 h))]
  simp [h1]
theorem quiet_s {P : Program} {f : FuncId} {args : Array Value} {W w : World} {v : Value} (h : Calls P f args W (Still v W)) (hw : ∃ m, W = w.drewN m) :
  Calls P f args W fun e w'' => e = .returned v ∧ ∃ m, w'' = w.drewN m := h.mono fun _ _ ⟨he, m, hm⟩ => ⟨he, by
   obtain ⟨k, hk⟩ := hw
   exact ⟨k + m, by rw [hm, hk, World.drewN_drewN]⟩⟩
theorem take_snoc {xs : List Int} {k : Nat} {x : Int} (h : xs[k]? = some x) : xs.take (k + 1) = xs.take k ++ [x] := take_next h
theorem ne_at {xs ys : List Int} {k : Nat} {x y : Int} (hx : xs[k]? = some x) (hy : ys[k]? = some y) (h : x ≠ y) : xs ≠ ys := by
 intro e
 subst e
 rw [hx] at hy
 cases hy
 exact h rfl
theorem l00Same_any (a d : Option Addr) (c1 c2 n m : Nat) (xs ys : List Int) (w : World) (hn : xs.length = n) (hm : ys.length = m) (h1 : RowN w a xs) (h2 : RowN w d ys) :
  Calls Try.prog 61 #[.slice a n c1, .slice d m c2] w (Still (.bool (decide (xs = ys))) w) := by
 have hl : n ≤ 1000000000000 := by rw [← hn]; exact h1.1
 have Hn := Lib.hid hn
 have Hm := Lib.hid hm
 have H1 := Lib.hid h1
 have H2 := Lib.hid h2
 clear hn hm h1 h2
 by_cases hne : n = m
 ·obtain rfl := hne
  go_enter Try.func61, Try.ntmps61
  go_wp2
  go_loopw [5] (fun i wr => ∃ k q : Nat, k ≤ n ∧ i = .int .i64 k ∧ wr = w.drewN q ∧ xs.take k = ys.take k) (fun i _ => n - (intOf i).toNat)
  case atStart => exact ⟨0, 0, Nat.zero_le _, rfl, rfl, rfl⟩
  case round =>
   obtain ⟨k, q, hk, rfl, rfl, ht⟩ := hrel
   have Ht := Lib.hid ht
   clear ht
   by_cases hlt : k < n
   ·obtain ⟨x, hx⟩ : ∃ x, xs[k]? = some x := ⟨xs[k]'(by rw [Hn.out]; exact hlt), List.getElem?_eq_getElem _⟩
    obtain ⟨y, hy⟩ : ∃ y, ys[k]? = some y := ⟨ys[k]'(by rw [Hm.out]; exact hlt), List.getElem?_eq_getElem _⟩
    obtain ⟨g1, o1, rfl, y1⟩ := cell_of H1.out hx
    obtain ⟨g2, o2, rfl, y2⟩ := cell_of H2.out hy
    have Hx := Lib.hid hx
    have Hy := Lib.hid hy
    have q0 : (0 : Int) ≤ (k : Int) := by omega
    have q1 : (k : Int) < (n : Int) := by omega
    clear hx hy
    by_cases e1 : x = y
    ·subst e1
     go_wp2_with fail
     go_quiet (fail)
     go_wp2_with fail
     go_roundw
     case rel => exact ⟨k + 1, _, by omega, by go_num, rfl, by rw [take_snoc Hx.out, take_snoc Hy.out, Ht.out]⟩
     case measure => simp [intOf]; omega
    ·have E : Hid (decide (xs = ys) = false) := Lib.hid (decide_eq_false (ne_at Hx.out Hy.out e1))
     have d1 : (x != y) = true := by simpa using e1
     clear e1
     go_wp2_with fail
     go_quiet (fail)
     go_wp2_with fail
     go_ret
     exact ⟨by rw [E.out]; rfl, by first | exact dn2 _ _ _ | exact dn1 _ _⟩
   ·obtain rfl : k = n := by omega
    have E : Hid (decide (xs = ys) = true) := Lib.hid (decide_eq_true (by
     have := Ht.out
     rwa [List.take_of_length_le (by rw [Hn.out]; exact Nat.le_refl _), List.take_of_length_le (by rw [Hm.out]; exact Nat.le_refl _)] at this))
    go_wp2
    go_ret
    exact ⟨by rw [E.out]; rfl, dn1 _ _⟩
 ·have E : Hid (decide (xs = ys) = false) := Lib.hid (decide_eq_false (fun e => hne (by rw [← Hn.out, ← Hm.out, e])))
  have d1 : ((n : Int) != (m : Int)) = true := by simp; omega
  clear hne
  go_enter Try.func61, Try.ntmps61
  go_wp2
  go_ret
  exact ⟨by rw [E.out]; rfl, 0, rfl⟩
theorem implSame_any (p1 p2 : Option Addr) (pn1 pc1 pn2 pc2 : Nat) (pp : Int) (x1 x2 : Option Addr) (xn1 xc1 xn2 xc2 : Nat) (xp : Int) (xs ys us vs : List Int) (w : World) (h1 : PosR w p1 p2 pn1 pn2 xs ys) (h2 : PosR w x1 x2 xn1 xn2 us vs) :
  Calls Try.prog 52 #[.agg #[.slice p1 pn1 pc1, .slice p2 pn2 pc2, .int .i64 pp], .agg #[.slice x1 xn1 xc1, .slice x2 xn2 xc2, .int .i64 xp]] w fun e w' => e = .returned (.bool (sameB xs us ys vs pp xp)) ∧ Below w.heap.size w w' := by
 have HS := Lib.hid (pp_new p1 p2 pn1 pc1 pn2 pc2 pp x1 x2 xn1 xc1 xn2 xc2 xp w 32)
 have H1 := Lib.hid h1
 have H2 := Lib.hid h2
 have E := Lib.hid (cmpP_zero xs us ys vs pp xp)
 clear h1 h2
 rw [← E.out]
 generalize hc : cmpP xs us ys vs pp xp = c
 have HC := Lib.hid hc
 clear hc E
 go_enter Try.func52, Try.ntmps52
 go_wp2_with fail
 refine (implCmp_any p1 p2 pn1 pc1 pn2 pc2 pp x1 x2 xn1 xc1 xn2 xc2 xp xs ys us vs _ (H1.out.below HS.out.2.2) (H2.out.below HS.out.2.2)).mono ?_
 rintro e u ⟨rfl, b⟩
 rw [HC.out]
 have HB := Lib.hid (HS.out.2.2.trans (b.mono HS.out.2.2.size))
 clear b
 go_wp2_with fail
 go_ret
 exact ⟨rfl, HB.out⟩
/- Cap6 -/
def ownB (p pl k : Int) : Bool := decide (pl * p ≤ k) && decide (k < (pl + 1) * p)
theorem own_div {p pl k : Int} (hp : 2 ≤ p) (h0 : 0 ≤ k) (h1 : k < 2 * p) (hpl : pl = 0 ∨ pl = 1) : (k / p = pl) ↔ ownB p pl k = true := by
 have e : k / p = if k < p then 0 else 1 := by
  by_cases h : k < p
  ·rw [if_pos h, Int.ediv_eq_zero_of_lt h0 h]
  ·rw [if_neg h]
   have e2 : k = (k - p) + p * 1 := by omega
   rw [e2, Int.add_mul_ediv_left _ _ (by omega), Int.ediv_eq_zero_of_lt (by omega) (by omega)]
   rfl
 rw [e]
 unfold ownB
 rcases hpl with rfl | rfl <;> split <;> simp <;> omega
theorem own_other {p pl k : Int} (hp : 2 ≤ p) (h0 : 0 ≤ k) (h1 : k < 2 * p) (hpl : pl = 0 ∨ pl = 1) : ownB p (1 - pl) k = !(ownB p pl k) := by
 unfold ownB
 rcases hpl with rfl | rfl
 ·by_cases h : k < p
  ·have e1 : decide ((1 - 0) * p ≤ k) = false := by simp; omega
   have e2 : decide (0 * p ≤ k) = true := by simp; omega
   have e3 : decide (k < (0 + 1) * p) = true := by simp; omega
   rw [e1, e2, e3]; rfl
  ·have e1 : decide ((1 - 0) * p ≤ k) = true := by simp; omega
   have e2 : decide (k < (1 - 0 + 1) * p) = true := by simp; omega
   have e3 : decide (k < (0 + 1) * p) = false := by simp; omega
   rw [e1, e2, e3]; simp
 ·by_cases h : k < p
  ·have e1 : decide ((1 - 1) * p ≤ k) = true := by simp; omega
   have e2 : decide (k < (1 - 1 + 1) * p) = true := by simp; omega
   have e3 : decide (1 * p ≤ k) = false := by simp; omega
   rw [e1, e2, e3]; simp
  ·have e1 : decide (k < (1 - 1 + 1) * p) = false := by simp; omega
   have e2 : decide (1 * p ≤ k) = true := by simp; omega
   have e3 : decide (k < (1 + 1) * p) = true := by simp; omega
   rw [e1, e2, e3]; simp
def vAt (xs : List Int) (k : Int) : Int := xs.getD k.toNat 0
theorem vAt_cell {xs : List Int} {k : Int} (h0 : 0 ≤ k) (h1 : k < xs.length) : xs[k.toNat]? = some (vAt xs k) := by
 unfold vAt
 rw [List.getD_eq_getElem?_getD, List.getElem?_eq_getElem (by omega)]
 rfl
theorem vAt_bd {xs : List Int} (h : posB xs = true) (ht : tot xs ≤ 96) (k : Int) : 0 ≤ vAt xs k ∧ vAt xs k ≤ 96 := by
 unfold vAt
 rw [List.getD_eq_getElem?_getD]
 cases e : xs[k.toNat]? with
 | none => simp
 | some x =>
  have h1 := posB_mem h e
  have h2 := posB_le h x (List.mem_of_getElem? e)
  simp
  omega
def twF (p pl : Int) (xs : List Int) : Nat → List Int
 | 0 => []
 | k + 1 => if ownB p (1 - pl) k && (decide (vAt xs k = 2) || decide (vAt xs k = 3)) then (k : Int) :: twF p pl xs k else []
theorem tw_no {p pl : Int} {xs : List Int} {k : Nat} (h : (ownB p (1 - pl) k && (decide (vAt xs k = 2) || decide (vAt xs k = 3))) = false) : twF p pl xs (k + 1) = [] := by
 unfold twF
 rw [h]
 rfl
theorem tw_yes {p pl : Int} {xs : List Int} {k : Nat} (h : (ownB p (1 - pl) k && (decide (vAt xs k = 2) || decide (vAt xs k = 3))) = true) : twF p pl xs (k + 1) = (k : Int) :: twF p pl xs k := by
 rw [twF, h]
 rfl
theorem tw_in (p pl : Int) (xs : List Int) : ∀ n k, k ∈ twF p pl xs n → 0 ≤ k ∧ k < (n : Int)
 | 0, k, h => by cases h
 | n + 1, k, h => by
  unfold twF at h
  split at h
  ·rcases List.mem_cons.1 h with rfl | h
   ·omega
   ·have := tw_in p pl xs n k h
    omega
  ·cases h
theorem tw_nodup (p pl : Int) (xs : List Int) : ∀ n, (twF p pl xs n).Nodup
 | 0 => List.nodup_nil
 | n + 1 => by
  unfold twF
  split
  ·refine List.nodup_cons.2 ⟨fun h => ?_, tw_nodup p pl xs n⟩
   have := tw_in p pl xs n _ h
   omega
  ·exact List.nodup_nil
theorem tw_len (p pl : Int) (xs : List Int) : ∀ n, (twF p pl xs n).length ≤ n
 | 0 => Nat.le_refl _
 | n + 1 => by
  unfold twF
  split
  ·have := tw_len p pl xs n
   simp only [List.length_cons]
   omega
  ·exact Nat.zero_le _
def rawF (cp p pl la : Int) (xs : List Int) : List Int :=
 if la < 0 then [] else
 if cp = 1 then twF p pl xs (la.toNat + 1) else
 if cp = 2 then (if ownB p pl la && decide (vAt xs la = 1) && decide (0 < vAt xs (2 * p - 1 - la)) then [la, 2 * p - 1 - la] else []) else
 if cp = 3 then (if ownB p (1 - pl) la && decide (vAt xs la % 2 = 0) then [la] else []) else []
theorem raw_in {cp p pl la : Int} {xs : List Int} (h : la < 2 * p) : ∀ k ∈ rawF cp p pl la xs, 0 ≤ k ∧ k < 2 * p := by
 unfold rawF
 intro k hk
 split at hk
 ·cases hk
 ·split at hk
  ·have := tw_in _ _ _ _ _ hk
   omega
  ·split at hk
   ·split at hk
    ·rcases List.mem_cons.1 hk with rfl | hk
     ·omega
     ·rcases List.mem_cons.1 hk with rfl | hk
      ·omega
      ·cases hk
    ·cases hk
   ·split at hk
    ·split at hk
     ·rcases List.mem_cons.1 hk with rfl | hk
      ·omega
      ·cases hk
     ·cases hk
    ·cases hk
theorem raw_nodup (cp p pl la : Int) (xs : List Int) : (rawF cp p pl la xs).Nodup := by
 unfold rawF
 split
 ·exact List.nodup_nil
 ·split
  ·exact tw_nodup _ _ _ _
  ·split
   ·split
    ·refine List.nodup_cons.2 ⟨fun h => ?_, List.nodup_cons.2 ⟨(fun h => by cases h), List.nodup_nil⟩⟩
     rcases List.mem_cons.1 h with h | h
     ·omega
     ·cases h
    ·exact List.nodup_nil
   ·split
    ·split
     ·exact List.nodup_cons.2 ⟨(fun h => by cases h), List.nodup_nil⟩
     ·exact List.nodup_nil
    ·exact List.nodup_nil
theorem raw_len {cp p pl la : Int} {xs : List Int} (hp : p ≤ 8) (hp2 : 2 ≤ p) (h : la < 2 * p) : (rawF cp p pl la xs).length ≤ 16 := by
 unfold rawF
 split
 ·simp
 ·split
  ·have := tw_len p pl xs (la.toNat + 1)
   omega
  ·split
   ·split <;> simp
   ·split
    ·split <;> simp
    ·simp
def sumAt (xs L : List Int) : Int := tot (L.map (vAt xs))
theorem sumAt_snoc (xs L : List Int) (k : Int) : sumAt xs (L ++ [k]) = sumAt xs L + vAt xs k := by
 unfold sumAt
 rw [List.map_append, tot_app]
 simp [tot]
theorem sumAt_bd {xs : List Int} (h : posB xs = true) (ht : tot xs ≤ 96) (L : List Int) : 0 ≤ sumAt xs L ∧ sumAt xs L ≤ 96 * L.length := by
 unfold sumAt
 induction L with
 | nil => simp [tot]
 | cons k r ih =>
  have := vAt_bd h ht k
  simp only [List.map_cons, tot, List.length_cons]
  omega
def takenF (p pl : Int) (xs L : List Int) : Int := sumAt xs (L.filter (ownB p (1 - pl)))
theorem taken_snoc (p pl : Int) (xs L : List Int) (k : Int) : takenF p pl xs (L ++ [k]) = takenF p pl xs L + (if ownB p (1 - pl) k then vAt xs k else 0) := by
 unfold takenF
 rw [List.filter_append]
 by_cases h : ownB p (1 - pl) k = true
 ·rw [if_pos h]
  have e : List.filter (ownB p (1 - pl)) [k] = [k] := by simp [h]
  rw [e, sumAt_snoc]
 ·rw [if_neg h]
  have e : List.filter (ownB p (1 - pl)) [k] = [] := by simp [h]
  rw [e, List.append_nil]
  omega
theorem taken_bd {xs : List Int} (h : posB xs = true) (ht : tot xs ≤ 96) (p pl : Int) (L : List Int) : 0 ≤ takenF p pl xs L ∧ takenF p pl xs L ≤ 96 * L.length := by
 have h1 := sumAt_bd h ht (L.filter (ownB p (1 - pl)))
 have h2 := List.length_filter_le (ownB p (1 - pl)) L
 unfold takenF
 omega
def slamB (p pl : Int) (xs L : List Int) : Bool := decide (0 < takenF p pl xs L) && decide (takenF p pl xs L = tot (halfL xs p.toNat (1 - pl)))
def slamF (cp p pl la : Int) (xs : List Int) : Bool := slamB p pl xs (rawF cp p pl la xs)
def pitsF (cp sl p pl la : Int) (xs : List Int) : List Int := if decide (sl = 2) && slamF cp p pl la xs then [] else rawF cp p pl la xs
theorem pits_sub (cp sl p pl la : Int) (xs : List Int) : pitsF cp sl p pl la xs = [] ∨ pitsF cp sl p pl la xs = rawF cp p pl la xs := by
 unfold pitsF
 split
 ·exact .inl rfl
 ·exact .inr rfl
theorem pits_in {cp sl p pl la : Int} {xs : List Int} (h : la < 2 * p) : ∀ k ∈ pitsF cp sl p pl la xs, 0 ≤ k ∧ k < 2 * p := by
 rcases pits_sub cp sl p pl la xs with e | e
 ·rw [e]; intro k hk; cases hk
 ·rw [e]; exact raw_in h
theorem pits_nodup (cp sl p pl la : Int) (xs : List Int) : (pitsF cp sl p pl la xs).Nodup := by
 rcases pits_sub cp sl p pl la xs with e | e
 ·rw [e]; exact List.nodup_nil
 ·rw [e]; exact raw_nodup _ _ _ _ _
theorem pits_len {cp sl p pl la : Int} {xs : List Int} (hp : p ≤ 8) (hp2 : 2 ≤ p) (h : la < 2 * p) : (pitsF cp sl p pl la xs).length ≤ 16 := by
 rcases pits_sub cp sl p pl la xs with e | e
 ·rw [e]; simp
 ·rw [e]; exact raw_len hp hp2 h
def zeroAt (xs : List Int) : List Int → List Int
 | [] => xs
 | k :: r => zeroAt (xs.set k.toNat 0) r
theorem zero_snoc (L : List Int) (k : Int) : ∀ xs, zeroAt xs (L ++ [k]) = (zeroAt xs L).set k.toNat 0 := by
 induction L with
 | nil => intro xs; rfl
 | cons j r ih => intro xs; exact ih _
theorem zero_len (L : List Int) : ∀ xs, (zeroAt xs L).length = xs.length := by
 induction L with
 | nil => intro xs; rfl
 | cons j r ih => intro xs; rw [zeroAt, ih, List.length_set]
theorem zero_else {j : Int} (hj : 0 ≤ j) : ∀ (L xs : List Int), (∀ k ∈ L, 0 ≤ k) → j ∉ L → vAt (zeroAt xs L) j = vAt xs j
 | [], xs, _, _ => rfl
 | k :: r, xs, h0, h => by
  have h1 : j ≠ k := fun e => h (e ▸ List.mem_cons_self)
  have h2 := h0 k List.mem_cons_self
  rw [zeroAt, zero_else hj r _ (fun x hx => h0 x (List.mem_cons_of_mem _ hx)) (fun hm => h (List.mem_cons_of_mem _ hm))]
  unfold vAt
  rw [List.getD_eq_getElem?_getD, List.getD_eq_getElem?_getD, List.getElem?_set_ne (by omega)]
def lastB (st : Bool) (p pl la : Int) (xs ys : List Int) : Bool :=
 if la = -1 then st && decide (0 < vAt ys pl) else (decide (0 ≤ la) && decide (la ≤ 2 * p - 1)) && decide (0 < vAt xs la)
def okS (k : Bool) (p : Int) (st : Bool) (n1 n2 : Nat) (la lp pl : Int) (xs ys : List Int) : Bool :=
 okP k p n1 n2 pl xs ys && (decide (1 ≤ lp) && decide (lp ≤ 100)) && lastB st p pl la xs ys
/- GameO -/
structure GamW (w : World) (a1 a2 : Option Addr) (an1 an2 : Nat) (mm : Option Addr) (mn : Nat) (b1 b2 : Option Addr) (bn1 bn2 : Nat) (sx sy ms nx ny : List Int) : Prop where
 s : PosW w a1 a2 an1 an2 sx sy
 m : ms.length ≤ 1000000000000 → RowN w mm ms
 lm : ms.length = mn
 mn : mn ≤ 9223372036854775807
 n : PosW w b1 b2 bn1 bn2 nx ny
structure GV where
 x : RV
 q : PV
 mm : Option Addr
 mn : Nat
 mc : Nat
 ms : List Int
 r : PV
 rg : Int
def RV.cells (x : RV) : List Value := [.int .i64 x.p, .int .i64 x.s, .bool x.st, .bool x.sk, .bool x.re, .bool x.fe, .bool x.ag, .int .i64 x.c, .int .i64 x.l]
def PV.cells (q : PV) : List Value := [.slice q.a1 q.n1 q.c1, .slice q.a2 q.n2 q.c2, .int .i64 q.pl]
def GV.cells (g : GV) : List Value := [.int .i64 g.x.p, .int .i64 g.x.s, .bool g.x.st, .bool g.x.sk, .bool g.x.re, .bool g.x.fe, .bool g.x.ag, .int .i64 g.x.c, .int .i64 g.x.l, .slice g.q.a1 g.q.n1 g.q.c1, .slice g.q.a2 g.q.n2 g.q.c2, .int .i64 g.q.pl, .slice g.mm g.mn g.mc, .slice g.r.a1 g.r.n1 g.r.c1, .slice g.r.a2 g.r.n2 g.r.c2, .int .i64 g.r.pl, .int .i64 g.rg]
def GV.val (g : GV) : Value := .agg g.cells.toArray
def GV.In (g : GV) (w : World) : Prop := g.x.Fit ∧ I64 g.q.pl ∧ I64 g.r.pl ∧ I64 g.rg ∧ GamW w g.q.a1 g.q.a2 g.q.n1 g.q.n2 g.mm g.mn g.r.a1 g.r.a2 g.r.n1 g.r.n2 g.q.xs g.q.ys g.ms g.r.xs g.r.ys
section
variable {H : Type} {enc : TypeId × Value → H} {P : Program} {w : World} {base : Nat}
theorem rules_cells {t i b : TypeId} {f0 f1 f2 f3 f4 f5 f6 f7 f8 : Field} {fuel : Nat} {cs : List Value} {d : DataW H × List MemPlace} (hs : P.underlying t = some (.struct #[f0, f1, f2, f3, f4, f5, f6, f7, f8]))
  (hi : P.underlying i = some (.int .i64)) (hb : P.underlying b = some .bool)
  (hone : (oneCellFields P #[f0, f1, f2, f3, f4, f5, f6, f7, f8] && decide (f0.type = i) && decide (f1.type = i) && decide (f2.type = b) && decide (f3.type = b) && decide (f4.type = b) && decide (f5.type = b) && decide (f6.type = b) && decide (f7.type = i) && decide (f8.type = i)) = true) (hC : P.cellsOf t = 9)
  (hf : DataW.trod enc P w base (fun _ => true) true fuel t cs = some d) : ∃ x : RV, cs = x.cells ∧ x.Fit := by
 simp only [Bool.and_eq_true, decide_eq_true_eq] at hone
 obtain ⟨⟨⟨⟨⟨⟨⟨⟨⟨hone, t0⟩, t1⟩, t2⟩, t3⟩, t4⟩, t5⟩, t6⟩, t7⟩, t8⟩ := hone
 obtain ⟨xs, n, _, hx, hsz, hlen, hg⟩ := DataW.trod_struct hs hf
 match cs, hsz.trans hC with
 | [c0, c1, c2, c3, c4, c5, c6, c7, c8], _ =>
  obtain ⟨o0, k0⟩ := hone_of hone 0 f0 rfl
  obtain ⟨o1, k1⟩ := hone_of hone 1 f1 rfl
  obtain ⟨o2, k2⟩ := hone_of hone 2 f2 rfl
  obtain ⟨o3, k3⟩ := hone_of hone 3 f3 rfl
  obtain ⟨o4, k4⟩ := hone_of hone 4 f4 rfl
  obtain ⟨o5, k5⟩ := hone_of hone 5 f5 rfl
  obtain ⟨o6, k6⟩ := hone_of hone 6 f6 rfl
  obtain ⟨o7, k7⟩ := hone_of hone 7 f7 rfl
  obtain ⟨o8, k8⟩ := hone_of hone 8 f8 rfl
  match xs, hlen with
  | [y0, y1, y2, y3, y4, y5, y6, y7, y8], _ =>
   have g0 : DataW.trod enc P w base (fun _ => true) true n f0.type [c0] = some y0 := by simpa [o0, k0] using hg 0 f0 rfl
   rw [t0] at g0
   have g1 : DataW.trod enc P w base (fun _ => true) true n f1.type [c1] = some y1 := by simpa [o1, k1] using hg 1 f1 rfl
   rw [t1] at g1
   have g2 : DataW.trod enc P w base (fun _ => true) true n f2.type [c2] = some y2 := by simpa [o2, k2] using hg 2 f2 rfl
   rw [t2] at g2
   have g3 : DataW.trod enc P w base (fun _ => true) true n f3.type [c3] = some y3 := by simpa [o3, k3] using hg 3 f3 rfl
   rw [t3] at g3
   have g4 : DataW.trod enc P w base (fun _ => true) true n f4.type [c4] = some y4 := by simpa [o4, k4] using hg 4 f4 rfl
   rw [t4] at g4
   have g5 : DataW.trod enc P w base (fun _ => true) true n f5.type [c5] = some y5 := by simpa [o5, k5] using hg 5 f5 rfl
   rw [t5] at g5
   have g6 : DataW.trod enc P w base (fun _ => true) true n f6.type [c6] = some y6 := by simpa [o6, k6] using hg 6 f6 rfl
   rw [t6] at g6
   have g7 : DataW.trod enc P w base (fun _ => true) true n f7.type [c7] = some y7 := by simpa [o7, k7] using hg 7 f7 rfl
   rw [t7] at g7
   have g8 : DataW.trod enc P w base (fun _ => true) true n f8.type [c8] = some y8 := by simpa [o8, k8] using hg 8 f8 rfl
   rw [t8] at g8
   obtain ⟨m0, rfl, w0⟩ := cell_int hi g0
   obtain ⟨m1, rfl, w1⟩ := cell_int hi g1
   obtain ⟨m2, rfl⟩ := cell_bool hb g2
   obtain ⟨m3, rfl⟩ := cell_bool hb g3
   obtain ⟨m4, rfl⟩ := cell_bool hb g4
   obtain ⟨m5, rfl⟩ := cell_bool hb g5
   obtain ⟨m6, rfl⟩ := cell_bool hb g6
   obtain ⟨m7, rfl, w7⟩ := cell_int hi g7
   obtain ⟨m8, rfl, w8⟩ := cell_int hi g8
   exact ⟨⟨m0, m1, m2, m3, m4, m5, m6, m7, m8⟩, rfl, w0, w1, w7, w8⟩
theorem pos_cells {t s i : TypeId} {f0 f1 f2 : Field} {fuel : Nat} {cs : List Value} {d : DataW H × List MemPlace} (ht : P.underlying t = some (.struct #[f0, f1, f2])) (hs : P.underlying s = some (.slice i)) (hi : P.underlying i = some (.int .i64)) (hci : P.cellsOf i = 1)
  (hone : (oneCellFields P #[f0, f1, f2] && decide (f0.type = s) && decide (f1.type = s) && decide (f2.type = i)) = true) (hC : P.cellsOf t = 3)
  (hf : DataW.trod enc P w base (fun _ => true) true fuel t cs = some d) : ∃ q : PV, cs = q.cells ∧ q.In w := by
 simp only [Bool.and_eq_true, decide_eq_true_eq] at hone
 obtain ⟨⟨⟨hone, t0⟩, t1⟩, t2⟩ := hone
 obtain ⟨xs, n, _, hx, hsz, hlen, hg⟩ := DataW.trod_struct ht hf
 match cs, hsz.trans hC with
 | [c0, c1, c2], _ =>
  obtain ⟨o0, k0⟩ := hone_of hone 0 f0 rfl
  obtain ⟨o1, k1⟩ := hone_of hone 1 f1 rfl
  obtain ⟨o2, k2⟩ := hone_of hone 2 f2 rfl
  match xs, hlen with
  | [y0, y1, y2], _ =>
   have g0 : DataW.trod enc P w base (fun _ => true) true n f0.type [c0] = some y0 := by simpa [o0, k0] using hg 0 f0 rfl
   rw [t0] at g0
   have g1 : DataW.trod enc P w base (fun _ => true) true n f1.type [c1] = some y1 := by simpa [o1, k1] using hg 1 f1 rfl
   rw [t1] at g1
   have g2 : DataW.trod enc P w base (fun _ => true) true n f2.type [c2] = some y2 := by simpa [o2, k2] using hg 2 f2 rfl
   rw [t2] at g2
   obtain ⟨a1, n1, e1, us, rfl, l1, m1, r1⟩ := cell_row hs hi hci g0
   obtain ⟨a2, n2, e2, vs, rfl, l2, m2, r2⟩ := cell_row hs hi hci g1
   obtain ⟨m, rfl, hw⟩ := cell_int hi g2
   exact ⟨⟨a1, a2, n1, e1, n2, e2, m, us, vs⟩, rfl, hw, ⟨r1, r2, l1, l2, m1, m2⟩⟩
theorem open_game {r : Reach} {b0 : Nat} {t R Q s i b : TypeId} {h0 h1 h2 h3 h4 f0 f1 f2 f3 f4 f5 f6 f7 f8 e0 e1 e2 : Field} {v : Value} {d : DataW H} {ps : List MemPlace} (hG : P.underlying t = some (.struct #[h0, h1, h2, h3, h4])) (hR : P.underlying R = some (.struct #[f0, f1, f2, f3, f4, f5, f6, f7, f8])) (hQ : P.underlying Q = some (.struct #[e0, e1, e2]))
  (hs : P.underlying s = some (.slice i)) (hi : P.underlying i = some (.int .i64)) (hb : P.underlying b = some .bool) (hci : P.cellsOf i = 1)
  (hk : (decide (h0.type = R) && decide (h1.type = Q) && decide (h2.type = s) && decide (h3.type = Q) && decide (h4.type = i) && decide (h0.offset = 0) && decide (h1.offset = 9) && decide (h2.offset = 12) && decide (h3.offset = 13) && decide (h4.offset = 16) && decide (P.cellsOf R = 9) && decide (P.cellsOf Q = 3) && decide (P.cellsOf s = 1)) = true) (hC : P.cellsOf t = 17)
  (hone : (oneCellFields P #[f0, f1, f2, f3, f4, f5, f6, f7, f8] && decide (f0.type = i) && decide (f1.type = i) && decide (f2.type = b) && decide (f3.type = b) && decide (f4.type = b) && decide (f5.type = b) && decide (f6.type = b) && decide (f7.type = i) && decide (f8.type = i)) = true)
  (hone2 : (oneCellFields P #[e0, e1, e2] && decide (e0.type = s) && decide (e1.type = s) && decide (e2.type = i)) = true)
  (hv : Value.okWide P w r b0 t v) (h : DataW.Trod enc P w base (fun _ => true) true t v d ps) : ∃ g : GV, v = g.val ∧ g.In w := by
 simp only [Bool.and_eq_true, decide_eq_true_eq] at hk
 obtain ⟨⟨⟨⟨⟨⟨⟨⟨⟨⟨⟨⟨t0, t1⟩, t2⟩, t3⟩, t4⟩, o0⟩, o1⟩, o2⟩, o3⟩, o4⟩, kR⟩, kQ⟩, ks⟩ := hk
 obtain ⟨cs, rfl, hsz⟩ := okWide_struct hG hv
 obtain ⟨l⟩ := cs
 match l, hsz.trans hC with
 | [c0, c1, c2, c3, c4, c5, c6, c7, c8, c9, c10, c11, c12, c13, c14, c15, c16], _ =>
  obtain ⟨fuel, hf⟩ := h
  obtain ⟨xs, n, _, hx, _, hlen, hg⟩ := DataW.trod_struct hG hf
  match xs, hlen with
  | [y0, y1, y2, y3, y4], _ =>
   have g0 : DataW.trod enc P w base (fun _ => true) true n R [c0, c1, c2, c3, c4, c5, c6, c7, c8] = some y0 := by simpa [Value.cells, o0, t0, kR] using hg 0 h0 rfl
   have g1 : DataW.trod enc P w base (fun _ => true) true n Q [c9, c10, c11] = some y1 := by simpa [Value.cells, o1, t1, kQ] using hg 1 h1 rfl
   have g2 : DataW.trod enc P w base (fun _ => true) true n s [c12] = some y2 := by simpa [Value.cells, o2, t2, ks] using hg 2 h2 rfl
   have g3 : DataW.trod enc P w base (fun _ => true) true n Q [c13, c14, c15] = some y3 := by simpa [Value.cells, o3, t3, kQ] using hg 3 h3 rfl
   have g4 : DataW.trod enc P w base (fun _ => true) true n i [c16] = some y4 := by simpa [Value.cells, o4, t4, hci] using hg 4 h4 rfl
   obtain ⟨x, ex, hx⟩ := rules_cells hR hi hb hone kR g0
   obtain ⟨q, eq, hq⟩ := pos_cells hQ hs hi hci hone2 kQ g1
   obtain ⟨mm, mn, mc, ms, rfl, lm, hm, rm⟩ := cell_row hs hi hci g2
   obtain ⟨r, er, hr⟩ := pos_cells hQ hs hi hci hone2 kQ g3
   obtain ⟨rg, rfl, hrg⟩ := cell_int hi g4
   simp only [RV.cells, List.cons.injEq, and_true] at ex
   obtain ⟨rfl, rfl, rfl, rfl, rfl, rfl, rfl, rfl, rfl⟩ := ex
   simp only [PV.cells, List.cons.injEq, and_true] at eq er
   obtain ⟨rfl, rfl, rfl⟩ := eq
   obtain ⟨rfl, rfl, rfl⟩ := er
   exact ⟨⟨x, q, mm, mn, mc, ms, r, rg⟩, rfl, hx, hq.1, hr.1, hrg, ⟨hq.2, rm, lm, hm, hr.2⟩⟩
end
/- Sl4 -/
theorem clone_any (a : Option Addr) (c n : Nat) (xs : List Int) (w : World) (hn : xs.length = n) (h : RowN w a xs) (hne : xs ≠ []) :
  Calls Try.prog 67 #[.slice a n c] w (OwnP xs n w) := by
 have hl : n ≤ 1000000000000 := by rw [← hn]; exact h.1
 obtain ⟨i0, hi, hz0, hz1, hz2⟩ := info_parts infoN
 obtain ⟨g, o, rfl, hg, hx⟩ := h.2.resolve_left hne
 have Hn := Lib.hid hn
 have H := Lib.hid h
 have qe : ∀ (w : World) (a : Option Addr) (n c n' c' : Nat), (binOp .eql 24 (.slice a n c) (.slice none n' c')).run Try.prog w = .ok (.bool a.isNone) w := fun w a n c n' c' => Lib.run_eql_slice_nil w _ _ a n c n' c' Try.underlying24
 clear hn h hne hx
 go_enter Try.func67, Try.ntmps67
 go_wp2_with (at_builtin; refine wpList_append_own _ rfl _ _ 24 rfl w.heap.size 2 i0 (.int .i64 0) 1 8 Try.underlying24 hi hz0 hz1 hz2 rfl (by decide) _ 0 [] rfl (World.ownsRow_made w #[] 0 (Nat.le_refl _) (by decide) rfl) ⟨g, o, none⟩ n c (nvs xs) rfl (by rw [nvs_len, Hn.out]; simp) (row_news (H.out.alloc _)) (nvs_cell xs) (by unfold maxLen; omega) (by omega) (by simp) ?_; intro v' w1 hown1 hgrow1 hnil1)
 have hb1 : Below w.heap.size w w1 := ((Below.refl _ _).alloc (Nat.le_refl _) _).grown hgrow1 (by simp) (fun k hk => by cases hk; exact Nat.le_refl _)
 simp only [Nat.zero_add, List.nil_append] at hown1
 have HO := Lib.hid hown1
 have HB := Lib.hid hb1
 clear hown1 hb1 hgrow1 hnil1
 go_wp2
 go_ret
 exact ⟨_, rfl, HO.out, HB.out⟩
/- Sow3 -/
def neg1 : List Int → Int
 | [] => 0
 | y :: r => (if y = -1 then 1 else 0) + neg1 r
theorem neg1_app (l m : List Int) : neg1 (l ++ m) = neg1 l + neg1 m := by
 induction l with
 | nil => simp [neg1]
 | cons y r ih => simp only [List.cons_append, neg1, ih]; omega
theorem neg1_snoc (l : List Int) (y : Int) : neg1 (l ++ [y]) = neg1 l + (if y = -1 then 1 else 0) := by rw [neg1_app]; simp [neg1]
theorem getD_bump {xs : List Int} {i : Int} (h : i.toNat < xs.length) : (bump xs i).getD i.toNat 0 = xs.getD i.toNat 0 + 1 := by
 unfold bump
 simp [List.getD, h]
theorem getD_bump_ne {xs : List Int} {i : Int} {k : Nat} (h : k ≠ i.toNat) : (bump xs i).getD k 0 = xs.getD k 0 := by
 unfold bump
 simp only [List.getD, List.getElem?_set]
 rw [if_neg (fun e => h e.symm)]
section
variable {R : Rl} {xs ys : List Int} {f t : Int}
def oth (pl : Int) : Nat := (1 - pl).toNat
theorem oth_ne (hR : R.Fit) : oth R.pl ≠ R.pl.toNat := by
 unfold oth
 rcases hR.pl with h | h <;> rw [h] <;> decide
theorem putY_own (hR : R.Fit) (h : ys.length = 2) (y : Int) : (putY R.pl ys y).getD R.pl.toNat 0 = ys.getD R.pl.toNat 0 + (if y = -1 then 1 else 0) := by
 have hp : R.pl.toNat < ys.length := by rcases hR.pl with e | e <;> rw [e, h] <;> decide
 unfold putY
 split
 ·exact getD_bump hp
 ·omega
theorem putY_oth (hR : R.Fit) (y : Int) : (putY R.pl ys y).getD (oth R.pl) 0 = ys.getD (oth R.pl) 0 := by
 unfold putY
 split
 ·exact getD_bump_ne (oth_ne hR)
 ·rfl
theorem putY_len (pl y : Int) : (putY pl ys y).length = ys.length := by
 unfold putY
 split
 ·exact bump_len _ _
 ·rfl
theorem lapY_len (k : Nat) : (lapY R f ys k).length = ys.length := by
 induction k with
 | zero => rfl
 | succ k ih => rw [show lapY R f ys (k + 1) = putY R.pl (lapY R f ys k) (R.at f k) from rfl, putY_len, ih]
theorem lapY_own (hR : R.Fit) (h : ys.length = 2) (k : Nat) : (lapY R f ys k).getD R.pl.toNat 0 = ys.getD R.pl.toNat 0 + neg1 (lapP R f k) := by
 induction k with
 | zero => simp [lapY, lapP, neg1]
 | succ k ih =>
  rw [show lapY R f ys (k + 1) = putY R.pl (lapY R f ys k) (R.at f k) from rfl, putY_own hR (by rw [lapY_len, h]), ih, show lapP R f (k + 1) = lapP R f k ++ [R.at f k] from rfl, neg1_snoc]
  omega
theorem lapY_oth (hR : R.Fit) (k : Nat) : (lapY R f ys k).getD (oth R.pl) 0 = ys.getD (oth R.pl) 0 := by
 induction k with
 | zero => rfl
 | succ k ih => rw [show lapY R f ys (k + 1) = putY R.pl (lapY R f ys k) (R.at f k) from rfl, putY_oth hR, ih]
theorem lapP_mem (hR : R.Fit) (hf0 : 0 ≤ f) (hf1 : f < 2 * R.p) (k : Nat) : ∀ y ∈ lapP R f k, -1 ≤ y ∧ y < 2 * R.p := by
 induction k with
 | zero => intro y hy; cases hy
 | succ k ih =>
  intro y hy
  rcases List.mem_append.1 hy with hy | hy
  ·exact ih y hy
  ·rw [List.mem_singleton] at hy
   rw [hy]
   exact plc_bd hR.lo hf0 hf1 k
theorem lapP_last (k : Nat) : (lapP R f (k + 1)).getLast? = some (R.at f k) := by simp [lapP]
theorem last_cell (hR : R.Fit) {k : Nat} (hb : Brd R (lapX R f xs k) (lapY R f ys k) t) (h0 : -1 ≤ R.at f k) (h1 : R.at f k < 2 * R.p) :
  (R.at f k = -1 → 1 ≤ (lapY R f ys (k + 1)).getD R.pl.toNat 0) ∧ (R.at f k ≠ -1 → 1 ≤ (lapX R f xs (k + 1)).getD (R.at f k).toNat 0) := by
 refine ⟨fun e => ?_, fun e => ?_⟩
 ·rw [show lapY R f ys (k + 1) = putY R.pl (lapY R f ys k) (R.at f k) from rfl, putY_own hR hb.ly, if_pos e]
  have := (hb.bd R.pl.toNat).2
  omega
 ·rw [show lapX R f xs (k + 1) = putX (lapX R f xs k) (R.at f k) from rfl]
  unfold putX
  rw [if_neg e, getD_bump (by have := hb.lx; omega)]
  have := (hb.bd (R.at f k).toNat).1
  omega
structure Fin (R : Rl) (t : Int) (y0 : List Int) (r : Res) : Prop where
 brd : Brd R r.xs r.ys t
 lo : -1 ≤ r.last
 hi : r.last < 2 * R.p
 st : r.last = -1 → R.st = true
 store : r.last = -1 → 1 ≤ r.ys.getD R.pl.toNat 0
 pit : r.last ≠ -1 → 1 ≤ r.xs.getD r.last.toNat 0
 lst : r.path.getLast? = some r.last
 mem : ∀ y ∈ r.path, -1 ≤ y ∧ y < 2 * R.p
 own : r.ys.getD R.pl.toNat 0 = y0.getD R.pl.toNat 0 + neg1 r.path
 oth : r.ys.getD (oth R.pl) 0 = y0.getD (Proofs.Ytmngmbpdiaocjaa.oth R.pl) 0
 l1 : 1 ≤ r.laps
 l2 : r.laps ≤ 100
 len : r.path.length ≤ 96 * r.laps
structure Way (R : Rl) (y0 ys : List Int) (j : Nat) (path : List Int) : Prop where
 mem : ∀ y ∈ path, -1 ≤ y ∧ y < 2 * R.p
 own : ys.getD R.pl.toNat 0 = y0.getD R.pl.toNat 0 + neg1 path
 oth : ys.getD (oth R.pl) 0 = y0.getD (Proofs.Ytmngmbpdiaocjaa.oth R.pl) 0
 len : path.length ≤ 96 * j
theorem Way.next {y0 path : List Int} {j : Nat} (w : Way R y0 ys j path) (h : Lap R xs ys f t) (hR : R.Fit) : Way R y0 (cy R ys f (cnt xs f)) (j + 1) (path ++ lapP R f (cnt xs f)) :=
  ⟨fun y hy => by
    rcases List.mem_append.1 hy with hy | hy
    · exact w.mem y hy
    · exact lapP_mem hR h.f0 h.f1 _ y hy,
   by unfold cy; rw [lapY_own hR h.brd.ly, neg1_app, w.own]; omega,
   by unfold cy; rw [lapY_oth hR, w.oth],
   by rw [List.length_append, lapP_len]; have := w.len; have := h.num_le; omega⟩
theorem lap_fin {y0 path : List Int} {j : Nat} (w : Way R y0 ys j path) (h : Lap R xs ys f t) (hR : R.Fit) (hj : j < 100) :
  Fin R t y0 ⟨cx R xs f (cnt xs f), cy R ys f (cnt xs f), lst R xs f, j + 1, path ++ lapP R f (cnt xs f)⟩ := by
 have wn := w.next h hR
 have hn := h.num_pos
 have hb := h.at_bd hR (cnt xs f - 1)
 have hc := last_cell hR (h.mid hR (cnt xs f - 1)) hb.1 hb.2
 rw [show cnt xs f - 1 + 1 = cnt xs f by omega] at hc
 exact ⟨h.done hR, hb.1, hb.2, fun e => plc_st hR.lo h.f0 h.f1 _ e, hc.1, hc.2, by
  rw [List.getLast?_append, show cnt xs f = (cnt xs f - 1) + 1 by omega, lapP_last]
  rfl, wn.mem, wn.own, wn.oth, by simp, by simp; omega, wn.len⟩
theorem mvF_fin (hR : R.Fit) {y0 : List Int} : ∀ {m : Nat} {xs ys : List Int} {f : Int} {j : Nat} {path : List Int} {r : Res}, Lap R xs ys f t → Way R y0 ys j path → j + m ≤ 100 → mvF R m xs ys f j path = some r → Fin R t y0 r
 | 0, _, _, _, _, _, _, _, _, _, h => by cases h
 | m + 1, xs, ys, f, j, path, r, hl, hw, hj, h => by
  cases ha : agn R xs f
  ·rw [mvF_no ha] at h
   cases h
   exact lap_fin hw hl hR (by omega)
  ·rw [mvF_yes ha] at h
   exact mvF_fin hR (hl.next hR ha) (hw.next hl hR) (by omega) h
end
theorem way_start (R : Rl) (ys : List Int) : Way R ys ys 0 [] := ⟨(fun y hy => by cases hy), by simp [neg1], rfl, by simp⟩
/- BoxC -/
def RsAt (w : World) (p s c l : Int) (st sk re fe ag : Bool) (p1 p2 : Option Addr) (pn1 pc1 pn2 pc2 : Nat) (pp pq : Int) (u : World) : Prop := RuAt u w.heap.size p s c l st sk re fe ag ∧ SoAt u (w.heap.size + 1) p1 p2 pn1 pc1 pn2 pc2 pp pq ∧ Below w.heap.size w u
section
variable {w u v : World} {p s c l : Int} {st sk re fe ag : Bool} {p1 p2 : Option Addr} {pn1 pc1 pn2 pc2 : Nat} {pp pq : Int}
theorem RsAt.below (h : RsAt w p s c l st sk re fe ag p1 p2 pn1 pc1 pn2 pc2 pp pq u) (k : Below u.heap.size u v) : RsAt w p s c l st sk re fe ag p1 p2 pn1 pc1 pn2 pc2 pp pq v := ⟨h.1.below k, h.2.1.below k, h.2.2.trans (k.mono h.2.2.size)⟩
theorem RsAt.drew (h : RsAt w p s c l st sk re fe ag p1 p2 pn1 pc1 pn2 pc2 pp pq u) : RsAt w p s c l st sk re fe ag p1 p2 pn1 pc1 pn2 pc2 pp pq u.drew := ⟨h.1, h.2.1, h.2.2.drew⟩
theorem RsAt.drewN (h : RsAt w p s c l st sk re fe ag p1 p2 pn1 pc1 pn2 pc2 pp pq u) (m : Nat) : RsAt w p s c l st sk re fe ag p1 p2 pn1 pc1 pn2 pc2 pp pq (u.drewN m) := h.below (below_dn (Below.refl _ _) m)
end
def RsxAt (w : World) (p s c l : Int) (st sk re fe ag : Bool) (p1 p2 : Option Addr) (pn1 pc1 pn2 pc2 : Nat) (pp pq : Int) (xs ys : List Int) (d : Nat) (x1 x2 : Option Addr) (xn1 xc1 xn2 xc2 : Nat) (xp xq : Int) (u : World) : Prop := RuAt u w.heap.size p s c l st sk re fe ag ∧ SoAt u (w.heap.size + 1) p1 p2 pn1 pc1 pn2 pc2 pp pq ∧ SoAt u d x1 x2 xn1 xc1 xn2 xc2 xp xq ∧ PosR u x1 x2 xn1 xn2 xs ys ∧ Below w.heap.size w u
section
variable {w u v : World} {p s c l : Int} {st sk re fe ag : Bool} {p1 p2 : Option Addr} {pn1 pc1 pn2 pc2 : Nat} {pp pq : Int} {d : Nat} {x1 x2 : Option Addr} {xn1 xc1 xn2 xc2 : Nat} {xp xq : Int} {xs ys : List Int}
theorem RsxAt.below (h : RsxAt w p s c l st sk re fe ag p1 p2 pn1 pc1 pn2 pc2 pp pq xs ys d x1 x2 xn1 xc1 xn2 xc2 xp xq u) (k : Below u.heap.size u v) : RsxAt w p s c l st sk re fe ag p1 p2 pn1 pc1 pn2 pc2 pp pq xs ys d x1 x2 xn1 xc1 xn2 xc2 xp xq v := ⟨h.1.below k, h.2.1.below k, h.2.2.1.below k, h.2.2.2.1.below k, h.2.2.2.2.trans (k.mono h.2.2.2.2.size)⟩
theorem RsxAt.drew (h : RsxAt w p s c l st sk re fe ag p1 p2 pn1 pc1 pn2 pc2 pp pq xs ys d x1 x2 xn1 xc1 xn2 xc2 xp xq u) : RsxAt w p s c l st sk re fe ag p1 p2 pn1 pc1 pn2 pc2 pp pq xs ys d x1 x2 xn1 xc1 xn2 xc2 xp xq u.drew := ⟨h.1, h.2.1, h.2.2.1, h.2.2.2.1.drewN 1, h.2.2.2.2.drew⟩
end
/- VS6 -/
theorem rowV {w : World} {a : Option Addr} {xs : List Int} {k : Nat} (h : RowN w a xs) (hk : k < xs.length) : ∃ g o, a = some ⟨g, o, none⟩ ∧ g < w.heap.size ∧ w.cell? ⟨g, o + k, none⟩ = some (.int .i64 (vAt xs k)) := by
 have hne : xs ≠ [] := by intro e; subst e; simp at hk
 obtain ⟨g, o, rfl, hg, hc⟩ := h.2.resolve_left hne
 have := vAt_cell (xs := xs) (k := (k : Int)) (by omega) (by omega)
 rw [Int.toNat_natCast] at this
 exact ⟨g, o, rfl, hg, hc k _ this⟩
theorem position_any (p1 p2 : Option Addr) (pn1 pc1 pn2 pc2 : Nat) (pp pq : Int) (player : Int) (w : World) :
  Calls Try.prog 78 #[.agg #[.slice p1 pn1 pc1, .slice p2 pn2 pc2, .int .i64 pp, .int .i64 pq], .int .i64 player] w fun e w' => e = .returned (.agg #[.slice p1 pn1 pc1, .slice p2 pn2 pc2, .int .i64 player]) ∧ Below w.heap.size w w' := by
 go_enter Try.func78, Try.ntmps78
 go_wp2_with fail
 exact bodyPost_ret (v := .agg #[.slice p1 pn1 pc1, .slice p2 pn2 pc2, .int .i64 player]) (by simp [results, Try.results78, go_sem]) rfl ⟨rfl, (by repeat (first | exact Below.refl _ _ | assumption | (refine Below.drew ?_) | (refine Below.setCell ?_ (by first | omega | (simp; done) | (simp; omega)) _) | (refine Below.alloc ?_ (by first | omega | (simp; done) | (simp; omega)) _) | (refine Below.trans ?_ (Below.mono (by assumption) (by first | omega | (simp; done) | (simp; omega))))))⟩
def SrAt (w : World) (p1 p2 : Option Addr) (pn1 pc1 pn2 pc2 : Nat) (pp pq : Int) (p s c l : Int) (st sk re fe ag : Bool) (u : World) : Prop := SoAt u w.heap.size p1 p2 pn1 pc1 pn2 pc2 pp pq ∧ RuAt u (w.heap.size + 1) p s c l st sk re fe ag ∧ Below w.heap.size w u
section
variable {w u v : World} {p s c l : Int} {st sk re fe ag : Bool} {p1 p2 : Option Addr} {pn1 pc1 pn2 pc2 : Nat} {pp pq : Int}
theorem SrAt.below (h : SrAt w p1 p2 pn1 pc1 pn2 pc2 pp pq p s c l st sk re fe ag u) (k : Below u.heap.size u v) : SrAt w p1 p2 pn1 pc1 pn2 pc2 pp pq p s c l st sk re fe ag v := ⟨h.1.below k, h.2.1.below k, h.2.2.trans (k.mono h.2.2.size)⟩
theorem SrAt.drew (h : SrAt w p1 p2 pn1 pc1 pn2 pc2 pp pq p s c l st sk re fe ag u) : SrAt w p1 p2 pn1 pc1 pn2 pc2 pp pq p s c l st sk re fe ag u.drew := ⟨h.1, h.2.1, h.2.2.drew⟩
end
/- PosZ -/
theorem posO_zero (u : World) (B : Nat) : PosO u B none none B (B + 1) 0 0 [] [] :=
 ⟨⟨rowN_nil _ _, (fun _ _ h => nomatch h), Nat.le_refl _, fun h => absurd rfl h⟩, ⟨rowN_nil _ _, (fun _ _ h => nomatch h), Nat.le_succ _, fun h => absurd rfl h⟩, by omega, rfl, rfl⟩
theorem al2 (u : World) (o q : Obj) : Below u.heap.size u ((u.alloc o).alloc q) := ((Below.refl _ _).alloc (Nat.le_refl _) o).alloc (by simp) q
theorem al1 (u : World) (o : Obj) : Below u.heap.size u (u.alloc o) := (Below.refl _ _).alloc (Nat.le_refl _) o
theorem PosO.set3 {w : World} {B z : Nat} {a1 a2 : Option Addr} {b1 b2 n1 n2 : Nat} {xs ys : List Int} (h : PosO w B a1 a2 b1 b2 n1 n2 xs ys) (x y t : Value) (k1 : b1 ≠ z) (k2 : b2 ≠ z) : PosO (((w.setCell ⟨z, 0, none⟩ x).setCell ⟨z, 1, none⟩ y).setCell ⟨z, 2, none⟩ t) B a1 a2 b1 b2 n1 n2 xs ys :=
 h.but ((((But.refl z w).setCell (p := ⟨z, 0, none⟩) rfl x).setCell (p := ⟨z, 1, none⟩) rfl y).setCell (p := ⟨z, 2, none⟩) rfl t) k1 k2
/- Feed7 -/
def noneO (p pp : Int) (xs : List Int) : Bool := tot (halfL xs p.toNat (1 - pp)) == 0
def feedB (k fe : Bool) (p pp : Int) (xs : List Int) : Bool := k && (fe && noneO p pp xs)
theorem feed_parts (p s c l : Int) (st sk re fe ag : Bool) {pn1 pn2 : Nat} {pp : Int} {xs ys : List Int} (hk : okP (okR p s c l st ag) p pn1 pn2 pp xs ys = true) :
  (2 ≤ p ∧ p ≤ 8) ∧ (pn1 : Int) = 2 * p ∧ (1 - pp = 0 ∨ 1 - pp = 1) ∧ posB xs = true ∧ tot xs ≤ 96 := by
 obtain ⟨hok, hn1, hn2, hpl, hs⟩ := okP_parts hk
 obtain ⟨hp1, hp2, -⟩ := okR_bd hok
 obtain ⟨q1, q2, q3⟩ := seedB_parts hs
 have q4 := posB_tot q2
 exact ⟨⟨hp1, hp2⟩, hn1, by omega, q1, by omega⟩
theorem other_any (p s c l : Int) (st sk re fe ag : Bool) (p1 p2 : Option Addr) (pn1 pc1 pn2 pc2 : Nat) (pp : Int) (xs : List Int) (w : World) (l1 : xs.length = pn1) (r1 : RowN w p1 xs) (hp : 2 ≤ p ∧ p ≤ 8) (hn : (pn1 : Int) = 2 * p) (hpl : 1 - pp = 0 ∨ 1 - pp = 1) (hpos : posB xs = true) (ht : tot xs ≤ 96) (hcap : pn1 ≤ pc1) :
  Calls Try.prog 95 #[.agg #[.slice p1 pn1 pc1, .slice p2 pn2 pc2, .int .i64 pp], .agg #[.int .i64 p, .int .i64 s, .bool st, .bool sk, .bool re, .bool fe, .bool ag, .int .i64 c, .int .i64 l]] w fun e w' => e = .returned (.bool (noneO p pp xs)) ∧ Below w.heap.size w w' := by
 obtain ⟨P, rfl⟩ : ∃ P : Nat, p = (P : Int) := ⟨p.toNat, by omega⟩
 unfold noneO
 rw [Int.toNat_natCast]
 have hP1 : 2 ≤ P := by omega
 have hP2 : P ≤ 8 := by omega
 have hN : pn1 = 2 * P := by omega
 have HB := Lib.hid (al2 w (.cells #[.slice p1 pn1 pc1, .slice p2 pn2 pc2, .int .i64 pp] 32) (.cells #[.int .i64 P, .int .i64 s, .bool st, .bool sk, .bool re, .bool fe, .bool ag, .int .i64 c, .int .i64 l] 31))
 have HSd : Hid (∀ u, Below w.heap.size w u → Calls Try.prog 107 #[.agg #[.slice p1 pn1 pc1, .slice p2 pn2 pc2, .int .i64 pp], .agg #[.int .i64 P, .int .i64 s, .bool st, .bool sk, .bool re, .bool fe, .bool ag, .int .i64 c, .int .i64 l], .int .i64 (1 - pp)] u (SideP xs P (1 - pp) u)) := Lib.hid (fun u hu => side_any P s c l st sk re fe ag _ _ _ _ _ _ _ xs (1 - pp) u l1 (r1.below hu) hP1 hP2 hN hcap hpl)
 have HL := Lib.hid (half_len (xs := xs) (P := P) (l1.trans hN) hpl)
 have hh := half_tot (xs := xs) (P := P) (l1.trans hN) hpl hpos
 have HH := Lib.hid hh
 have HT : Hid (tot (halfL xs P (1 - pp)) ≤ 96) := Lib.hid (by omega)
 have hw1 : IntKind.i64.wrap (1 - pp) = 1 - pp := IntWalk.i64_in _ ⟨by omega, by omega⟩
 generalize hhs : halfL xs P (1 - pp) = hs at *
 clear hh hpos ht hn hp hpl l1 r1 hN hP1 hP2
 go_enter Try.func95, Try.ntmps95
 go_wp2_with fail
 refine (HSd.out _ HB.out).mono ?_
 rintro e u3 ⟨a3, c3, rfl, r3, hc3, b3⟩
 have HB3 := Lib.hid (HB.out.trans (b3.mono HB.out.size))
 rw [hhs] at r3
 have R3 := Lib.hid r3
 clear b3 r3 hhs
 go_wp2_with fail
 refine (sumOf_any a3 c3 P _ _ HL.out R3.out HH.out.1 (by have := HT.out; omega)).mono ?_
 rintro e u4 ⟨rfl, rfl⟩
 go_wp2_with fail
 go_ret
 exact ⟨rfl, HB3.out⟩
theorem implFeed_any (p s c l : Int) (st sk re fe ag : Bool) (p1 p2 : Option Addr) (pn1 pc1 pn2 pc2 : Nat) (pp : Int) (xs ys : List Int) (w : World) (h : PosR w p1 p2 pn1 pn2 xs ys) (hcap : pn1 ≤ pc1) (k : Bool) (hk : okP (okR p s c l st ag) p pn1 pn2 pp xs ys = k) :
  Calls Try.prog 94 #[.agg #[.int .i64 p, .int .i64 s, .bool st, .bool sk, .bool re, .bool fe, .bool ag, .int .i64 c, .int .i64 l], .agg #[.slice p1 pn1 pc1, .slice p2 pn2 pc2, .int .i64 pp]] w fun e w' => e = .returned (.bool (feedB k fe p pp xs)) ∧ Below w.heap.size w w' := by
 have H := Lib.hid h
 have HS := Lib.hid (rp_new p s c l st sk re fe ag p1 p2 pn1 pc1 pn2 pc2 pp w 31 32)
 have Hk := Lib.hid hk
 have HO : Hid (k = true → ∀ u, Below w.heap.size w u → Calls Try.prog 95 #[.agg #[.slice p1 pn1 pc1, .slice p2 pn2 pc2, .int .i64 pp], .agg #[.int .i64 p, .int .i64 s, .bool st, .bool sk, .bool re, .bool fe, .bool ag, .int .i64 c, .int .i64 l]] u fun e w' => e = .returned (.bool (noneO p pp xs)) ∧ Below u.heap.size u w') := Lib.hid (fun e u hu => by
  obtain ⟨f1, f2, f3, f4, f5⟩ := feed_parts p s c l st sk re fe ag (hk.trans e)
  exact other_any p s c l st sk re fe ag _ _ _ _ _ _ _ xs u h.l1 (h.below hu).r1 f1 f2 f3 f4 f5 hcap)
 unfold feedB
 generalize noneO p pp xs = nn at *
 clear h hk
 go_enter Try.func94, Try.ntmps94
 go_wp2_with fail
 refine (implValid_b p s c l st sk re fe ag _ _ _ _ _ _ _ xs ys _ (H.out.below HS.out.2.2) _ Hk.out).mono ?_
 rintro e u ⟨rfl, hb⟩
 have HS := Lib.hid (HS.out.below hb)
 clear hb
 cases k
 ·go_wp2_with fail
  go_ret
  exact ⟨rfl, HS.out.2.2⟩
 ·obtain ⟨⟨_, r0, r1, r2, r3, r4, r5, r6, r7, r8⟩, ⟨_, g0, g1, g2⟩, -⟩ := HS.out
  cases fe
  ·go_wp2_with fail
   go_ret
   exact ⟨rfl, HS.out.2.2⟩
  ·go_wp2_with fail
   refine (HO.out (by first | rfl | trivial) _ HS.out.2.2).mono ?_
   rintro e u2 ⟨rfl, hb⟩
   have HS := Lib.hid (HS.out.below hb)
   clear hb
   go_wp2_with fail
   go_ret
   exact ⟨rfl, HS.out.2.2⟩
theorem l07Feed_any (p s c l : Int) (st sk re fe ag : Bool) (p1 p2 : Option Addr) (pn1 pc1 pn2 pc2 : Nat) (pp : Int) (xs ys : List Int) (rb pb : Nat) (w : World) (hr : RuAt w rb p s c l st sk re fe ag) (hq : PoAt w pb p1 p2 pn1 pc1 pn2 pc2 pp) (h : PosR w p1 p2 pn1 pn2 xs ys) (hk : okP (okR p s c l st ag) p pn1 pn2 pp xs ys = true) :
  Calls Try.prog 71 #[.pointer (some ⟨rb, 0, none⟩), .pointer (some ⟨pb, 0, none⟩)] w (Still (.bool (fe && noneO p pp xs)) w) := by
 obtain ⟨f1, f2, f3, f4, f5⟩ := feed_parts p s c l st sk re fe ag hk
 obtain ⟨P, rfl⟩ : ∃ P : Nat, p = (P : Int) := ⟨p.toNat, by omega⟩
 unfold noneO
 rw [Int.toNat_natCast]
 obtain ⟨_, g0, g1, g2, g3, g4, g5, g6, g7, g8⟩ := hr
 obtain ⟨_, t0, t1, t2⟩ := hq
 have HC : Hid (∀ q, Calls Try.prog 72 #[.pointer (some ⟨rb, 0, none⟩), .slice p1 pn1 pc1, .int .i64 (1 - pp)] (w.drewN q) fun e w' => e = .returned (.int .i64 (tot (halfL xs P (1 - pp)))) ∧ w.drewN q = w') := Lib.hid (fun q => l04Side_any P rb p1 pc1 pn1 xs (1 - pp) (w.drewN q) ((Below.cell (below_dn (Below.refl w.heap.size w) q) (p := ⟨rb, 0, none⟩) (by assumption)).trans g0) h.l1 (h.r1.drewN q) (by omega) (by omega) (by omega) f3 f4 f5)
 have hw1 : IntKind.i64.wrap (1 - pp) = 1 - pp := IntWalk.i64_in _ ⟨by omega, by omega⟩
 generalize tot (halfL xs P (1 - pp)) = hs at *
 clear f1 f2 f3 f4 f5 h hk
 cases fe
 ·go_enter Try.func71, Try.ntmps71
  go_wp2_with fail
  go_quiet (fail)
  go_wp2_with fail
  go_ret
  exact ⟨rfl, by first | exact ⟨_, rfl⟩ | exact ⟨_, World.drewN_drewN _ _ _⟩⟩
 ·go_enter Try.func71, Try.ntmps71
  go_wp2_with fail
  go_quiet ((go_at_call 72; exact quiet_w (HC.out _) ⟨_, rfl⟩))
  go_wp2_with fail
  go_ret
  exact ⟨rfl, by first | exact ⟨_, rfl⟩ | exact ⟨_, World.drewN_drewN _ _ _⟩⟩
/- View4 -/
def OnW (w u : World) : Prop := Below w.heap.size w u
theorem OnW.below {w u v : World} (h : OnW w u) (k : Below u.heap.size u v) : OnW w v := Below.trans h (k.mono (Below.size h))
theorem OnW.drew {w u : World} (h : OnW w u) : OnW w u.drew := Below.drew h
theorem OnW.set3 {w u : World} {z : Nat} (h : OnW w u) (hz : w.heap.size ≤ z) (x y t : Value) : OnW w (((u.setCell ⟨z, 0, none⟩ x).setCell ⟨z, 1, none⟩ y).setCell ⟨z, 2, none⟩ t) :=
 Below.setCell (Below.setCell (Below.setCell h (p := ⟨z, 0, none⟩) hz _) (p := ⟨z, 1, none⟩) hz _) (p := ⟨z, 2, none⟩) hz _
theorem OutN.drew {w : World} {B b : Nat} {a : Option Addr} {xs : List Int} (h : OutN w B a b xs) : OutN w.drew B a b xs := h.below (Below.refl _ _).drew
theorem PoAt.drew {u : World} {d : Nat} {p1 p2 : Option Addr} {pn1 pc1 pn2 pc2 : Nat} {pp : Int} (h : PoAt u d p1 p2 pn1 pc1 pn2 pc2 pp) : PoAt u.drew d p1 p2 pn1 pc1 pn2 pc2 pp := h
theorem PoAt.set3 {u : World} {d z : Nat} {p1 p2 : Option Addr} {pn1 pc1 pn2 pc2 : Nat} {pp : Int} (h : PoAt u d p1 p2 pn1 pc1 pn2 pc2 pp) (hz : d ≠ z) (x y t : Value) : PoAt (((u.setCell ⟨z, 0, none⟩ x).setCell ⟨z, 1, none⟩ y).setCell ⟨z, 2, none⟩ t) d p1 p2 pn1 pc1 pn2 pc2 pp :=
 h.but ((((But.refl z u).setCell (p := ⟨z, 0, none⟩) rfl x).setCell (p := ⟨z, 1, none⟩) rfl y).setCell (p := ⟨z, 2, none⟩) rfl t) hz
theorem l04Own_any (p1 p2 : Option Addr) (pn1 pc1 pn2 pc2 : Nat) (pp : Int) (xs ys : List Int) (d : Nat) (w : World) (hp : PoAt w d p1 p2 pn1 pc1 pn2 pc2 pp) (h : PosR w p1 p2 pn1 pn2 xs ys) (hne1 : xs ≠ []) (hne2 : ys ≠ []) :
  Calls Try.prog 55 #[.pointer (some ⟨d, 0, none⟩)] w (PosQ pn1 pn2 pp xs ys w) := by
 have H := Lib.hid h
 have HN1 := Lib.hid hne1
 have HN2 := Lib.hid hne2
 have hle1 : pn1 ≤ 1000000000000 := by have := h.r1.1; rwa [h.l1] at this
 have hle2 : pn2 ≤ 1000000000000 := by have := h.r2.1; rwa [h.l2] at this
 have HP := Lib.hid (hp.below (al1 _ (.cells #[.slice none 0 0, .slice none 0 0, .int .i64 0] 32)));have HB := Lib.hid (show OnW w _ from al1 w (.cells #[.slice none 0 0, .slice none 0 0, .int .i64 0] 32));have HZ := Lib.hid (zero_new w 32);have hdz : d ≠ w.heap.size := (by have := hp.1; omega)
 have HT : Hid (∀ u : World, PoAt u (d) p1 p2 pn1 pc1 pn2 pc2 pp → OnW w u → (d < u.heap.size ∧ u.cell? ⟨d, 0, none⟩ = some (.slice p1 pn1 pc1) ∧ u.cell? ⟨d, 1, none⟩ = some (.slice p2 pn2 pc2) ∧ u.cell? ⟨d, 2, none⟩ = some (.int .i64 pp)) ∧ Below w.heap.size w u) := Lib.hid (fun u h k => ⟨h, k⟩)
 clear h hne1 hne2
 go_enter Try.func55, Try.ntmps55
 go_wp2_with fail
 go_region_held3 (fun u => (d < u.heap.size ∧ u.cell? ⟨d, 0, none⟩ = some (.slice p1 pn1 pc1) ∧ u.cell? ⟨d, 1, none⟩ = some (.slice p2 pn2 pc2) ∧ u.cell? ⟨d, 2, none⟩ = some (.int .i64 pp)) ∧ Below w.heap.size w u) (first | exact HT.out _ HP.out HB.out | exact HT.out _ HP.out.drew HB.out.drew | exact HT.out _ (HP.out.set3 hdz _ _ _) (HB.out.set3 (by omega) _ _ _))
  (first
  | (go_at_call 65; (with_reducible refine (l00Own_any p1 pc1 pn1 xs _ H.out.l1 ?_ HN1.out).mono ?_); (first | exact H.out.r1.below HB.out | exact H.out.r1.below HB.out.drew); rintro e w5 ⟨v1, rfl, hown, hb5⟩; (obtain ⟨c5, b5, rfl, o5, hlt5, hc5⟩ := outN_own hown H.out.l1 hle1 HN1.out); have O1 := Lib.hid o5; have nb1 := o5.new; have nz1 := HZ.out.lt; (first | have HP := Lib.hid (HP.out.below hb5) | have HP := Lib.hid (HP.out.drew.below hb5) | have HP := Lib.hid ((HP.out.below (al1 _ _)).below hb5) | have HP := Lib.hid ((HP.out.below (al1 _ _)).drew.below hb5)); (first | have HB := Lib.hid (HB.out.below hb5) | have HB := Lib.hid (HB.out.drew.below hb5) | have HB := Lib.hid ((HB.out.below (al1 _ _)).below hb5) | have HB := Lib.hid ((HB.out.below (al1 _ _)).drew.below hb5)); (first | have HZ := Lib.hid (HZ.out.below hb5) | have HZ := Lib.hid (HZ.out.drew.below hb5) | have HZ := Lib.hid ((HZ.out.below (al1 _ _)).below hb5) | have HZ := Lib.hid ((HZ.out.below (al1 _ _)).drew.below hb5)); clear hown hb5 o5)
  | (go_at_call 65; (with_reducible refine (l00Own_any p2 pc2 pn2 ys _ H.out.l2 ?_ HN2.out).mono ?_); (first | exact H.out.r2.below HB.out | exact H.out.r2.below HB.out.drew); rintro e w6 ⟨v2, rfl, hown, hb6⟩; (obtain ⟨c6, b6, rfl, o6, hlt6, hc6⟩ := outN_own hown H.out.l2 hle2 HN2.out); have O2 := Lib.hid o6; have nb2 := o6.new; have nz2 := HZ.out.lt; (first | have HP := Lib.hid (HP.out.below hb6) | have HP := Lib.hid (HP.out.drew.below hb6) | have HP := Lib.hid ((HP.out.below (al1 _ _)).below hb6) | have HP := Lib.hid ((HP.out.below (al1 _ _)).drew.below hb6)); (first | have HB := Lib.hid (HB.out.below hb6) | have HB := Lib.hid (HB.out.drew.below hb6) | have HB := Lib.hid ((HB.out.below (al1 _ _)).below hb6) | have HB := Lib.hid ((HB.out.below (al1 _ _)).drew.below hb6)); (first | have HZ := Lib.hid (HZ.out.below hb6) | have HZ := Lib.hid (HZ.out.drew.below hb6) | have HZ := Lib.hid ((HZ.out.below (al1 _ _)).below hb6) | have HZ := Lib.hid ((HZ.out.below (al1 _ _)).drew.below hb6)); (first | have O1 := Lib.hid (O1.out.below hb6) | have O1 := Lib.hid (O1.out.drew.below hb6) | have O1 := Lib.hid ((O1.out.below (al1 _ _)).below hb6) | have O1 := Lib.hid ((O1.out.below (al1 _ _)).drew.below hb6)); (obtain ⟨zl, z0, z1, z2, zf⟩ := HZ.out); have f0 := zf 0; have f1 := zf 1; have f2 := zf 2; clear hown hb6 o6 zf))
 have nb3 : (w.heap.size) + 1 ≤ b5 := by
  have hh := nb1
  simp at hh
  omega
 have m5 : b5 ≠ w.heap.size := by omega
 have m6 : b6 ≠ w.heap.size := by omega
 have hs5 := HB.out.size
 go_wp2_with fail
 refine bodyPost_ret (v := .agg #[.slice (some ⟨b5, 0, none⟩) pn1 c5, .slice (some ⟨b6, 0, none⟩) pn2 c6, .int .i64 pp]) (by simp [results, Try.results55, go_sem, z0, z1, z2]) rfl ⟨b5, c5, b6, c6, rfl, ⟨(((O1.out.setCell m5 _).setCell m5 _).setCell m5 _).lower (by first | (simp; done) | (simp; omega)), (((O2.out.setCell m6 _).setCell m6 _).setCell m6 _).lower (by first | omega | (simp; omega)), by omega, H.out.l1, H.out.l2⟩, by simp; omega, by simp; omega, hc5, hc6, HB.out.set3 (by omega) _ _ _⟩
theorem copy_any (p1 p2 : Option Addr) (pn1 pc1 pn2 pc2 : Nat) (pp : Int) (xs ys : List Int) (w : World) (h : PosR w p1 p2 pn1 pn2 xs ys) (hne1 : xs ≠ []) (hne2 : ys ≠ []) :
  Calls Try.prog 59 #[.agg #[.slice p1 pn1 pc1, .slice p2 pn2 pc2, .int .i64 pp]] w (PosQ pn1 pn2 pp xs ys w) := by
 have H := Lib.hid h
 have HN1 := Lib.hid hne1
 have HN2 := Lib.hid hne2
 have hle1 : pn1 ≤ 1000000000000 := by have := h.r1.1; rwa [h.l1] at this
 have hle2 : pn2 ≤ 1000000000000 := by have := h.r2.1; rwa [h.l2] at this
 have HP := Lib.hid ((po_new p1 p2 pn1 pc1 pn2 pc2 pp w 32).below (al1 _ (.cells #[.slice none 0 0, .slice none 0 0, .int .i64 0] 32)));have HB := Lib.hid (show OnW w _ from al2 w (.cells #[.slice p1 pn1 pc1, .slice p2 pn2 pc2, .int .i64 pp] 32) (.cells #[.slice none 0 0, .slice none 0 0, .int .i64 0] 32));have HZ := Lib.hid (by have h := zero_new (w.alloc (.cells #[.slice p1 pn1 pc1, .slice p2 pn2 pc2, .int .i64 pp] 32)) 32; rwa [show (w.alloc (.cells #[.slice p1 pn1 pc1, .slice p2 pn2 pc2, .int .i64 pp] 32)).heap.size = w.heap.size + 1 by simp] at h : ZeroP _ (w.heap.size + 1));have hdz : w.heap.size ≠ w.heap.size + 1 := (by omega)
 have HT : Hid (∀ u : World, PoAt u (w.heap.size) p1 p2 pn1 pc1 pn2 pc2 pp → OnW w u → (w.heap.size < u.heap.size ∧ u.cell? ⟨w.heap.size, 0, none⟩ = some (.slice p1 pn1 pc1) ∧ u.cell? ⟨w.heap.size, 1, none⟩ = some (.slice p2 pn2 pc2) ∧ u.cell? ⟨w.heap.size, 2, none⟩ = some (.int .i64 pp)) ∧ Below w.heap.size w u) := Lib.hid (fun u h k => ⟨h, k⟩)
 clear h hne1 hne2
 go_enter Try.func59, Try.ntmps59
 go_wp2_with fail
 go_region_held3 (fun u => (w.heap.size < u.heap.size ∧ u.cell? ⟨w.heap.size, 0, none⟩ = some (.slice p1 pn1 pc1) ∧ u.cell? ⟨w.heap.size, 1, none⟩ = some (.slice p2 pn2 pc2) ∧ u.cell? ⟨w.heap.size, 2, none⟩ = some (.int .i64 pp)) ∧ Below w.heap.size w u) (first | exact HT.out _ HP.out HB.out | exact HT.out _ HP.out.drew HB.out.drew | exact HT.out _ (HP.out.set3 hdz _ _ _) (HB.out.set3 (by omega) _ _ _))
  (first
  | (go_at_call 67; (with_reducible refine (clone_any p1 pc1 pn1 xs _ H.out.l1 ?_ HN1.out).mono ?_); (first | exact H.out.r1.below HB.out | exact H.out.r1.below HB.out.drew); rintro e w5 ⟨v1, rfl, hown, hb5⟩; (obtain ⟨c5, b5, rfl, o5, hlt5, hc5⟩ := outN_own hown H.out.l1 hle1 HN1.out); have O1 := Lib.hid o5; have nb1 := o5.new; have nz1 := HZ.out.lt; (first | have HP := Lib.hid (HP.out.below hb5) | have HP := Lib.hid (HP.out.drew.below hb5) | have HP := Lib.hid ((HP.out.below (al1 _ _)).below hb5) | have HP := Lib.hid ((HP.out.below (al1 _ _)).drew.below hb5)); (first | have HB := Lib.hid (HB.out.below hb5) | have HB := Lib.hid (HB.out.drew.below hb5) | have HB := Lib.hid ((HB.out.below (al1 _ _)).below hb5) | have HB := Lib.hid ((HB.out.below (al1 _ _)).drew.below hb5)); (first | have HZ := Lib.hid (HZ.out.below hb5) | have HZ := Lib.hid (HZ.out.drew.below hb5) | have HZ := Lib.hid ((HZ.out.below (al1 _ _)).below hb5) | have HZ := Lib.hid ((HZ.out.below (al1 _ _)).drew.below hb5)); clear hown hb5 o5)
  | (go_at_call 67; (with_reducible refine (clone_any p2 pc2 pn2 ys _ H.out.l2 ?_ HN2.out).mono ?_); (first | exact H.out.r2.below HB.out | exact H.out.r2.below HB.out.drew); rintro e w6 ⟨v2, rfl, hown, hb6⟩; (obtain ⟨c6, b6, rfl, o6, hlt6, hc6⟩ := outN_own hown H.out.l2 hle2 HN2.out); have O2 := Lib.hid o6; have nb2 := o6.new; have nz2 := HZ.out.lt; (first | have HP := Lib.hid (HP.out.below hb6) | have HP := Lib.hid (HP.out.drew.below hb6) | have HP := Lib.hid ((HP.out.below (al1 _ _)).below hb6) | have HP := Lib.hid ((HP.out.below (al1 _ _)).drew.below hb6)); (first | have HB := Lib.hid (HB.out.below hb6) | have HB := Lib.hid (HB.out.drew.below hb6) | have HB := Lib.hid ((HB.out.below (al1 _ _)).below hb6) | have HB := Lib.hid ((HB.out.below (al1 _ _)).drew.below hb6)); (first | have HZ := Lib.hid (HZ.out.below hb6) | have HZ := Lib.hid (HZ.out.drew.below hb6) | have HZ := Lib.hid ((HZ.out.below (al1 _ _)).below hb6) | have HZ := Lib.hid ((HZ.out.below (al1 _ _)).drew.below hb6)); (first | have O1 := Lib.hid (O1.out.below hb6) | have O1 := Lib.hid (O1.out.drew.below hb6) | have O1 := Lib.hid ((O1.out.below (al1 _ _)).below hb6) | have O1 := Lib.hid ((O1.out.below (al1 _ _)).drew.below hb6)); (obtain ⟨zl, z0, z1, z2, zf⟩ := HZ.out); have f0 := zf 0; have f1 := zf 1; have f2 := zf 2; clear hown hb6 o6 zf))
 have nb3 : (w.heap.size + 1) + 1 ≤ b5 := by
  have hh := nb1
  simp at hh
  omega
 have m5 : b5 ≠ w.heap.size + 1 := by omega
 have m6 : b6 ≠ w.heap.size + 1 := by omega
 have hs5 := HB.out.size
 go_wp2_with fail
 refine bodyPost_ret (v := .agg #[.slice (some ⟨b5, 0, none⟩) pn1 c5, .slice (some ⟨b6, 0, none⟩) pn2 c6, .int .i64 pp]) (by simp [results, Try.results59, go_sem, z0, z1, z2]) rfl ⟨b5, c5, b6, c6, rfl, ⟨(((O1.out.setCell m5 _).setCell m5 _).setCell m5 _).lower (by first | (simp; done) | (simp; omega)), (((O2.out.setCell m6 _).setCell m6 _).setCell m6 _).lower (by first | omega | (simp; omega)), by omega, H.out.l1, H.out.l2⟩, by simp; omega, by simp; omega, hc5, hc6, HB.out.set3 (by omega) _ _ _⟩
/- Begin5 -/
structure Zero16 (u : World) (z : Nat) : Prop where
 lt : z < u.heap.size
 c0 : u.cell? ⟨z, 0, none⟩ = some (.int .i64 0)
 c1 : u.cell? ⟨z, 1, none⟩ = some (.int .i64 0)
 c2 : u.cell? ⟨z, 2, none⟩ = some (.bool false)
 c3 : u.cell? ⟨z, 3, none⟩ = some (.bool false)
 c4 : u.cell? ⟨z, 4, none⟩ = some (.bool false)
 c5 : u.cell? ⟨z, 5, none⟩ = some (.bool false)
 c6 : u.cell? ⟨z, 6, none⟩ = some (.bool false)
 c7 : u.cell? ⟨z, 7, none⟩ = some (.int .i64 0)
 c8 : u.cell? ⟨z, 8, none⟩ = some (.int .i64 0)
 c9 : u.cell? ⟨z, 9, none⟩ = some (.int .i64 0)
 c10 : u.cell? ⟨z, 10, none⟩ = some (.int .i64 0)
 c11 : u.cell? ⟨z, 11, none⟩ = some (.int .i64 0)
 c12 : u.cell? ⟨z, 12, none⟩ = some (.slice none 0 0)
 c13 : u.cell? ⟨z, 13, none⟩ = some (.slice none 0 0)
 c14 : u.cell? ⟨z, 14, none⟩ = some (.int .i64 0)
 c15 : u.cell? ⟨z, 15, none⟩ = some (.int .i64 0)
 fr : ∀ o, u.frozen? ⟨z, o, none⟩ = false
theorem Zero16.below {u v : World} {z : Nat} (h : Zero16 u z) (k : Below u.heap.size u v) : Zero16 v z := by
 have e := fun o => k.cell (p := ⟨z, o, none⟩) h.lt
 exact ⟨Nat.lt_of_lt_of_le h.lt k.size, (e _).trans h.c0, (e _).trans h.c1, (e _).trans h.c2, (e _).trans h.c3, (e _).trans h.c4, (e _).trans h.c5, (e _).trans h.c6, (e _).trans h.c7, (e _).trans h.c8, (e _).trans h.c9, (e _).trans h.c10, (e _).trans h.c11, (e _).trans h.c12, (e _).trans h.c13, (e _).trans h.c14, (e _).trans h.c15,
  fun o => (k.frozen (p := ⟨z, o, none⟩) h.lt).trans (h.fr o)⟩
theorem Zero16.drew {u : World} {z : Nat} (h : Zero16 u z) : Zero16 u.drew z := h.below (Below.refl _ _).drew
theorem zero16_new (w : World) (T : TypeId) : Zero16 (w.alloc (.cells #[.int .i64 0, .int .i64 0, .bool false, .bool false, .bool false, .bool false, .bool false, .int .i64 0, .int .i64 0, .int .i64 0, .int .i64 0, .int .i64 0, .slice none 0 0, .slice none 0 0, .int .i64 0, .int .i64 0] T)) w.heap.size :=
 ⟨by simp, by go_simp, by go_simp, by go_simp, by go_simp, by go_simp, by go_simp, by go_simp, by go_simp, by go_simp, by go_simp, by go_simp, by go_simp, by go_simp, by go_simp, by go_simp, by go_simp, fun o => by go_simp⟩
structure BegAt (w : World) (p s c l : Int) (st sk re fe ag : Bool) (p1 p2 : Option Addr) (pn1 pc1 pn2 pc2 : Nat) (pp : Int) (u : World) : Prop where
 rp : RpAt w p s c l st sk re fe ag p1 p2 pn1 pc1 pn2 pc2 pp u
 z : Zero16 u (w.heap.size + 1 + 1)
theorem BegAt.below {w u v : World} {p s c l : Int} {st sk re fe ag : Bool} {p1 p2 : Option Addr} {pn1 pc1 pn2 pc2 : Nat} {pp : Int} (h : BegAt w p s c l st sk re fe ag p1 p2 pn1 pc1 pn2 pc2 pp u) (k : Below u.heap.size u v) : BegAt w p s c l st sk re fe ag p1 p2 pn1 pc1 pn2 pc2 pp v := ⟨h.rp.below k, h.z.below k⟩
theorem beg_new (p s c l : Int) (st sk re fe ag : Bool) (p1 p2 : Option Addr) (pn1 pc1 pn2 pc2 : Nat) (pp : Int) (w : World) (T U V : TypeId) : BegAt w p s c l st sk re fe ag p1 p2 pn1 pc1 pn2 pc2 pp (((w.alloc (.cells #[.int .i64 p, .int .i64 s, .bool st, .bool sk, .bool re, .bool fe, .bool ag, .int .i64 c, .int .i64 l] T)).alloc (.cells #[.slice p1 pn1 pc1, .slice p2 pn2 pc2, .int .i64 pp] U)).alloc (.cells #[.int .i64 0, .int .i64 0, .bool false, .bool false, .bool false, .bool false, .bool false, .int .i64 0, .int .i64 0, .int .i64 0, .int .i64 0, .int .i64 0, .slice none 0 0, .slice none 0 0, .int .i64 0, .int .i64 0] V)) :=
 ⟨(rp_new p s c l st sk re fe ag p1 p2 pn1 pc1 pn2 pc2 pp w T U).below (al1 _ _), by have := zero16_new ((w.alloc (.cells #[.int .i64 p, .int .i64 s, .bool st, .bool sk, .bool re, .bool fe, .bool ag, .int .i64 c, .int .i64 l] T)).alloc (.cells #[.slice p1 pn1 pc1, .slice p2 pn2 pc2, .int .i64 pp] U)) V; simpa using this⟩
def BegZ (k : Int) (w : World) (e : Ending) (w' : World) : Prop :=
 e = .returned (.tuple #[.agg #[.int .i64 0, .int .i64 0, .bool false, .bool false, .bool false, .bool false, .bool false, .int .i64 0, .int .i64 0, .int .i64 0, .int .i64 0, .int .i64 0, .slice none 0 0, .slice none 0 0, .int .i64 0, .int .i64 0], .int .i64 k]) ∧ Below w.heap.size w w'
theorem below16 {B z : Nat} {w u : World} (h : Below B w u) (hz : B ≤ z) (x0 x1 x2 x3 x4 x5 x6 x7 x8 x9 x10 x11 x12 x13 x14 x15 : Value) : Below B w ((((((((((((((((u.setCell ⟨z, 0, none⟩ x0).setCell ⟨z, 1, none⟩ x1).setCell ⟨z, 2, none⟩ x2).setCell ⟨z, 3, none⟩ x3).setCell ⟨z, 4, none⟩ x4).setCell ⟨z, 5, none⟩ x5).setCell ⟨z, 6, none⟩ x6).setCell ⟨z, 7, none⟩ x7).setCell ⟨z, 8, none⟩ x8).setCell ⟨z, 9, none⟩ x9).setCell ⟨z, 10, none⟩ x10).setCell ⟨z, 11, none⟩ x11).setCell ⟨z, 12, none⟩ x12).setCell ⟨z, 13, none⟩ x13).setCell ⟨z, 14, none⟩ x14).setCell ⟨z, 15, none⟩ x15) :=
 ((((((((((((((((h.setCell (p := ⟨z, 0, none⟩) hz x0).setCell (p := ⟨z, 1, none⟩) hz x1).setCell (p := ⟨z, 2, none⟩) hz x2).setCell (p := ⟨z, 3, none⟩) hz x3).setCell (p := ⟨z, 4, none⟩) hz x4).setCell (p := ⟨z, 5, none⟩) hz x5).setCell (p := ⟨z, 6, none⟩) hz x6).setCell (p := ⟨z, 7, none⟩) hz x7).setCell (p := ⟨z, 8, none⟩) hz x8).setCell (p := ⟨z, 9, none⟩) hz x9).setCell (p := ⟨z, 10, none⟩) hz x10).setCell (p := ⟨z, 11, none⟩) hz x11).setCell (p := ⟨z, 12, none⟩) hz x12).setCell (p := ⟨z, 13, none⟩) hz x13).setCell (p := ⟨z, 14, none⟩) hz x14).setCell (p := ⟨z, 15, none⟩) hz x15)
theorem but16 (z : Nat) (u : World) (x0 x1 x2 x3 x4 x5 x6 x7 x8 x9 x10 x11 x12 x13 x14 x15 : Value) : But z u ((((((((((((((((u.setCell ⟨z, 0, none⟩ x0).setCell ⟨z, 1, none⟩ x1).setCell ⟨z, 2, none⟩ x2).setCell ⟨z, 3, none⟩ x3).setCell ⟨z, 4, none⟩ x4).setCell ⟨z, 5, none⟩ x5).setCell ⟨z, 6, none⟩ x6).setCell ⟨z, 7, none⟩ x7).setCell ⟨z, 8, none⟩ x8).setCell ⟨z, 9, none⟩ x9).setCell ⟨z, 10, none⟩ x10).setCell ⟨z, 11, none⟩ x11).setCell ⟨z, 12, none⟩ x12).setCell ⟨z, 13, none⟩ x13).setCell ⟨z, 14, none⟩ x14).setCell ⟨z, 15, none⟩ x15) :=
 (((((((((((((((((But.refl z u).setCell (p := ⟨z, 0, none⟩) rfl x0).setCell (p := ⟨z, 1, none⟩) rfl x1).setCell (p := ⟨z, 2, none⟩) rfl x2).setCell (p := ⟨z, 3, none⟩) rfl x3).setCell (p := ⟨z, 4, none⟩) rfl x4).setCell (p := ⟨z, 5, none⟩) rfl x5).setCell (p := ⟨z, 6, none⟩) rfl x6).setCell (p := ⟨z, 7, none⟩) rfl x7).setCell (p := ⟨z, 8, none⟩) rfl x8).setCell (p := ⟨z, 9, none⟩) rfl x9).setCell (p := ⟨z, 10, none⟩) rfl x10).setCell (p := ⟨z, 11, none⟩) rfl x11).setCell (p := ⟨z, 12, none⟩) rfl x12).setCell (p := ⟨z, 13, none⟩) rfl x13).setCell (p := ⟨z, 14, none⟩) rfl x14).setCell (p := ⟨z, 15, none⟩) rfl x15)
theorem begin_invalid (p s c l : Int) (st sk re fe ag : Bool) (p1 p2 : Option Addr) (pn1 pc1 pn2 pc2 : Nat) (pp : Int) (xs ys : List Int) (move : Int) (w : World) (h : PosR w p1 p2 pn1 pn2 xs ys) (hk : okP (okR p s c l st ag) p pn1 pn2 pp xs ys = false) :
  Calls Try.prog 88 #[.agg #[.int .i64 p, .int .i64 s, .bool st, .bool sk, .bool re, .bool fe, .bool ag, .int .i64 c, .int .i64 l], .agg #[.slice p1 pn1 pc1, .slice p2 pn2 pc2, .int .i64 pp], .int .i64 move] w (BegZ 1 w) := by
 have H := Lib.hid h
 have HS := Lib.hid (beg_new p s c l st sk re fe ag p1 p2 pn1 pc1 pn2 pc2 pp w 31 32 124)
 have Hk := Lib.hid hk
 clear h hk
 go_enter Try.func88, Try.ntmps88
 go_wp2_with fail
 refine (implValid_any p s c l st sk re fe ag p1 p2 pn1 pc1 pn2 pc2 pp xs ys _ (H.out.below HS.out.rp.2.2)).mono ?_
 rintro e u ⟨rfl, hb⟩
 rw [Hk.out]
 have HS := Lib.hid (HS.out.below hb)
 obtain ⟨zl, z0, z1, z2, z3, z4, z5, z6, z7, z8, z9, z10, z11, z12, z13, z14, z15, zf⟩ := HS.out.z
 have f0 := zf 0
 have f1 := zf 1
 have f2 := zf 2
 have f3 := zf 3
 have f4 := zf 4
 have f5 := zf 5
 have f6 := zf 6
 have f7 := zf 7
 have f8 := zf 8
 have f9 := zf 9
 have f10 := zf 10
 have f11 := zf 11
 have f12 := zf 12
 have f13 := zf 13
 have f14 := zf 14
 have f15 := zf 15
 clear hb zf
 go_wp2_with fail
 refine bodyPost_ret (v := .tuple #[.agg #[.int .i64 0, .int .i64 0, .bool false, .bool false, .bool false, .bool false, .bool false, .int .i64 0, .int .i64 0, .int .i64 0, .int .i64 0, .int .i64 0, .slice none 0 0, .slice none 0 0, .int .i64 0, .int .i64 0], .int .i64 1]) (by simp [results, Try.results88, go_sem, z0, z1, z2, z3, z4, z5, z6, z7, z8, z9, z10, z11, z12, z13, z14, z15]) rfl ⟨rfl, ?_⟩
 exact below16 HS.out.rp.2.2 (by omega) _ _ _ _ _ _ _ _ _ _ _ _ _ _ _ _
theorem begin_range (p s c l : Int) (st sk re fe ag : Bool) (p1 p2 : Option Addr) (pn1 pc1 pn2 pc2 : Nat) (pp : Int) (xs ys : List Int) (move : Int) (w : World) (h : PosR w p1 p2 pn1 pn2 xs ys) (hk : okP (okR p s c l st ag) p pn1 pn2 pp xs ys = true) (hm : ¬ (0 ≤ move ∧ move < p)) :
  Calls Try.prog 88 #[.agg #[.int .i64 p, .int .i64 s, .bool st, .bool sk, .bool re, .bool fe, .bool ag, .int .i64 c, .int .i64 l], .agg #[.slice p1 pn1 pc1, .slice p2 pn2 pc2, .int .i64 pp], .int .i64 move] w (BegZ 2 w) := by
 have H := Lib.hid h
 have HS := Lib.hid (beg_new p s c l st sk re fe ag p1 p2 pn1 pc1 pn2 pc2 pp w 31 32 124)
 have Hk := Lib.hid hk
 have hok := okP_parts hk
 have hmc : moveC (okR p s c l st ag) p pp move = 2 := by
  rw [hok.1]
  simp only [moveC]
  rw [if_pos trivial, if_neg (fun h => hm h.2)]
 have Hm := Lib.hid hmc
 have Hv : Hid (movV 2 (pp * p + move) = 0) := Lib.hid rfl
 clear h hk hok hmc hm
 go_enter Try.func88, Try.ntmps88
 go_wp2_with fail
 refine (implValid_any p s c l st sk re fe ag p1 p2 pn1 pc1 pn2 pc2 pp xs ys _ (H.out.below HS.out.rp.2.2)).mono ?_
 rintro e u ⟨rfl, hb⟩
 rw [Hk.out]
 have HS := Lib.hid (HS.out.below hb)
 obtain ⟨_, g0, g1, g2, g3, g4, g5, g6, g7, g8⟩ := HS.out.rp.1
 obtain ⟨_, t0, t1, t2⟩ := HS.out.rp.2.1
 clear hb
 go_wp2_with fail
 refine (impl_pitof p s c l st sk re fe ag pp move _).mono ?_
 rintro e u2 ⟨rfl, hb2⟩
 rw [Hm.out, Hv.out]
 have HS := Lib.hid (HS.out.below hb2)
 clear hb2 g0 g1 g2 g3 g4 g5 g6 g7 g8 t0 t1 t2
 obtain ⟨zl, z0, z1, z2, z3, z4, z5, z6, z7, z8, z9, z10, z11, z12, z13, z14, z15, zf⟩ := HS.out.z
 have f0 := zf 0
 have f1 := zf 1
 have f2 := zf 2
 have f3 := zf 3
 have f4 := zf 4
 have f5 := zf 5
 have f6 := zf 6
 have f7 := zf 7
 have f8 := zf 8
 have f9 := zf 9
 have f10 := zf 10
 have f11 := zf 11
 have f12 := zf 12
 have f13 := zf 13
 have f14 := zf 14
 have f15 := zf 15
 clear zf
 go_wp2_with fail
 refine bodyPost_ret (v := .tuple #[.agg #[.int .i64 0, .int .i64 0, .bool false, .bool false, .bool false, .bool false, .bool false, .int .i64 0, .int .i64 0, .int .i64 0, .int .i64 0, .int .i64 0, .slice none 0 0, .slice none 0 0, .int .i64 0, .int .i64 0], .int .i64 2]) (by simp [results, Try.results88, go_sem, z0, z1, z2, z3, z4, z5, z6, z7, z8, z9, z10, z11, z12, z13, z14, z15]) rfl ⟨rfl, ?_⟩
 exact below16 HS.out.rp.2.2 (by omega) _ _ _ _ _ _ _ _ _ _ _ _ _ _ _ _
theorem begin_empty (p s c l : Int) (st sk re fe ag : Bool) (p1 p2 : Option Addr) (pn1 pc1 pn2 pc2 : Nat) (pp : Int) (xs ys : List Int) (move : Int) (w : World) (h : PosR w p1 p2 pn1 pn2 xs ys) (hk : okP (okR p s c l st ag) p pn1 pn2 pp xs ys = true) (F : Nat) (hF : F < pn1) (hf : pp * p + move = F) (hm0 : 0 ≤ move) (hm1 : move < p) (he : xs.getD F 0 = 0) :
  Calls Try.prog 88 #[.agg #[.int .i64 p, .int .i64 s, .bool st, .bool sk, .bool re, .bool fe, .bool ag, .int .i64 c, .int .i64 l], .agg #[.slice p1 pn1 pc1, .slice p2 pn2 pc2, .int .i64 pp], .int .i64 move] w (BegZ 6 w) := by
 have H := Lib.hid h
 have HS := Lib.hid (beg_new p s c l st sk re fe ag p1 p2 pn1 pc1 pn2 pc2 pp w 31 32 124)
 have Hk := Lib.hid hk
 have hok := okP_parts hk
 have hmc : moveC (okR p s c l st ag) p pp move = 0 := by
  rw [hok.1]
  simp only [moveC]
  rw [if_pos trivial, if_pos ⟨hok.2.2.2.1, hm0, hm1⟩]
 have Hm := Lib.hid hmc
 have Hv : Hid (movV 0 (pp * p + move) = F) := Lib.hid hf
 have hle : pn1 ≤ 1000000000000 := by have := h.r1.1; rwa [h.l1] at this
 have hx : xs[F]? = some 0 := by rw [← he]; exact getD_at (by rw [h.l1]; exact hF)
 have Hx := Lib.hid hx
 have p0 : (F : Int) < (pn1 : Int) := by omega
 clear h hk hok hmc hf he hx
 go_enter Try.func88, Try.ntmps88
 go_wp2_with fail
 refine (implValid_any p s c l st sk re fe ag p1 p2 pn1 pc1 pn2 pc2 pp xs ys _ (H.out.below HS.out.rp.2.2)).mono ?_
 rintro e u ⟨rfl, hb⟩
 rw [Hk.out]
 have HS := Lib.hid (HS.out.below hb)
 obtain ⟨_, g0, g1, g2, g3, g4, g5, g6, g7, g8⟩ := HS.out.rp.1
 obtain ⟨_, t0, t1, t2⟩ := HS.out.rp.2.1
 clear hb
 go_wp2_with fail
 refine (impl_pitof p s c l st sk re fe ag pp move _).mono ?_
 rintro e u2 ⟨rfl, hb2⟩
 rw [Hm.out, Hv.out]
 have HS := Lib.hid (HS.out.below hb2)
 clear hb2 g0 g1 g2 g3 g4 g5 g6 g7 g8 t0 t1 t2
 obtain ⟨_, t0, t1, t2⟩ := HS.out.rp.2.1
 obtain ⟨g, o, rfl, hc0⟩ := cell_of (H.out.below HS.out.rp.2.2).r1 Hx.out
 obtain ⟨zl, z0, z1, z2, z3, z4, z5, z6, z7, z8, z9, z10, z11, z12, z13, z14, z15, zf⟩ := HS.out.z
 have f0 := zf 0
 have f1 := zf 1
 have f2 := zf 2
 have f3 := zf 3
 have f4 := zf 4
 have f5 := zf 5
 have f6 := zf 6
 have f7 := zf 7
 have f8 := zf 8
 have f9 := zf 9
 have f10 := zf 10
 have f11 := zf 11
 have f12 := zf 12
 have f13 := zf 13
 have f14 := zf 14
 have f15 := zf 15
 clear zf
 go_wp2_with fail
 refine bodyPost_ret (v := .tuple #[.agg #[.int .i64 0, .int .i64 0, .bool false, .bool false, .bool false, .bool false, .bool false, .int .i64 0, .int .i64 0, .int .i64 0, .int .i64 0, .int .i64 0, .slice none 0 0, .slice none 0 0, .int .i64 0, .int .i64 0], .int .i64 6]) (by simp [results, Try.results88, go_sem, z0, z1, z2, z3, z4, z5, z6, z7, z8, z9, z10, z11, z12, z13, z14, z15]) rfl ⟨rfl, ?_⟩
 exact below16 HS.out.rp.2.2 (by omega) _ _ _ _ _ _ _ _ _ _ _ _ _ _ _ _
/- BegY5 -/
theorem RuAt.drew {u : World} {b : Nat} {p s c l : Int} {st sk re fe ag : Bool} (h : RuAt u b p s c l st sk re fe ag) : RuAt u.drew b p s c l st sk re fe ag := h
theorem PoAt.set4 {u : World} {d z : Nat} {p1 p2 : Option Addr} {pn1 pc1 pn2 pc2 : Nat} {pp : Int} (h : PoAt u d p1 p2 pn1 pc1 pn2 pc2 pp) (hz : d ≠ z) (x y t q : Value) : PoAt ((((u.setCell ⟨z, 0, none⟩ x).setCell ⟨z, 1, none⟩ y).setCell ⟨z, 2, none⟩ t).setCell ⟨z, 3, none⟩ q) d p1 p2 pn1 pc1 pn2 pc2 pp :=
 h.but (((((But.refl z u).setCell (p := ⟨z, 0, none⟩) rfl x).setCell (p := ⟨z, 1, none⟩) rfl y).setCell (p := ⟨z, 2, none⟩) rfl t).setCell (p := ⟨z, 3, none⟩) rfl q) hz
theorem OnW.set4 {w u : World} {z : Nat} (h : OnW w u) (hz : w.heap.size ≤ z) (x y t q : Value) : OnW w ((((u.setCell ⟨z, 0, none⟩ x).setCell ⟨z, 1, none⟩ y).setCell ⟨z, 2, none⟩ t).setCell ⟨z, 3, none⟩ q) :=
 Below.setCell (OnW.set3 h hz x y t) (p := ⟨z, 3, none⟩) hz _
theorem OnW.bel {w u : World} (h : OnW w u) : Below w.heap.size w u := h
structure Z4 (u : World) (z : Nat) : Prop where
 lt : z < u.heap.size
 c0 : u.cell? ⟨z, 0, none⟩ = some (.slice none 0 0)
 c1 : u.cell? ⟨z, 1, none⟩ = some (.slice none 0 0)
 c2 : u.cell? ⟨z, 2, none⟩ = some (.int .i64 0)
 c3 : u.cell? ⟨z, 3, none⟩ = some (.int .i64 0)
 f0 : u.frozen? ⟨z, 0, none⟩ = false
 f1 : u.frozen? ⟨z, 1, none⟩ = false
 f2 : u.frozen? ⟨z, 2, none⟩ = false
 f3 : u.frozen? ⟨z, 3, none⟩ = false
theorem Z4.below {u v : World} {z : Nat} (h : Z4 u z) (k : Below u.heap.size u v) : Z4 v z :=
 have e := fun o => k.cell (p := ⟨z, o, none⟩) h.lt
 have f := fun o => k.frozen (p := ⟨z, o, none⟩) h.lt
 ⟨Nat.lt_of_lt_of_le h.lt k.size, (e _).trans h.c0, (e _).trans h.c1, (e _).trans h.c2, (e _).trans h.c3, (f _).trans h.f0, (f _).trans h.f1, (f _).trans h.f2, (f _).trans h.f3⟩
theorem Z4.drew {u : World} {z : Nat} (h : Z4 u z) : Z4 u.drew z := h.below (Below.refl _ _).drew
theorem z4_new (u : World) (T : TypeId) : Z4 (u.alloc (.cells #[.slice none 0 0, .slice none 0 0, .int .i64 0, .int .i64 0] T)) u.heap.size :=
 ⟨by simp, by go_simp, by go_simp, by go_simp, by go_simp, by go_simp, by go_simp, by go_simp, by go_simp⟩
def BegY (p s c l : Int) (st sk re fe ag : Bool) (pp : Int) (F n1 : Nat) (xs ys : List Int) (w : World) (e : Ending) (w' : World) : Prop :=
 ∃ b5 c5 b6 c6, e = .returned (.tuple #[.agg #[.int .i64 p, .int .i64 s, .bool st, .bool sk, .bool re, .bool fe, .bool ag, .int .i64 c, .int .i64 l, .int .i64 pp, .int .i64 F, .int .i64 0, .slice (some ⟨b5, 0, none⟩) n1 c5, .slice (some ⟨b6, 0, none⟩) 2 c6, .int .i64 0, .int .i64 0], .int .i64 0]) ∧
  OutN w' w.heap.size (some ⟨b5, 0, none⟩) b5 xs ∧ OutN w' w.heap.size (some ⟨b6, 0, none⟩) b6 ys ∧ b5 ≠ b6 ∧ b5 < w'.heap.size ∧ b6 < w'.heap.size ∧ n1 ≤ c5 ∧ 2 ≤ c6 ∧ Below w.heap.size w w'
theorem but4 (z : Nat) (u : World) (x y t q : Value) : But z u ((((u.setCell ⟨z, 0, none⟩ x).setCell ⟨z, 1, none⟩ y).setCell ⟨z, 2, none⟩ t).setCell ⟨z, 3, none⟩ q) :=
 ((((But.refl z u).setCell (p := ⟨z, 0, none⟩) rfl x).setCell (p := ⟨z, 1, none⟩) rfl y).setCell (p := ⟨z, 2, none⟩) rfl t).setCell (p := ⟨z, 3, none⟩) rfl q
theorem Zero16.but {u v : World} {z b : Nat} (h : Zero16 u z) (k : But b u v) (hb : z ≠ b) : Zero16 v z := by
 have e := fun o => k.cell (o := o) h.lt hb
 exact ⟨Nat.lt_of_lt_of_le h.lt k.size, (e _).trans h.c0, (e _).trans h.c1, (e _).trans h.c2, (e _).trans h.c3, (e _).trans h.c4, (e _).trans h.c5, (e _).trans h.c6, (e _).trans h.c7, (e _).trans h.c8, (e _).trans h.c9, (e _).trans h.c10, (e _).trans h.c11, (e _).trans h.c12, (e _).trans h.c13, (e _).trans h.c14, (e _).trans h.c15,
  fun o => (k.frozen h.lt hb).trans (h.fr o)⟩
structure BegF (w : World) (p s c l : Int) (st sk re fe ag : Bool) (p1 p2 : Option Addr) (pn1 pc1 pn2 pc2 : Nat) (pp : Int) (z b5 c5 b6 c6 n1 : Nat) (xs ys : List Int) (u : World) : Prop where
 po : PoAt u (w.heap.size + 1) p1 p2 pn1 pc1 pn2 pc2 pp
 ru : RuAt u w.heap.size p s c l st sk re fe ag
 zr : Zero16 u (w.heap.size + 1 + 1)
 so : SoAt u z (some ⟨b5, 0, none⟩) (some ⟨b6, 0, none⟩) n1 c5 2 c6 0 0
 o1 : OutN u w.heap.size (some ⟨b5, 0, none⟩) b5 xs
 o2 : OutN u w.heap.size (some ⟨b6, 0, none⟩) b6 ys
 ne : b5 ≠ b6
 l5 : b5 < u.heap.size
 l6 : b6 < u.heap.size
 m5 : w.heap.size + 1 + 1 < b5
 m6 : w.heap.size + 1 + 1 < b6
 k5 : n1 ≤ c5
 k6 : 2 ≤ c6
 on : Below w.heap.size w u
theorem beg_fin {w u : World} (p s c l : Int) (st sk re fe ag : Bool) (p1 p2 : Option Addr) (pn1 pc1 pn2 pc2 : Nat) (pp : Int) {z b5 c5 b6 c6 n1 B1 B2 : Nat} {xs ys : List Int} (hp : PoAt u (w.heap.size + 1) p1 p2 pn1 pc1 pn2 pc2 pp) (hr : RuAt u w.heap.size p s c l st sk re fe ag) (hz : Zero16 u (w.heap.size + 1 + 1)) (ho : OnW w u) (hY : Z4 u z)
  (o1 : OutN u B1 (some ⟨b5, 0, none⟩) b5 xs) (o2 : OutN u B2 (some ⟨b6, 0, none⟩) b6 ys) (ne : b5 ≠ b6) (n5 : b5 ≠ z) (n6 : b6 ≠ z) (l5 : b5 < u.heap.size) (l6 : b6 < u.heap.size) (m5 : w.heap.size + 1 + 1 < b5) (m6 : w.heap.size + 1 + 1 < b6) (mz : w.heap.size + 1 + 1 < z) (hB1 : w.heap.size ≤ B1) (hB2 : w.heap.size ≤ B2) (k5 : n1 ≤ c5) (k6 : 2 ≤ c6) :
  BegF w p s c l st sk re fe ag p1 p2 pn1 pc1 pn2 pc2 pp z b5 c5 b6 c6 n1 xs ys ((((u.setCell ⟨z, 0, none⟩ (.slice (some ⟨b5, 0, none⟩) n1 c5)).setCell ⟨z, 1, none⟩ (.slice (some ⟨b6, 0, none⟩) 2 c6)).setCell ⟨z, 2, none⟩ (.int .i64 0)).setCell ⟨z, 3, none⟩ (.int .i64 0)) := by
 have hb := but4 z u (.slice (some ⟨b5, 0, none⟩) n1 c5) (.slice (some ⟨b6, 0, none⟩) 2 c6) (.int .i64 0) (.int .i64 0)
 obtain ⟨yl, y0, y1, y2, y3, k0, k1, k2, k3⟩ := hY
 exact ⟨hp.but hb (by omega), hr.but hb (by omega), hz.but hb (by omega), ⟨by simpa using yl, by go_simp, by go_simp, by go_simp, by go_simp⟩, (o1.but hb n5).lower hB1, (o2.but hb n6).lower hB2, ne, by simpa using l5, by simpa using l6, m5, m6, k5, k6, ho.set4 (by omega) _ _ _ _⟩
theorem beg_fin2 {w u : World} (p s c l : Int) (st sk re fe ag : Bool) (p1 p2 : Option Addr) (pn1 pc1 pn2 pc2 : Nat) (pp : Int) {b5 c5 b6 c6 n1 B1 B2 : Nat} {xs ys : List Int} (T : TypeId) (hp : PoAt u (w.heap.size + 1) p1 p2 pn1 pc1 pn2 pc2 pp) (hr : RuAt u w.heap.size p s c l st sk re fe ag) (hz : Zero16 u (w.heap.size + 1 + 1)) (ho : OnW w u)
  (o1 : OutN u B1 (some ⟨b5, 0, none⟩) b5 xs) (o2 : OutN u B2 (some ⟨b6, 0, none⟩) b6 ys) (ne : b5 ≠ b6) (l5 : b5 < u.heap.size) (l6 : b6 < u.heap.size) (m5 : w.heap.size + 1 + 1 < b5) (m6 : w.heap.size + 1 + 1 < b6) (hB1 : w.heap.size ≤ B1) (hB2 : w.heap.size ≤ B2) (k5 : n1 ≤ c5) (k6 : 2 ≤ c6) :
  BegF w p s c l st sk re fe ag p1 p2 pn1 pc1 pn2 pc2 pp u.heap.size b5 c5 b6 c6 n1 xs ys (u.alloc (.cells #[.slice (some ⟨b5, 0, none⟩) n1 c5, .slice (some ⟨b6, 0, none⟩) 2 c6, .int .i64 0, .int .i64 0] T)) :=
 ⟨hp.below (al1 _ _), hr.below (al1 _ _), hz.below (al1 _ _), so_new _ _ _ _ _ _ _ _ u T, (o1.below (al1 _ _)).lower hB1, (o2.below (al1 _ _)).lower hB2, ne, by simp; omega, by simp; omega, m5, m6, k5, k6, OnW.below ho (al1 _ _)⟩
def BegM (w : World) (p s c l : Int) (st sk re fe ag : Bool) (g o : Nat) (p2 : Option Addr) (pn1 pc1 pc2 : Nat) (pp : Int) (F : Nat) (move xv : Int) (xs ys : List Int) (e : Exit) (a : Act) (W : World) : Prop :=
 e = .normal ∧ ∃ z b5 c5 b6 c6, a = { tmps := #[.agg #[.int .i64 p, .int .i64 s, .bool st, .bool sk, .bool re, .bool fe, .bool ag, .int .i64 c, .int .i64 l], .agg #[.slice (some ⟨g, o, none⟩) pn1 pc1, .slice p2 2 pc2, .int .i64 pp], .int .i64 move, .pointer (some ⟨w.heap.size, 0, none⟩), .pointer (some ⟨w.heap.size + 1, 0, none⟩), undef, .pointer (some ⟨w.heap.size + 1 + 1, 0, none⟩), .int .i64 0, .int .i64 F, .int .i64 0, .pointer (some ⟨z, 0, none⟩), .agg #[.int .i64 p, .int .i64 s, .bool st, .bool sk, .bool re, .bool fe, .bool ag, .int .i64 c, .int .i64 l], .agg #[.slice (some ⟨g, o, none⟩) pn1 pc1, .slice p2 2 pc2, .int .i64 pp], .bool true, .bool false, undef, .tuple #[.int .i64 F, .int .i64 0], .agg #[.int .i64 p, .int .i64 s, .bool st, .bool sk, .bool re, .bool fe, .bool ag, .int .i64 c, .int .i64 l], .pointer (some ⟨w.heap.size + 1, 2, none⟩), .int .i64 pp, .int .i64 move, .tuple #[.int .i64 F, .int .i64 0], .int .i64 F, .int .i64 0, .int .i64 0, .bool false, undef, undef, .pointer (some ⟨w.heap.size + 1, 0, none⟩), .slice (some ⟨g, o, none⟩) pn1 pc1, .int .i64 F, .pointer (some ⟨g, o + F, none⟩), .int .i64 xv, .bool false, undef, .pointer (some ⟨w.heap.size + 1, 0, none⟩), .slice (some ⟨g, o, none⟩) pn1 pc1, .slice (some ⟨b5, 0, none⟩) pn1 c5, .pointer (some ⟨w.heap.size + 1, 1, none⟩), .slice p2 2 pc2, .slice (some ⟨b6, 0, none⟩) 2 c6, .agg #[.slice (some ⟨b5, 0, none⟩) pn1 c5, .slice (some ⟨b6, 0, none⟩) 2 c6, .int .i64 0, .int .i64 0], undef, undef, undef, undef, undef, undef], defers := [] } ∧ BegF w p s c l st sk re fe ag (some ⟨g, o, none⟩) p2 pn1 pc1 2 pc2 pp z b5 c5 b6 c6 pn1 xs ys W
theorem begin_yes (p s c l : Int) (st sk re fe ag : Bool) (p1 p2 : Option Addr) (pn1 pc1 pn2 pc2 : Nat) (pp : Int) (xs ys : List Int) (move : Int) (w : World) (h : PosR w p1 p2 pn1 pn2 xs ys) (hk : okP (okR p s c l st ag) p pn1 pn2 pp xs ys = true) (F : Nat) (hF : F < pn1) (hf : pp * p + move = F) (hm0 : 0 ≤ move) (hm1 : move < p) (he : xs.getD F 0 ≠ 0) :
  Calls Try.prog 88 #[.agg #[.int .i64 p, .int .i64 s, .bool st, .bool sk, .bool re, .bool fe, .bool ag, .int .i64 c, .int .i64 l], .agg #[.slice p1 pn1 pc1, .slice p2 pn2 pc2, .int .i64 pp], .int .i64 move] w (BegY p s c l st sk re fe ag pp F pn1 xs ys w) := by
 have H := Lib.hid h
 have HS := Lib.hid (beg_new p s c l st sk re fe ag p1 p2 pn1 pc1 pn2 pc2 pp w 31 32 124)
 have Hk := Lib.hid hk
 have hok := okP_parts hk
 have hmc : moveC (okR p s c l st ag) p pp move = 0 := by
  rw [hok.1]
  simp only [moveC]
  rw [if_pos trivial, if_pos ⟨hok.2.2.2.1, hm0, hm1⟩]
 have Hm := Lib.hid hmc
 have Hv : Hid (movV 0 (pp * p + move) = F) := Lib.hid hf
 have hle1 : pn1 ≤ 1000000000000 := by have := h.r1.1; rwa [h.l1] at this
 have hle2 : pn2 ≤ 1000000000000 := by have := h.r2.1; rwa [h.l2] at this
 obtain ⟨xv, hxv⟩ : ∃ xv, xs.getD F 0 = xv := ⟨_, rfl⟩
 have hx : xs[F]? = some xv := by rw [← hxv]; exact getD_at (by rw [h.l1]; exact hF)
 have Hx := Lib.hid hx
 have hd : (xv == 0) = false := by rw [hxv] at he; simpa using he
 have p0 : (F : Int) < (pn1 : Int) := by omega
 have HN1 : Hid (xs ≠ []) := Lib.hid (by intro e; have := h.l1; subst e; simp at this; omega)
 have HN2 : Hid (ys ≠ []) := Lib.hid (by intro e; have := h.l2; have := hok.2.2.1; subst e; simp at *; omega)
 have hp2 : pn2 = 2 := hok.2.2.1
 subst hp2
 clear h hk hok hmc hf he hx hxv
 have hd0 := hd
 go_enter Try.func88, Try.ntmps88
 go_wp2_with fail
 refine (implValid_any p s c l st sk re fe ag p1 p2 pn1 pc1 2 pc2 pp xs ys _ (H.out.below HS.out.rp.2.2)).mono ?_
 rintro e u ⟨rfl, hb⟩
 rw [Hk.out]
 have HS := Lib.hid (HS.out.below hb)
 obtain ⟨_, g0, g1, g2, g3, g4, g5, g6, g7, g8⟩ := HS.out.rp.1
 obtain ⟨_, t0, t1, t2⟩ := HS.out.rp.2.1
 clear hb
 go_wp2_with fail
 refine (impl_pitof p s c l st sk re fe ag pp move _).mono ?_
 rintro e u2 ⟨rfl, hb2⟩
 rw [Hm.out, Hv.out]
 have HS := Lib.hid (HS.out.below hb2)
 clear hb2 g0 g1 g2 g3 g4 g5 g6 g7 g8 t0 t1 t2
 obtain ⟨_, t0, t1, t2⟩ := HS.out.rp.2.1
 obtain ⟨g, o, rfl, hc0⟩ := cell_of (H.out.below HS.out.rp.2.2).r1 Hx.out
 go_upto_region 8 with fail
 have HP := Lib.hid HS.out.rp.2.1
 have HU := Lib.hid HS.out.rp.1
 have HB := Lib.hid (show OnW w u2 from HS.out.rp.2.2)
 have HZ := Lib.hid HS.out.z
 have nz0 := HP.out.1
 have nb0 := HB.out.size
 clear HS t0 t1 t2 hc0
 have HT : Hid (∀ u : World, PoAt u (w.heap.size + 1) (some ⟨g, o, none⟩) p2 pn1 pc1 2 pc2 pp → OnW w u → (w.heap.size + 1 < u.heap.size ∧ u.cell? ⟨w.heap.size + 1, 0, none⟩ = some (.slice (some ⟨g, o, none⟩) pn1 pc1) ∧ u.cell? ⟨w.heap.size + 1, 1, none⟩ = some (.slice p2 2 pc2) ∧ u.cell? ⟨w.heap.size + 1, 2, none⟩ = some (.int .i64 pp)) ∧ Below w.heap.size w u) := Lib.hid (fun u h k => ⟨h, k⟩)
 refine wp_mono (Q := BegM w p s c l st sk re fe ag g o p2 pn1 pc1 pc2 pp F move xv xs ys) ?_ ?_
 rotate_left
 ·clear HP HU HB HZ HT
  rintro e a7 W7 ⟨rfl, z, b5, c5, b6, c6, rfl, hF⟩
  have HF := Lib.hid hF
  obtain ⟨_, t0, t1, t2⟩ := hF.po
  obtain ⟨_, g0, g1, g2, g3, g4, g5, g6, g7, g8⟩ := hF.ru
  obtain ⟨_, s0, s1, s2, s3⟩ := hF.so
  obtain ⟨zl, z0, z1, z2, z3, z4, z5, z6, z7, z8, z9, z10, z11, z12, z13, z14, z15, zf⟩ := hF.zr
  have f0 := zf 0
  have f1 := zf 1
  have f2 := zf 2
  have f3 := zf 3
  have f4 := zf 4
  have f5 := zf 5
  have f6 := zf 6
  have f7 := zf 7
  have f8 := zf 8
  have f9 := zf 9
  have f10 := zf 10
  have f11 := zf 11
  have f12 := zf 12
  have f13 := zf 13
  have f14 := zf 14
  have f15 := zf 15
  have mm5 : b5 ≠ w.heap.size + 1 + 1 := by have := hF.m5; omega
  have mm6 : b6 ≠ w.heap.size + 1 + 1 := by have := hF.m6; omega
  clear hF zf
  go_wp2_with fail
  refine bodyPost_ret (v := .tuple #[.agg #[.int .i64 p, .int .i64 s, .bool st, .bool sk, .bool re, .bool fe, .bool ag, .int .i64 c, .int .i64 l, .int .i64 pp, .int .i64 F, .int .i64 0, .slice (some ⟨b5, 0, none⟩) pn1 c5, .slice (some ⟨b6, 0, none⟩) 2 c6, .int .i64 0, .int .i64 0], .int .i64 0]) (by simp [results, Try.results88, go_sem, z0, z1, z2, z3, z4, z5, z6, z7, z8, z9, z10, z11, z12, z13, z14, z15]) rfl ?_
  exact ⟨b5, c5, b6, c6, rfl, HF.out.o1.but (but16 _ _ _ _ _ _ _ _ _ _ _ _ _ _ _ _ _ _) mm5, HF.out.o2.but (but16 _ _ _ _ _ _ _ _ _ _ _ _ _ _ _ _ _ _) mm6, HF.out.ne, by simpa using HF.out.l5, by simpa using HF.out.l6, HF.out.k5, HF.out.k6, below16 HF.out.on (by omega) _ _ _ _ _ _ _ _ _ _ _ _ _ _ _ _⟩
 go_region_held3 (fun u => (w.heap.size + 1 < u.heap.size ∧ u.cell? ⟨w.heap.size + 1, 0, none⟩ = some (.slice (some ⟨g, o, none⟩) pn1 pc1) ∧ u.cell? ⟨w.heap.size + 1, 1, none⟩ = some (.slice p2 2 pc2) ∧ u.cell? ⟨w.heap.size + 1, 2, none⟩ = some (.int .i64 pp)) ∧ Below w.heap.size w u) (first | with_reducible exact HT.out _ HP.out HB.out | with_reducible exact HT.out _ HP.out.drew HB.out.drew | with_reducible exact HT.out _ (HP.out.below (al1 _ _)) (HB.out.below (al1 _ _)) | with_reducible exact HT.out _ (HP.out.drew.below (al1 _ _)) (HB.out.drew.below (al1 _ _)) | with_reducible exact HT.out _ (HP.out.below (al1 _ _)).drew (HB.out.below (al1 _ _)).drew | with_reducible exact HT.out _ (HP.out.set4 (by omega) _ _ _ _) (HB.out.set4 (by omega) _ _ _ _) | with_reducible exact HT.out _ ((HP.out.below (al1 _ _)).set4 (by omega) _ _ _ _) ((HB.out.below (al1 _ _)).set4 (by omega) _ _ _ _))
  (first
  | (go_at_call 67; (with_reducible refine (clone_any (some ⟨g, o, none⟩) pc1 pn1 xs _ H.out.l1 ?_ HN1.out).mono ?_); (first | with_reducible exact H.out.r1.below (HB.out).bel | with_reducible exact H.out.r1.below (HB.out.drew).bel | with_reducible exact H.out.r1.below (HB.out.below (al1 _ _)).bel | with_reducible exact H.out.r1.below (HB.out.drew.below (al1 _ _)).bel | with_reducible exact H.out.r1.below ((HB.out.below (al1 _ _)).drew).bel); rintro e w5 ⟨v1, rfl, hown, hb5⟩; (obtain ⟨c5, b5, rfl, o5, hlt5, hc5⟩ := outN_own hown H.out.l1 hle1 HN1.out); have O1 := Lib.hid o5; have nb1 := o5.new; have nz1 := HZ.out.lt; (first | have HY := Lib.hid ((z4_new u2 75).drew.below hb5) | have HY := Lib.hid ((z4_new u2.drew 75).below hb5) | have HY := Lib.hid ((z4_new u2 75).below hb5) | skip); (first | have HP := Lib.hid (HP.out.below hb5) | have HP := Lib.hid (HP.out.drew.below hb5) | have HP := Lib.hid ((HP.out.below (al1 _ _)).below hb5) | have HP := Lib.hid ((HP.out.below (al1 _ _)).drew.below hb5)); (first | have HU := Lib.hid (HU.out.below hb5) | have HU := Lib.hid (HU.out.drew.below hb5) | have HU := Lib.hid ((HU.out.below (al1 _ _)).below hb5) | have HU := Lib.hid ((HU.out.below (al1 _ _)).drew.below hb5)); (first | have HB := Lib.hid (HB.out.below hb5) | have HB := Lib.hid (HB.out.drew.below hb5) | have HB := Lib.hid ((HB.out.below (al1 _ _)).below hb5) | have HB := Lib.hid ((HB.out.below (al1 _ _)).drew.below hb5)); (first | have HZ := Lib.hid (HZ.out.below hb5) | have HZ := Lib.hid (HZ.out.drew.below hb5) | have HZ := Lib.hid ((HZ.out.below (al1 _ _)).below hb5) | have HZ := Lib.hid ((HZ.out.below (al1 _ _)).drew.below hb5)); have nz5 := HP.out.1; have nb5 := HB.out.size; clear hown hb5 o5)
  | (go_at_call 67; (with_reducible refine (clone_any p2 pc2 2 ys _ H.out.l2 ?_ HN2.out).mono ?_); (first | with_reducible exact H.out.r2.below (HB.out).bel | with_reducible exact H.out.r2.below (HB.out.drew).bel | with_reducible exact H.out.r2.below (HB.out.below (al1 _ _)).bel | with_reducible exact H.out.r2.below (HB.out.drew.below (al1 _ _)).bel | with_reducible exact H.out.r2.below ((HB.out.below (al1 _ _)).drew).bel); rintro e w6 ⟨v2, rfl, hown, hb6⟩; (obtain ⟨c6, b6, rfl, o6, hlt6, hc6⟩ := outN_own hown H.out.l2 hle2 HN2.out); have O2 := Lib.hid o6; have nb2 := o6.new; have nz2 := HZ.out.lt; (first | have HY := Lib.hid (HY.out.below hb6) | have HY := Lib.hid (HY.out.drew.below hb6) | have HY := Lib.hid ((z4_new w5 75).below hb6) | have HY := Lib.hid ((z4_new w5 75).drew.below hb6) | have HY := Lib.hid ((z4_new w5.drew 75).below hb6) | skip); (try obtain ⟨yz, y0, y1, y2, y3, k0, k1, k2, k3⟩ := HY.out); (first | have HP := Lib.hid (HP.out.below hb6) | have HP := Lib.hid (HP.out.drew.below hb6) | have HP := Lib.hid ((HP.out.below (al1 _ _)).below hb6) | have HP := Lib.hid ((HP.out.below (al1 _ _)).drew.below hb6)); (first | have HU := Lib.hid (HU.out.below hb6) | have HU := Lib.hid (HU.out.drew.below hb6) | have HU := Lib.hid ((HU.out.below (al1 _ _)).below hb6) | have HU := Lib.hid ((HU.out.below (al1 _ _)).drew.below hb6)); (first | have HB := Lib.hid (HB.out.below hb6) | have HB := Lib.hid (HB.out.drew.below hb6) | have HB := Lib.hid ((HB.out.below (al1 _ _)).below hb6) | have HB := Lib.hid ((HB.out.below (al1 _ _)).drew.below hb6)); (first | have HZ := Lib.hid (HZ.out.below hb6) | have HZ := Lib.hid (HZ.out.drew.below hb6) | have HZ := Lib.hid ((HZ.out.below (al1 _ _)).below hb6) | have HZ := Lib.hid ((HZ.out.below (al1 _ _)).drew.below hb6)); (first | have O1 := Lib.hid (O1.out.below hb6) | have O1 := Lib.hid (O1.out.drew.below hb6) | have O1 := Lib.hid ((O1.out.below (al1 _ _)).below hb6) | have O1 := Lib.hid ((O1.out.below (al1 _ _)).drew.below hb6)); have nz6 := HP.out.1; have nb6 := HB.out.size; clear hown hb6 o6))
 all_goals
  (try simp at nb1)
  (try simp at nb2)
  first
  | with_reducible exact ⟨rfl, _, _, _, _, _, rfl, beg_fin _ _ _ _ _ _ _ _ _ _ _ _ _ _ _ _ HP.out HU.out HZ.out HB.out HY.out O1.out O2.out (by omega) (by omega) (by omega) (by omega) (by omega) (by omega) (by omega) (by omega) (by (try simp); omega) (by (try simp); omega) hc5 hc6⟩
  | with_reducible exact ⟨rfl, _, _, _, _, _, rfl, beg_fin2 _ _ _ _ _ _ _ _ _ _ _ _ _ _ _ _ _ HP.out HU.out HZ.out HB.out O1.out O2.out (by omega) (by omega) (by omega) (by omega) (by omega) (by (try simp); omega) (by (try simp); omega) hc5 hc6⟩
  | exact ⟨rfl, _, _, _, _, _, rfl, beg_fin _ _ _ _ _ _ _ _ _ _ _ _ _ _ _ _ HP.out HU.out HZ.out HB.out HY.out O1.out O2.out (by omega) (by omega) (by omega) (by omega) (by omega) (by omega) (by omega) (by omega) (by (try simp); omega) (by (try simp); omega) hc5 hc6⟩
  | exact ⟨rfl, _, _, _, _, _, rfl, beg_fin2 _ _ _ _ _ _ _ _ _ _ _ _ _ _ _ _ _ HP.out HU.out HZ.out HB.out O1.out O2.out (by omega) (by omega) (by omega) (by omega) (by omega) (by (try simp); omega) (by (try simp); omega) hc5 hc6⟩
/- Sow5S -/
def SwQ (n1 : Nat) (MV : Option Res) (w : World) (e : Ending) (w' : World) : Prop :=
 match MV with
 | none => e = .returned (.tuple #[.agg #[.slice none 0 0, .slice none 0 0, .int .i64 0, .int .i64 0], .slice none 0 0, .bool false]) ∧ Below w.heap.size w w'
 | some m => ∃ b1 c1 b2 c2 v, e = .returned (.tuple #[.agg #[.slice (some ⟨b1, 0, none⟩) n1 c1, .slice (some ⟨b2, 0, none⟩) 2 c2, .int .i64 m.last, .int .i64 m.laps], v, .bool true]) ∧
   PosO w' w.heap.size (some ⟨b1, 0, none⟩) (some ⟨b2, 0, none⟩) b1 b2 n1 2 m.xs m.ys ∧ b1 < w'.heap.size ∧ b2 < w'.heap.size ∧ n1 ≤ c1 ∧ 2 ≤ c2 ∧ w'.ownsRow w.heap.size 2 1 v m.path.length (nvs m.path) ∧ Below w.heap.size w w'
structure SowF (w : World) (p s c l : Int) (st sk re fe ag : Bool) (p1 p2 : Option Addr) (pn1 pc1 pn2 pc2 : Nat) (pp : Int) (rb pb s0 b5 c5 b6 c6 : Nat) (xs ys : List Int) (u : World) : Prop where
 po : PoAt u pb p1 p2 pn1 pc1 pn2 pc2 pp
 ru : RuAt u rb p s c l st sk re fe ag
 so : SoS u w.heap.size s0 b5 c5 b6 c6 pn1 0 0 xs ys
 l5 : b5 < u.heap.size
 l6 : b6 < u.heap.size
 k5 : pn1 ≤ c5
 k6 : 2 ≤ c6
 ms : w.heap.size ≤ s0
 on : Below w.heap.size w u
def NF (u : World) (z : Nat) : Prop := z < u.heap.size ∧ ∀ o, u.frozen? ⟨z, o, none⟩ = false
theorem NF.below {u v : World} {z : Nat} (h : NF u z) (k : Below u.heap.size u v) : NF v z := ⟨Nat.lt_of_lt_of_le h.1 k.size, fun o => (k.frozen (p := ⟨z, o, none⟩) h.1).trans (h.2 o)⟩
theorem NF.drew {u : World} {z : Nat} (h : NF u z) : NF u.drew z := h
theorem nf_new (u : World) (xs : Array Value) (T : TypeId) : NF (u.alloc (.cells xs T)) u.heap.size := ⟨by simp, fun o => by go_simp⟩
theorem sow_fin {w u : World} (p s c l : Int) (st sk re fe ag : Bool) (p1 p2 : Option Addr) (pn1 pc1 pn2 pc2 : Nat) (pp : Int) {rb pb s0 b5 c5 b6 c6 B1 B2 : Nat} {xs ys : List Int} (hp : PoAt u pb p1 p2 pn1 pc1 pn2 pc2 pp) (hr : RuAt u rb p s c l st sk re fe ag) (ho : OnW w u) (hY : Z4 u s0) (hf : ∀ o, u.frozen? ⟨s0, o, none⟩ = false)
  (o1 : OutN u B1 (some ⟨b5, 0, none⟩) b5 xs) (o2 : OutN u B2 (some ⟨b6, 0, none⟩) b6 ys) (l1 : xs.length = pn1) (l2 : ys.length = 2) (ne : b5 ≠ b6) (n5 : b5 ≠ s0) (n6 : b6 ≠ s0) (l5 : b5 < u.heap.size) (l6 : b6 < u.heap.size) (mp : pb ≠ s0) (mr : rb ≠ s0) (ms : w.heap.size ≤ s0) (hB1 : w.heap.size ≤ B1) (hB2 : w.heap.size ≤ B2) (k5 : pn1 ≤ c5) (k6 : 2 ≤ c6) :
  SowF w p s c l st sk re fe ag p1 p2 pn1 pc1 pn2 pc2 pp rb pb s0 b5 c5 b6 c6 xs ys ((((u.setCell ⟨s0, 0, none⟩ (.slice (some ⟨b5, 0, none⟩) pn1 c5)).setCell ⟨s0, 1, none⟩ (.slice (some ⟨b6, 0, none⟩) 2 c6)).setCell ⟨s0, 2, none⟩ (.int .i64 0)).setCell ⟨s0, 3, none⟩ (.int .i64 0)) := by
 have hb := but4 s0 u (.slice (some ⟨b5, 0, none⟩) pn1 c5) (.slice (some ⟨b6, 0, none⟩) 2 c6) (.int .i64 0) (.int .i64 0)
 obtain ⟨yl, y0, y1, y2, y3, f0, f1, f2, f3⟩ := hY
 exact ⟨hp.but hb mp, hr.but hb mr, ⟨⟨by simpa using yl, by go_simp, by go_simp, by go_simp, by go_simp⟩, fun o => by have := hf o; go_simp, (o1.but hb n5).lower hB1, (o2.but hb n6).lower hB2, l1, l2, fun e => n5 e.symm, fun e => n6 e.symm, ne⟩, by simpa using l5, by simpa using l6, k5, k6, ms, ho.set4 (by omega) _ _ _ _⟩
theorem sow_fin2 {w u : World} (p s c l : Int) (st sk re fe ag : Bool) (p1 p2 : Option Addr) (pn1 pc1 pn2 pc2 : Nat) (pp : Int) {rb pb b5 c5 b6 c6 B1 B2 : Nat} {xs ys : List Int} (T : TypeId) (hp : PoAt u pb p1 p2 pn1 pc1 pn2 pc2 pp) (hr : RuAt u rb p s c l st sk re fe ag) (ho : OnW w u)
  (o1 : OutN u B1 (some ⟨b5, 0, none⟩) b5 xs) (o2 : OutN u B2 (some ⟨b6, 0, none⟩) b6 ys) (l1 : xs.length = pn1) (l2 : ys.length = 2) (ne : b5 ≠ b6) (l5 : b5 < u.heap.size) (l6 : b6 < u.heap.size) (hB1 : w.heap.size ≤ B1) (hB2 : w.heap.size ≤ B2) (k5 : pn1 ≤ c5) (k6 : 2 ≤ c6) :
  SowF w p s c l st sk re fe ag p1 p2 pn1 pc1 pn2 pc2 pp rb pb u.heap.size b5 c5 b6 c6 xs ys (u.alloc (.cells #[.slice (some ⟨b5, 0, none⟩) pn1 c5, .slice (some ⟨b6, 0, none⟩) 2 c6, .int .i64 0, .int .i64 0] T)) :=
 ⟨hp.below (al1 _ _), hr.below (al1 _ _), ⟨so_new _ _ _ _ _ _ _ _ u T, fun o => by go_simp, (o1.below (al1 _ _)).lower hB1, (o2.below (al1 _ _)).lower hB2, l1, l2, by omega, by omega, ne⟩, by simp; omega, by simp; omega, k5, k6, Below.size ho, OnW.below ho (al1 _ _)⟩
structure SwJ (u2 : World) (R : Rl) (p s c l : Int) (st sk re fe ag : Bool) (t : Int) (MV : Option Res) (rb s0 b5 c5 b6 c6 n1 n0 : Nat) (j : Nat) (xs ys : List Int) (f : Int) (pth : List Int) (pv : Value) (wr : World) : Prop where
 lap : Lap R xs ys f t
 mv : mvF R (100 - j) xs ys f j pth = MV
 be : Below u2.heap.size u2 wr
 ru : RuAt wr rb p s c l st sk re fe ag
 so : SoS wr u2.heap.size s0 b5 c5 b6 c6 n1 (lst R xs f) ((j : Int) + 1) (cx R xs f (cnt xs f)) (cy R ys f (cnt xs f))
 row : wr.ownsRow n0 2 1 pv (pth.length + cnt xs f) (nvs (pth ++ lapP R f (cnt xs f)))
 pl : pth.length ≤ 96 * j
 sz : n0 ≤ wr.heap.size
theorem sow_yes {w u2 wr : World} {R : Rl} (p s c l : Int) (st sk re fe ag : Bool) {t : Int} {MV : Option Res} {rb s0 b5 c5 b6 c6 n1 n0 j : Nat} {xs ys : List Int} {f : Int} {pth : List Int} {pv : Value} (hw : Below w.heap.size w u2) (hwu : w.heap.size < u2.heap.size) (hn0 : u2.heap.size ≤ n0) (h : SwJ u2 R p s c l st sk re fe ag t MV rb s0 b5 c5 b6 c6 n1 n0 j xs ys f pth pv wr) (l5 : b5 < n0) (l6 : b6 < n0) (k5 : n1 ≤ c5) (k6 : 2 ≤ c6) (m5 : u2.heap.size ≤ b5) (m6 : u2.heap.size ≤ b6) :
  SwQ n1 (some ⟨cx R xs f (cnt xs f), cy R ys f (cnt xs f), lst R xs f, j + 1, pth ++ lapP R f (cnt xs f)⟩) w (.returned (.tuple #[.agg #[.slice (some ⟨b5, 0, none⟩) n1 c5, .slice (some ⟨b6, 0, none⟩) 2 c6, .int .i64 (lst R xs f), .int .i64 ((j : Int) + 1)], pv, .bool true]))
   ((((wr.setCell ⟨w.heap.size, 0, none⟩ (.slice (some ⟨b5, 0, none⟩) n1 c5)).setCell ⟨w.heap.size, 1, none⟩ (.slice (some ⟨b6, 0, none⟩) 2 c6)).setCell ⟨w.heap.size, 2, none⟩ (.int .i64 (lst R xs f))).setCell ⟨w.heap.size, 3, none⟩ (.int .i64 ((j : Int) + 1))) := by
 have hb := but4 w.heap.size wr (.slice (some ⟨b5, 0, none⟩) n1 c5) (.slice (some ⟨b6, 0, none⟩) 2 c6) (.int .i64 (lst R xs f)) (.int .i64 ((j : Int) + 1))
 have hsz := h.sz
 have hlen : (pth ++ lapP R f (cnt xs f)).length = pth.length + cnt xs f := by rw [List.length_append, lapP_len]
 have hbe : OnW w wr := Below.trans hw (h.be.mono (Nat.le_of_lt hwu))
 refine ⟨b5, c5, b6, c6, pv, rfl, ⟨(h.so.o1.but hb (by omega)).lower (by omega), (h.so.o2.but hb (by omega)).lower (by omega), h.so.d3, h.so.l1, h.so.l2⟩, by simp; omega, by simp; omega, k5, k6, ?_, hbe.set4 (Nat.le_refl _) _ _ _ _⟩
 show World.ownsRow _ _ _ _ pv (pth ++ lapP R f (cnt xs f)).length (nvs (pth ++ lapP R f (cnt xs f)))
 rw [hlen]
 exact own_lower (own_but h.row hb (by omega)) (by omega)
theorem specSow0 (p s c l : Int) (st sk re fe ag : Bool) (p1 p2 : Option Addr) (pn1 pc1 pc2 : Nat) (xs ys : List Int) (F rb pb : Nat) (w : World) (t : Int) (hr : RuAt w rb p s c l st sk re fe ag) (hq : PoAt w pb p1 p2 pn1 pc1 2 pc2 0) (h : PosR w p1 p2 pn1 2 xs ys) (hp : 2 ≤ p) (hp8 : p ≤ 8)
  (hL : Lap ⟨p, 0, st, sk, re⟩ xs ys F t) (MV : Option Res) (hMV : mvF ⟨p, 0, st, sk, re⟩ 100 xs ys F 0 [] = MV) :
  Calls Try.prog 83 #[.pointer (some ⟨rb, 0, none⟩), .pointer (some ⟨pb, 0, none⟩), .int .i64 F] w (SwQ pn1 MV w) := by
 have H := Lib.hid h
 have HL := Lib.hid hL
 have HMV := Lib.hid hMV
 have HN1 : Hid (xs ≠ []) := Lib.hid (by intro e; have := hL.brd.lx; subst e; simp at this; omega)
 have HN2 : Hid (ys ≠ []) := Lib.hid (by intro e; have := hL.brd.ly; subst e; simp at this)
 have hle1 : pn1 ≤ 1000000000000 := by have := h.r1.1; rwa [h.l1] at this
 have hle2 : 2 ≤ 1000000000000 := by omega
 have HP := Lib.hid (hq.below (al1 _ (.cells #[.slice none 0 0, .slice none 0 0, .int .i64 0, .int .i64 0] 75)))
 have HU := Lib.hid (hr.below (al1 _ (.cells #[.slice none 0 0, .slice none 0 0, .int .i64 0, .int .i64 0] 75)))
 have HW := Lib.hid (al1 w (.cells #[.slice none 0 0, .slice none 0 0, .int .i64 0, .int .i64 0] 75))
 have HZ := Lib.hid (z4_new w 75)
 have HNF := Lib.hid (nf_new w #[.slice none 0 0, .slice none 0 0, .int .i64 0, .int .i64 0] 75)
 have hrb : rb < w.heap.size := hr.1
 have hpb : pb < w.heap.size := hq.1
 clear h hL hMV hr hq
 go_enter Try.func83, Try.ntmps83
 go_upto_region 1 with fail
 generalize w.alloc (.cells #[.slice none 0 0, .slice none 0 0, .int .i64 0, .int .i64 0] 75) = u2 at *
 have H := Lib.hid (H.out.below HW.out)
 have hwu : w.heap.size < u2.heap.size := HZ.out.lt
 have HB := Lib.hid (show OnW u2 u2 from Below.refl _ _)
 have HT : Hid (∀ u : World, PoAt u pb p1 p2 pn1 pc1 2 pc2 0 → OnW u2 u → (pb < u.heap.size ∧ u.cell? ⟨pb, 0, none⟩ = some (.slice p1 pn1 pc1) ∧ u.cell? ⟨pb, 1, none⟩ = some (.slice p2 2 pc2) ∧ u.cell? ⟨pb, 2, none⟩ = some (.int .i64 0)) ∧ Below u2.heap.size u2 u) := Lib.hid (fun u h k => ⟨h, k⟩)
 go_cut [9] (fun s9 wx => ∃ s0 b5 c5 b6 c6 : Nat, s9 = .pointer (some ⟨s0, 0, none⟩) ∧ SowF u2 p s c l st sk re fe ag p1 p2 pn1 pc1 2 pc2 0 rb pb s0 b5 c5 b6 c6 xs ys wx)
 case first =>
  go_region_held3 (fun u => (pb < u.heap.size ∧ u.cell? ⟨pb, 0, none⟩ = some (.slice p1 pn1 pc1) ∧ u.cell? ⟨pb, 1, none⟩ = some (.slice p2 2 pc2) ∧ u.cell? ⟨pb, 2, none⟩ = some (.int .i64 0)) ∧ Below u2.heap.size u2 u) (first | with_reducible exact HT.out _ HP.out HB.out | with_reducible exact HT.out _ HP.out.drew HB.out.drew | with_reducible exact HT.out _ (HP.out.below (al1 _ _)) (HB.out.below (al1 _ _)) | with_reducible exact HT.out _ (HP.out.drew.below (al1 _ _)) (HB.out.drew.below (al1 _ _)) | with_reducible exact HT.out _ (HP.out.below (al1 _ _)).drew (HB.out.below (al1 _ _)).drew | with_reducible exact HT.out _ (HP.out.set4 (by omega) _ _ _ _) (HB.out.set4 (by omega) _ _ _ _) | with_reducible exact HT.out _ ((HP.out.below (al1 _ _)).set4 (by omega) _ _ _ _) ((HB.out.below (al1 _ _)).set4 (by omega) _ _ _ _))
   (first
   | (go_at_call 65; (with_reducible refine (l00Own_any p1 pc1 pn1 xs _ H.out.l1 ?_ HN1.out).mono ?_); (first | with_reducible exact H.out.r1.below (HB.out).bel | with_reducible exact H.out.r1.below (HB.out.drew).bel | with_reducible exact H.out.r1.below (HB.out.below (al1 _ _)).bel | with_reducible exact H.out.r1.below (HB.out.drew.below (al1 _ _)).bel | with_reducible exact H.out.r1.below ((HB.out.below (al1 _ _)).drew).bel); rintro e w5 ⟨v1, rfl, hown, hb5⟩; (obtain ⟨c5, b5, rfl, o5, hlt5, hc5⟩ := outN_own hown H.out.l1 hle1 HN1.out); have O1 := Lib.hid o5; have nb1 := o5.new; (first | have HY := Lib.hid ((z4_new u2 75).drew.below hb5) | have HY := Lib.hid ((z4_new u2.drew 75).below hb5) | have HY := Lib.hid ((z4_new u2 75).below hb5) | skip); (first | have HG := Lib.hid ((nf_new u2 _ 75).drew.below hb5) | have HG := Lib.hid ((nf_new u2.drew _ 75).below hb5) | have HG := Lib.hid ((nf_new u2 _ 75).below hb5) | skip); (first | have HP := Lib.hid (HP.out.below hb5) | have HP := Lib.hid (HP.out.drew.below hb5) | have HP := Lib.hid ((HP.out.below (al1 _ _)).below hb5) | have HP := Lib.hid ((HP.out.below (al1 _ _)).drew.below hb5)); (first | have HU := Lib.hid (HU.out.below hb5) | have HU := Lib.hid (HU.out.drew.below hb5) | have HU := Lib.hid ((HU.out.below (al1 _ _)).below hb5) | have HU := Lib.hid ((HU.out.below (al1 _ _)).drew.below hb5)); (first | have HB := Lib.hid (HB.out.below hb5) | have HB := Lib.hid (HB.out.drew.below hb5) | have HB := Lib.hid ((HB.out.below (al1 _ _)).below hb5) | have HB := Lib.hid ((HB.out.below (al1 _ _)).drew.below hb5)); have nz5 := HP.out.1; have nb5 := HB.out.size; clear hown hb5 o5)
   | (go_at_call 65; (with_reducible refine (l00Own_any p2 pc2 2 ys _ H.out.l2 ?_ HN2.out).mono ?_); (first | with_reducible exact H.out.r2.below (HB.out).bel | with_reducible exact H.out.r2.below (HB.out.drew).bel | with_reducible exact H.out.r2.below (HB.out.below (al1 _ _)).bel | with_reducible exact H.out.r2.below (HB.out.drew.below (al1 _ _)).bel | with_reducible exact H.out.r2.below ((HB.out.below (al1 _ _)).drew).bel); rintro e w6 ⟨v2, rfl, hown, hb6⟩; (obtain ⟨c6, b6, rfl, o6, hlt6, hc6⟩ := outN_own hown H.out.l2 hle2 HN2.out); have O2 := Lib.hid o6; have nb2 := o6.new; (first | have HY := Lib.hid (HY.out.below hb6) | have HY := Lib.hid (HY.out.drew.below hb6) | have HY := Lib.hid ((z4_new w5 75).below hb6) | have HY := Lib.hid ((z4_new w5 75).drew.below hb6) | have HY := Lib.hid ((z4_new w5.drew 75).below hb6) | skip); (first | have HG := Lib.hid (HG.out.below hb6) | have HG := Lib.hid (HG.out.drew.below hb6) | have HG := Lib.hid ((nf_new w5 _ 75).below hb6) | have HG := Lib.hid ((nf_new w5 _ 75).drew.below hb6) | have HG := Lib.hid ((nf_new w5.drew _ 75).below hb6) | skip); (try obtain ⟨yz, y0, y1, y2, y3, k0, k1, k2, k3⟩ := HY.out); (first | have HP := Lib.hid (HP.out.below hb6) | have HP := Lib.hid (HP.out.drew.below hb6) | have HP := Lib.hid ((HP.out.below (al1 _ _)).below hb6) | have HP := Lib.hid ((HP.out.below (al1 _ _)).drew.below hb6)); (first | have HU := Lib.hid (HU.out.below hb6) | have HU := Lib.hid (HU.out.drew.below hb6) | have HU := Lib.hid ((HU.out.below (al1 _ _)).below hb6) | have HU := Lib.hid ((HU.out.below (al1 _ _)).drew.below hb6)); (first | have HB := Lib.hid (HB.out.below hb6) | have HB := Lib.hid (HB.out.drew.below hb6) | have HB := Lib.hid ((HB.out.below (al1 _ _)).below hb6) | have HB := Lib.hid ((HB.out.below (al1 _ _)).drew.below hb6)); (first | have O1 := Lib.hid (O1.out.below hb6) | have O1 := Lib.hid (O1.out.drew.below hb6) | have O1 := Lib.hid ((O1.out.below (al1 _ _)).below hb6) | have O1 := Lib.hid ((O1.out.below (al1 _ _)).drew.below hb6)); have nz6 := HP.out.1; have nb6 := HB.out.size; clear hown hb6 o6))
  all_goals (try simp at nb1)
  all_goals (try simp at nb2)
  all_goals go_wp2_with fail
  all_goals go_meet
  all_goals have hl5 := (O1.out.free HN1.out).1
  all_goals have hb5' := HB.out.size
  all_goals first
   | exact ⟨_, _, _, _, _, rfl, sow_fin2 p s c l st sk re fe ag p1 p2 pn1 pc1 2 pc2 0 75 HP.out HU.out HB.out O1.out O2.out H.out.l1 H.out.l2 (by omega) hl5 hlt6 (by first | omega | (simp; done) | (simp; omega)) (by first | omega | (simp; done) | (simp; omega)) hc5 hc6⟩
   | exact ⟨_, _, _, _, _, rfl, sow_fin p s c l st sk re fe ag p1 p2 pn1 pc1 2 pc2 0 HP.out HU.out HB.out HY.out HG.out.2 O1.out O2.out H.out.l1 H.out.l2 (by omega) (by omega) (by omega) hl5 hlt6 (by omega) (by omega) (by omega) (by first | omega | (simp; done) | (simp; omega)) (by first | omega | (simp; done) | (simp; omega)) hc5 hc6⟩
 case rest =>
  obtain ⟨s0, b5, c5, b6, c6, rfl, hF⟩ := hcut
  have HF := Lib.hid hF
  obtain ⟨_, t0, t1, t2⟩ := hF.po
  clear hF HU HB HT
  go_wp2_with fail
  have HFb := Lib.hid (show RuAt _ rb p s c l st sk re fe ag ∧ SoS _ u2.heap.size s0 b5 c5 b6 c6 pn1 0 0 xs ys ∧ Below u2.heap.size u2 _ from ⟨HF.out.ru.below (al1 wc (.cells #[] 2)), HF.out.so.below (al1 wc (.cells #[] 2)), OnW.below (show OnW u2 wc from HF.out.on) (al1 wc (.cells #[] 2))⟩)
  have hl5 := HF.out.l5
  have hl6 := HF.out.l6
  have hms := HF.out.ms
  have hs0 := HF.out.so.so.1
  have hn5 := HF.out.so.o1.new
  have hn6 := HF.out.so.o2.new
  have hwc : u2.heap.size ≤ wc.heap.size := Below.size HF.out.on
  have hrow0 := World.ownsRow_made (e := 2) (size := 1) wc #[] 0 (Nat.le_refl _) (by decide) rfl
  have HLap : Hid (Calls Try.prog 97 #[.pointer (some ⟨rb, 0, none⟩), .pointer (some ⟨s0, 0, none⟩), .int .i64 0, .int .i64 (F : Int), .slice (some ⟨wc.heap.size, 0, none⟩) 0 0] (wc.alloc (.cells #[] 2)) (LapD u2 (wc.alloc (.cells #[] 2)) ⟨p, 0, st, sk, re⟩ (fun u => RuAt u rb p s c l st sk re fe ag) s0 b5 c5 b6 c6 pn1 wc.heap.size 0 F xs ys [])) := Lib.hid
   (specLap0 u2 (wc.alloc (.cells #[] 2)) ⟨p, 0, st, sk, re⟩ p s c l st sk re fe ag rfl t rb s0 b5 c5 b6 c6 pn1 wc.heap.size 0 0 F xs ys [] _ hp hp8 HL.out HFb.out.2.2 HFb.out.1 HFb.out.2.1 hrow0 (by simp) hwc (by omega) hs0 hl5 hl6 (by omega) (by omega) (by omega) (by omega) (by omega) (by simp) hms)
  refine HLap.out.mono ?_
  rintro e w3 ⟨v3, rfl, hb3, hr3, hs3, hrow3, hsz3⟩
  have HJ : Hid (SwJ u2 ⟨p, 0, st, sk, re⟩ p s c l st sk re fe ag t MV rb s0 b5 c5 b6 c6 pn1 wc.heap.size 0 xs ys F [] v3 w3) := Lib.hid ⟨HL.out, HMV.out, hb3, hr3, hs3, hrow3, by simp, Nat.le_trans (by simp) hsz3⟩
  clear hb3 hr3 hs3 hrow3 hsz3 hrow0 t0 t1 t2 HLap HFb
  go_wp2_with fail
  have hR : Rl.Fit ⟨p, 0, st, sk, re⟩ := ⟨hp, hp8, by simp⟩
  have HRf := Lib.hid hR
  have hk5 := HF.out.k5
  have hk6 := HF.out.k6
  clear hR HMV HL
  go_loopg [10] 100 (fun q pv wr => ∃ (j : Nat) (xs' ys' : List Int) (f' : Int) (pth : List Int), q = 100 - j ∧ j < 100 ∧ SwJ u2 ⟨p, 0, st, sk, re⟩ p s c l st sk re fe ag t MV rb s0 b5 c5 b6 c6 pn1 wc.heap.size j xs' ys' f' pth pv wr)
  case atStart => exact ⟨0, xs, ys, F, [], rfl, by omega, HJ.out⟩
  case round =>
   obtain ⟨j, xs', ys', f', pth, rfl, hj, hJ⟩ := hrel
   have HJ := Lib.hid hJ
   have hlb := hJ.lap.at_bd HRf.out (cnt xs' f' - 1)
   have hl1 := hJ.so.l1
   obtain ⟨_, r0, r1, r2, r3, r4, r5, r6, r7, r8⟩ := hJ.ru
   obtain ⟨_, k0, k1, k2, k3⟩ := hJ.so.so
   have hnum := hJ.lap.brd.lx
   clear hJ
   rcases re with _ | _
   ·have ha : agn ⟨p, 0, st, sk, false⟩ xs' f' = false := rfl
    clear hlb hnum hl1
    have hmv : MV = some ⟨cx ⟨p, 0, st, sk, false⟩ xs' f' (cnt xs' f'), cy ⟨p, 0, st, sk, false⟩ ys' f' (cnt xs' f'), lst ⟨p, 0, st, sk, false⟩ xs' f', j + 1, pth ++ lapP ⟨p, 0, st, sk, false⟩ f' (cnt xs' f')⟩ := by rw [← HJ.out.mv, show 100 - j = (99 - j) + 1 by omega, mvF_no ha]
    have Hmv := Lib.hid hmv
    clear hmv ha
    obtain ⟨zl, z0, z1, z2, z3, y0, y1, y2, y3⟩ := HZ.out.below HJ.out.be
    go_wp2_with fail
    rw [Hmv.out]
    refine bodyPost_ret (v := .tuple #[.agg #[.slice (some ⟨b5, 0, none⟩) pn1 c5, .slice (some ⟨b6, 0, none⟩) 2 c6, .int .i64 (lst ⟨p, 0, st, sk, false⟩ xs' f'), .int .i64 ((j : Int) + 1)], u10, .bool true]) (by simp [results, Try.results83, go_sem, z0, z1, z2, z3]) rfl (sow_yes p s c l st sk false fe ag HW.out hwu hwc HJ.out hl5 hl6 hk5 hk6 hn5 hn6)
   ·have hlst : lst ⟨p, 0, st, sk, true⟩ xs' f' = Rl.at ⟨p, 0, st, sk, true⟩ f' (cnt xs' f' - 1) := rfl
    rw [← hlst] at hlb
    by_cases hneg : lst ⟨p, 0, st, sk, true⟩ xs' f' = -1
    ·have ha : agn ⟨p, 0, st, sk, true⟩ xs' f' = false := by unfold agn; rw [hneg]; simp
     have tn : ¬ 0 ≤ lst ⟨p, 0, st, sk, true⟩ xs' f' := by omega
     clear hlb hnum hl1 hlst hneg
     have hmv : MV = some ⟨cx ⟨p, 0, st, sk, true⟩ xs' f' (cnt xs' f'), cy ⟨p, 0, st, sk, true⟩ ys' f' (cnt xs' f'), lst ⟨p, 0, st, sk, true⟩ xs' f', j + 1, pth ++ lapP ⟨p, 0, st, sk, true⟩ f' (cnt xs' f')⟩ := by rw [← HJ.out.mv, show 100 - j = (99 - j) + 1 by omega, mvF_no ha]
     have Hmv := Lib.hid hmv
     clear hmv ha
     obtain ⟨zl, z0, z1, z2, z3, y0, y1, y2, y3⟩ := HZ.out.below HJ.out.be
     go_wp2_with fail
     rw [Hmv.out]
     refine bodyPost_ret (v := .tuple #[.agg #[.slice (some ⟨b5, 0, none⟩) pn1 c5, .slice (some ⟨b6, 0, none⟩) 2 c6, .int .i64 (lst ⟨p, 0, st, sk, true⟩ xs' f'), .int .i64 ((j : Int) + 1)], u10, .bool true]) (by simp [results, Try.results83, go_sem, z0, z1, z2, z3]) rfl (sow_yes p s c l st sk true fe ag HW.out hwu hwc HJ.out hl5 hl6 hk5 hk6 hn5 hn6)
    ·obtain ⟨K, hK⟩ : ∃ K : Nat, lst ⟨p, 0, st, sk, true⟩ xs' f' = (K : Int) := ⟨(lst ⟨p, 0, st, sk, true⟩ xs' f').toNat, by omega⟩
     have hdone := (HJ.out.lap.done HRf.out).lx
     have hKn : K < pn1 := by
      have h1 := hlb.2
      have h2 := HJ.out.so.l1
      rw [hK] at h1
      omega
     obtain ⟨y1, y2, y3⟩ := HJ.out.so.x hKn
     have hag : agn ⟨p, 0, st, sk, true⟩ xs' f' = decide (1 < (cx ⟨p, 0, st, sk, true⟩ xs' f' (cnt xs' f')).getD K 0) := by
      unfold agn
      rw [hK, Int.toNat_natCast]
      have e : decide ((K : Int) ≠ -1) = true := by first | (simp; done) | (simp; omega)
      rw [e]; rfl
     have hK0 : (0 : Int) ≤ (K : Int) := by omega
     have hK1 : (K : Int) < (pn1 : Int) := by omega
     rw [hK] at k2
     have HK := Lib.hid hK
     generalize (cx ⟨p, 0, st, sk, true⟩ xs' f' (cnt xs' f')).getD K 0 = v at *
     clear hdone hlb hnum hl1 hlst hneg
     by_cases hv : 1 < v
     ·have ha : agn ⟨p, 0, st, sk, true⟩ xs' f' = true := by rw [hag]; simpa using hv
      clear hag
      by_cases h99 : j = 99
      ·have hmv : MV = none := by rw [← HJ.out.mv, show 100 - j = 0 + 1 by omega, mvF_yes ha]; rfl
       have Hmv := Lib.hid hmv
       have h100 : (100 : Int) ≤ (j : Int) + 1 := by omega
       clear hmv ha hK h99
       obtain ⟨zl, z0, z1, z2, z3, q0, q1, q2, q3⟩ := HZ.out.below HJ.out.be
       go_wp2_with fail
       rw [Hmv.out]
       refine bodyPost_ret (v := .tuple #[.agg #[.slice none 0 0, .slice none 0 0, .int .i64 0, .int .i64 0], .slice none 0 0, .bool false]) (by simp [results, Try.results83, go_sem, z0, z1, z2, z3]) rfl ⟨rfl, OnW.set4 (show OnW w wr from Below.trans HW.out (HJ.out.be.mono (Nat.le_of_lt hwu))) (Nat.le_refl _) _ _ _ _⟩
      ·have h100 : ¬ (100 : Int) ≤ (j : Int) + 1 := by omega
       obtain ⟨_, t0, t1, t2⟩ := HP.out.below HJ.out.be
       have hlen : (pth ++ lapP ⟨p, 0, st, sk, true⟩ f' (cnt xs' f')).length = pth.length + cnt xs' f' := by rw [List.length_append, lapP_len]
       have hcn := HJ.out.lap.num_le
       have hpl := HJ.out.pl
       have hnx := HJ.out.lap.next HRf.out ha
       have hrow : wr.ownsRow wc.heap.size 2 1 u10 (pth ++ lapP ⟨p, 0, st, sk, true⟩ f' (cnt xs' f')).length (nvs (pth ++ lapP ⟨p, 0, st, sk, true⟩ f' (cnt xs' f'))) := by rw [hlen]; exact HJ.out.row
       have HN : Hid (Calls Try.prog 97 #[.pointer (some ⟨rb, 0, none⟩), .pointer (some ⟨s0, 0, none⟩), .int .i64 0, .int .i64 (K : Int), u10] wr.drew (LapD u2 wr.drew ⟨p, 0, st, sk, true⟩ (fun u => RuAt u rb p s c l st sk true fe ag) s0 b5 c5 b6 c6 pn1 wc.heap.size ((j : Int) + 1) (lst ⟨p, 0, st, sk, true⟩ xs' f') (cx ⟨p, 0, st, sk, true⟩ xs' f' (cnt xs' f')) (cy ⟨p, 0, st, sk, true⟩ ys' f' (cnt xs' f')) (pth ++ lapP ⟨p, 0, st, sk, true⟩ f' (cnt xs' f')))) := Lib.hid (by
        rw [← hK]
        exact specLap0 u2 wr.drew ⟨p, 0, st, sk, true⟩ p s c l st sk true fe ag rfl t rb s0 b5 c5 b6 c6 pn1 wc.heap.size (lst ⟨p, 0, st, sk, true⟩ xs' f') ((j : Int) + 1) (lst ⟨p, 0, st, sk, true⟩ xs' f') (cx ⟨p, 0, st, sk, true⟩ xs' f' (cnt xs' f')) (cy ⟨p, 0, st, sk, true⟩ ys' f' (cnt xs' f')) (pth ++ lapP ⟨p, 0, st, sk, true⟩ f' (cnt xs' f')) u10 hp hp8 hnx HJ.out.be.drew (HJ.out.ru.below (Below.refl _ _).drew) (HJ.out.so.below (Below.refl _ _).drew) (own_keep hrow (Below.refl _ _).drew) HJ.out.sz hwc (by omega) hs0 hl5 hl6 (by omega) (by omega) (by omega) (by omega) (by omega) (by omega) hms)
       have Hnx := Lib.hid hnx
       have hmv := HJ.out.mv
       rw [show 100 - j = (100 - (j + 1)) + 1 by omega, mvF_yes ha] at hmv
       have Hmv := Lib.hid hmv
       have Hpl : Hid ((pth ++ lapP ⟨p, 0, st, sk, true⟩ f' (cnt xs' f')).length ≤ 96 * (j + 1)) := Lib.hid (by omega)
       have hsz0 := HJ.out.sz
       clear hmv ha hK hnx hrow hlen hpl hcn
       go_wp2_with fail
       go_still_tail 8, (by kernel_rfl)
       go_wp2_with fail
       refine HN.out.mono ?_
       rintro e w5 ⟨v5, rfl, hb', hr', hs', hrow', hsz'⟩
       have HJ2 : Hid (SwJ u2 ⟨p, 0, st, sk, true⟩ p s c l st sk true fe ag t MV rb s0 b5 c5 b6 c6 pn1 wc.heap.size (j + 1) (cx ⟨p, 0, st, sk, true⟩ xs' f' (cnt xs' f')) (cy ⟨p, 0, st, sk, true⟩ ys' f' (cnt xs' f')) (lst ⟨p, 0, st, sk, true⟩ xs' f') (pth ++ lapP ⟨p, 0, st, sk, true⟩ f' (cnt xs' f')) v5 w5) := Lib.hid ⟨Hnx.out, Hmv.out, hb', hr', hs', hrow', Hpl.out, Nat.le_trans hsz0 hsz'⟩
       clear hb' hr' hs' hrow' hsz' HJ
       go_wp2_with fail
       go_roundg (100 - (j + 1))
       case measure => omega
       case rel => exact ⟨j + 1, _, _, _, _, rfl, by omega, HJ2.out⟩
     ·have ha : agn ⟨p, 0, st, sk, true⟩ xs' f' = false := by rw [hag]; simpa using hv
      clear hag hK
      have hmv : MV = some ⟨cx ⟨p, 0, st, sk, true⟩ xs' f' (cnt xs' f'), cy ⟨p, 0, st, sk, true⟩ ys' f' (cnt xs' f'), lst ⟨p, 0, st, sk, true⟩ xs' f', j + 1, pth ++ lapP ⟨p, 0, st, sk, true⟩ f' (cnt xs' f')⟩ := by rw [← HJ.out.mv, show 100 - j = (99 - j) + 1 by omega, mvF_no ha]
      have Hmv := Lib.hid hmv
      clear hmv ha
      obtain ⟨zl, z0, z1, z2, z3, y0, y1, y2, y3⟩ := HZ.out.below HJ.out.be
      go_wp2_with fail
      rw [Hmv.out]
      refine bodyPost_ret (v := .tuple #[.agg #[.slice (some ⟨b5, 0, none⟩) pn1 c5, .slice (some ⟨b6, 0, none⟩) 2 c6, .int .i64 (K : Int), .int .i64 ((j : Int) + 1)], u10, .bool true]) (by simp [results, Try.results83, go_sem, z0, z1, z2, z3]) rfl (by rw [← HK.out]; exact sow_yes p s c l st sk true fe ag HW.out hwu hwc HJ.out hl5 hl6 hk5 hk6 hn5 hn6)
theorem specSow1 (p s c l : Int) (st sk re fe ag : Bool) (p1 p2 : Option Addr) (pn1 pc1 pc2 : Nat) (xs ys : List Int) (F rb pb : Nat) (w : World) (t : Int) (hr : RuAt w rb p s c l st sk re fe ag) (hq : PoAt w pb p1 p2 pn1 pc1 2 pc2 1) (h : PosR w p1 p2 pn1 2 xs ys) (hp : 2 ≤ p) (hp8 : p ≤ 8)
  (hL : Lap ⟨p, 1, st, sk, re⟩ xs ys F t) (MV : Option Res) (hMV : mvF ⟨p, 1, st, sk, re⟩ 100 xs ys F 0 [] = MV) :
  Calls Try.prog 83 #[.pointer (some ⟨rb, 0, none⟩), .pointer (some ⟨pb, 0, none⟩), .int .i64 F] w (SwQ pn1 MV w) := by
 have H := Lib.hid h
 have HL := Lib.hid hL
 have HMV := Lib.hid hMV
 have HN1 : Hid (xs ≠ []) := Lib.hid (by intro e; have := hL.brd.lx; subst e; simp at this; omega)
 have HN2 : Hid (ys ≠ []) := Lib.hid (by intro e; have := hL.brd.ly; subst e; simp at this)
 have hle1 : pn1 ≤ 1000000000000 := by have := h.r1.1; rwa [h.l1] at this
 have hle2 : 2 ≤ 1000000000000 := by omega
 have HP := Lib.hid (hq.below (al1 _ (.cells #[.slice none 0 0, .slice none 0 0, .int .i64 0, .int .i64 0] 75)))
 have HU := Lib.hid (hr.below (al1 _ (.cells #[.slice none 0 0, .slice none 0 0, .int .i64 0, .int .i64 0] 75)))
 have HW := Lib.hid (al1 w (.cells #[.slice none 0 0, .slice none 0 0, .int .i64 0, .int .i64 0] 75))
 have HZ := Lib.hid (z4_new w 75)
 have HNF := Lib.hid (nf_new w #[.slice none 0 0, .slice none 0 0, .int .i64 0, .int .i64 0] 75)
 have hrb : rb < w.heap.size := hr.1
 have hpb : pb < w.heap.size := hq.1
 clear h hL hMV hr hq
 go_enter Try.func83, Try.ntmps83
 go_upto_region 1 with fail
 generalize w.alloc (.cells #[.slice none 0 0, .slice none 0 0, .int .i64 0, .int .i64 0] 75) = u2 at *
 have H := Lib.hid (H.out.below HW.out)
 have hwu : w.heap.size < u2.heap.size := HZ.out.lt
 have HB := Lib.hid (show OnW u2 u2 from Below.refl _ _)
 have HT : Hid (∀ u : World, PoAt u pb p1 p2 pn1 pc1 2 pc2 1 → OnW u2 u → (pb < u.heap.size ∧ u.cell? ⟨pb, 0, none⟩ = some (.slice p1 pn1 pc1) ∧ u.cell? ⟨pb, 1, none⟩ = some (.slice p2 2 pc2) ∧ u.cell? ⟨pb, 2, none⟩ = some (.int .i64 1)) ∧ Below u2.heap.size u2 u) := Lib.hid (fun u h k => ⟨h, k⟩)
 go_cut [9] (fun s9 wx => ∃ s0 b5 c5 b6 c6 : Nat, s9 = .pointer (some ⟨s0, 0, none⟩) ∧ SowF u2 p s c l st sk re fe ag p1 p2 pn1 pc1 2 pc2 1 rb pb s0 b5 c5 b6 c6 xs ys wx)
 case first =>
  go_region_held3 (fun u => (pb < u.heap.size ∧ u.cell? ⟨pb, 0, none⟩ = some (.slice p1 pn1 pc1) ∧ u.cell? ⟨pb, 1, none⟩ = some (.slice p2 2 pc2) ∧ u.cell? ⟨pb, 2, none⟩ = some (.int .i64 1)) ∧ Below u2.heap.size u2 u) (first | with_reducible exact HT.out _ HP.out HB.out | with_reducible exact HT.out _ HP.out.drew HB.out.drew | with_reducible exact HT.out _ (HP.out.below (al1 _ _)) (HB.out.below (al1 _ _)) | with_reducible exact HT.out _ (HP.out.drew.below (al1 _ _)) (HB.out.drew.below (al1 _ _)) | with_reducible exact HT.out _ (HP.out.below (al1 _ _)).drew (HB.out.below (al1 _ _)).drew | with_reducible exact HT.out _ (HP.out.set4 (by omega) _ _ _ _) (HB.out.set4 (by omega) _ _ _ _) | with_reducible exact HT.out _ ((HP.out.below (al1 _ _)).set4 (by omega) _ _ _ _) ((HB.out.below (al1 _ _)).set4 (by omega) _ _ _ _))
   (first
   | (go_at_call 65; (with_reducible refine (l00Own_any p1 pc1 pn1 xs _ H.out.l1 ?_ HN1.out).mono ?_); (first | with_reducible exact H.out.r1.below (HB.out).bel | with_reducible exact H.out.r1.below (HB.out.drew).bel | with_reducible exact H.out.r1.below (HB.out.below (al1 _ _)).bel | with_reducible exact H.out.r1.below (HB.out.drew.below (al1 _ _)).bel | with_reducible exact H.out.r1.below ((HB.out.below (al1 _ _)).drew).bel); rintro e w5 ⟨v1, rfl, hown, hb5⟩; (obtain ⟨c5, b5, rfl, o5, hlt5, hc5⟩ := outN_own hown H.out.l1 hle1 HN1.out); have O1 := Lib.hid o5; have nb1 := o5.new; (first | have HY := Lib.hid ((z4_new u2 75).drew.below hb5) | have HY := Lib.hid ((z4_new u2.drew 75).below hb5) | have HY := Lib.hid ((z4_new u2 75).below hb5) | skip); (first | have HG := Lib.hid ((nf_new u2 _ 75).drew.below hb5) | have HG := Lib.hid ((nf_new u2.drew _ 75).below hb5) | have HG := Lib.hid ((nf_new u2 _ 75).below hb5) | skip); (first | have HP := Lib.hid (HP.out.below hb5) | have HP := Lib.hid (HP.out.drew.below hb5) | have HP := Lib.hid ((HP.out.below (al1 _ _)).below hb5) | have HP := Lib.hid ((HP.out.below (al1 _ _)).drew.below hb5)); (first | have HU := Lib.hid (HU.out.below hb5) | have HU := Lib.hid (HU.out.drew.below hb5) | have HU := Lib.hid ((HU.out.below (al1 _ _)).below hb5) | have HU := Lib.hid ((HU.out.below (al1 _ _)).drew.below hb5)); (first | have HB := Lib.hid (HB.out.below hb5) | have HB := Lib.hid (HB.out.drew.below hb5) | have HB := Lib.hid ((HB.out.below (al1 _ _)).below hb5) | have HB := Lib.hid ((HB.out.below (al1 _ _)).drew.below hb5)); have nz5 := HP.out.1; have nb5 := HB.out.size; clear hown hb5 o5)
   | (go_at_call 65; (with_reducible refine (l00Own_any p2 pc2 2 ys _ H.out.l2 ?_ HN2.out).mono ?_); (first | with_reducible exact H.out.r2.below (HB.out).bel | with_reducible exact H.out.r2.below (HB.out.drew).bel | with_reducible exact H.out.r2.below (HB.out.below (al1 _ _)).bel | with_reducible exact H.out.r2.below (HB.out.drew.below (al1 _ _)).bel | with_reducible exact H.out.r2.below ((HB.out.below (al1 _ _)).drew).bel); rintro e w6 ⟨v2, rfl, hown, hb6⟩; (obtain ⟨c6, b6, rfl, o6, hlt6, hc6⟩ := outN_own hown H.out.l2 hle2 HN2.out); have O2 := Lib.hid o6; have nb2 := o6.new; (first | have HY := Lib.hid (HY.out.below hb6) | have HY := Lib.hid (HY.out.drew.below hb6) | have HY := Lib.hid ((z4_new w5 75).below hb6) | have HY := Lib.hid ((z4_new w5 75).drew.below hb6) | have HY := Lib.hid ((z4_new w5.drew 75).below hb6) | skip); (first | have HG := Lib.hid (HG.out.below hb6) | have HG := Lib.hid (HG.out.drew.below hb6) | have HG := Lib.hid ((nf_new w5 _ 75).below hb6) | have HG := Lib.hid ((nf_new w5 _ 75).drew.below hb6) | have HG := Lib.hid ((nf_new w5.drew _ 75).below hb6) | skip); (try obtain ⟨yz, y0, y1, y2, y3, k0, k1, k2, k3⟩ := HY.out); (first | have HP := Lib.hid (HP.out.below hb6) | have HP := Lib.hid (HP.out.drew.below hb6) | have HP := Lib.hid ((HP.out.below (al1 _ _)).below hb6) | have HP := Lib.hid ((HP.out.below (al1 _ _)).drew.below hb6)); (first | have HU := Lib.hid (HU.out.below hb6) | have HU := Lib.hid (HU.out.drew.below hb6) | have HU := Lib.hid ((HU.out.below (al1 _ _)).below hb6) | have HU := Lib.hid ((HU.out.below (al1 _ _)).drew.below hb6)); (first | have HB := Lib.hid (HB.out.below hb6) | have HB := Lib.hid (HB.out.drew.below hb6) | have HB := Lib.hid ((HB.out.below (al1 _ _)).below hb6) | have HB := Lib.hid ((HB.out.below (al1 _ _)).drew.below hb6)); (first | have O1 := Lib.hid (O1.out.below hb6) | have O1 := Lib.hid (O1.out.drew.below hb6) | have O1 := Lib.hid ((O1.out.below (al1 _ _)).below hb6) | have O1 := Lib.hid ((O1.out.below (al1 _ _)).drew.below hb6)); have nz6 := HP.out.1; have nb6 := HB.out.size; clear hown hb6 o6))
  all_goals (try simp at nb1)
  all_goals (try simp at nb2)
  all_goals go_wp2_with fail
  all_goals go_meet
  all_goals have hl5 := (O1.out.free HN1.out).1
  all_goals have hb5' := HB.out.size
  all_goals first
   | exact ⟨_, _, _, _, _, rfl, sow_fin2 p s c l st sk re fe ag p1 p2 pn1 pc1 2 pc2 1 75 HP.out HU.out HB.out O1.out O2.out H.out.l1 H.out.l2 (by omega) hl5 hlt6 (by first | omega | (simp; done) | (simp; omega)) (by first | omega | (simp; done) | (simp; omega)) hc5 hc6⟩
   | exact ⟨_, _, _, _, _, rfl, sow_fin p s c l st sk re fe ag p1 p2 pn1 pc1 2 pc2 1 HP.out HU.out HB.out HY.out HG.out.2 O1.out O2.out H.out.l1 H.out.l2 (by omega) (by omega) (by omega) hl5 hlt6 (by omega) (by omega) (by omega) (by first | omega | (simp; done) | (simp; omega)) (by first | omega | (simp; done) | (simp; omega)) hc5 hc6⟩
 case rest =>
  obtain ⟨s0, b5, c5, b6, c6, rfl, hF⟩ := hcut
  have HF := Lib.hid hF
  obtain ⟨_, t0, t1, t2⟩ := hF.po
  clear hF HU HB HT
  go_wp2_with fail
  have HFb := Lib.hid (show RuAt _ rb p s c l st sk re fe ag ∧ SoS _ u2.heap.size s0 b5 c5 b6 c6 pn1 0 0 xs ys ∧ Below u2.heap.size u2 _ from ⟨HF.out.ru.below (al1 wc (.cells #[] 2)), HF.out.so.below (al1 wc (.cells #[] 2)), OnW.below (show OnW u2 wc from HF.out.on) (al1 wc (.cells #[] 2))⟩)
  have hl5 := HF.out.l5
  have hl6 := HF.out.l6
  have hms := HF.out.ms
  have hs0 := HF.out.so.so.1
  have hn5 := HF.out.so.o1.new
  have hn6 := HF.out.so.o2.new
  have hwc : u2.heap.size ≤ wc.heap.size := Below.size HF.out.on
  have hrow0 := World.ownsRow_made (e := 2) (size := 1) wc #[] 0 (Nat.le_refl _) (by decide) rfl
  have HLap : Hid (Calls Try.prog 97 #[.pointer (some ⟨rb, 0, none⟩), .pointer (some ⟨s0, 0, none⟩), .int .i64 1, .int .i64 (F : Int), .slice (some ⟨wc.heap.size, 0, none⟩) 0 0] (wc.alloc (.cells #[] 2)) (LapD u2 (wc.alloc (.cells #[] 2)) ⟨p, 1, st, sk, re⟩ (fun u => RuAt u rb p s c l st sk re fe ag) s0 b5 c5 b6 c6 pn1 wc.heap.size 0 F xs ys [])) := Lib.hid
   (specLap1 u2 (wc.alloc (.cells #[] 2)) ⟨p, 1, st, sk, re⟩ p s c l st sk re fe ag rfl t rb s0 b5 c5 b6 c6 pn1 wc.heap.size 0 0 F xs ys [] _ hp hp8 HL.out HFb.out.2.2 HFb.out.1 HFb.out.2.1 hrow0 (by simp) hwc (by omega) hs0 hl5 hl6 (by omega) (by omega) (by omega) (by omega) (by omega) (by simp) hms)
  refine HLap.out.mono ?_
  rintro e w3 ⟨v3, rfl, hb3, hr3, hs3, hrow3, hsz3⟩
  have HJ : Hid (SwJ u2 ⟨p, 1, st, sk, re⟩ p s c l st sk re fe ag t MV rb s0 b5 c5 b6 c6 pn1 wc.heap.size 0 xs ys F [] v3 w3) := Lib.hid ⟨HL.out, HMV.out, hb3, hr3, hs3, hrow3, by simp, Nat.le_trans (by simp) hsz3⟩
  clear hb3 hr3 hs3 hrow3 hsz3 hrow0 t0 t1 t2 HLap HFb
  go_wp2_with fail
  have hR : Rl.Fit ⟨p, 1, st, sk, re⟩ := ⟨hp, hp8, by simp⟩
  have HRf := Lib.hid hR
  have hk5 := HF.out.k5
  have hk6 := HF.out.k6
  clear hR HMV HL
  go_loopg [10] 100 (fun q pv wr => ∃ (j : Nat) (xs' ys' : List Int) (f' : Int) (pth : List Int), q = 100 - j ∧ j < 100 ∧ SwJ u2 ⟨p, 1, st, sk, re⟩ p s c l st sk re fe ag t MV rb s0 b5 c5 b6 c6 pn1 wc.heap.size j xs' ys' f' pth pv wr)
  case atStart => exact ⟨0, xs, ys, F, [], rfl, by omega, HJ.out⟩
  case round =>
   obtain ⟨j, xs', ys', f', pth, rfl, hj, hJ⟩ := hrel
   have HJ := Lib.hid hJ
   have hlb := hJ.lap.at_bd HRf.out (cnt xs' f' - 1)
   have hl1 := hJ.so.l1
   obtain ⟨_, r0, r1, r2, r3, r4, r5, r6, r7, r8⟩ := hJ.ru
   obtain ⟨_, k0, k1, k2, k3⟩ := hJ.so.so
   have hnum := hJ.lap.brd.lx
   clear hJ
   rcases re with _ | _
   ·have ha : agn ⟨p, 1, st, sk, false⟩ xs' f' = false := rfl
    clear hlb hnum hl1
    have hmv : MV = some ⟨cx ⟨p, 1, st, sk, false⟩ xs' f' (cnt xs' f'), cy ⟨p, 1, st, sk, false⟩ ys' f' (cnt xs' f'), lst ⟨p, 1, st, sk, false⟩ xs' f', j + 1, pth ++ lapP ⟨p, 1, st, sk, false⟩ f' (cnt xs' f')⟩ := by rw [← HJ.out.mv, show 100 - j = (99 - j) + 1 by omega, mvF_no ha]
    have Hmv := Lib.hid hmv
    clear hmv ha
    obtain ⟨zl, z0, z1, z2, z3, y0, y1, y2, y3⟩ := HZ.out.below HJ.out.be
    go_wp2_with fail
    rw [Hmv.out]
    refine bodyPost_ret (v := .tuple #[.agg #[.slice (some ⟨b5, 0, none⟩) pn1 c5, .slice (some ⟨b6, 0, none⟩) 2 c6, .int .i64 (lst ⟨p, 1, st, sk, false⟩ xs' f'), .int .i64 ((j : Int) + 1)], u10, .bool true]) (by simp [results, Try.results83, go_sem, z0, z1, z2, z3]) rfl (sow_yes p s c l st sk false fe ag HW.out hwu hwc HJ.out hl5 hl6 hk5 hk6 hn5 hn6)
   ·have hlst : lst ⟨p, 1, st, sk, true⟩ xs' f' = Rl.at ⟨p, 1, st, sk, true⟩ f' (cnt xs' f' - 1) := rfl
    rw [← hlst] at hlb
    by_cases hneg : lst ⟨p, 1, st, sk, true⟩ xs' f' = -1
    ·have ha : agn ⟨p, 1, st, sk, true⟩ xs' f' = false := by unfold agn; rw [hneg]; simp
     have tn : ¬ 0 ≤ lst ⟨p, 1, st, sk, true⟩ xs' f' := by omega
     clear hlb hnum hl1 hlst hneg
     have hmv : MV = some ⟨cx ⟨p, 1, st, sk, true⟩ xs' f' (cnt xs' f'), cy ⟨p, 1, st, sk, true⟩ ys' f' (cnt xs' f'), lst ⟨p, 1, st, sk, true⟩ xs' f', j + 1, pth ++ lapP ⟨p, 1, st, sk, true⟩ f' (cnt xs' f')⟩ := by rw [← HJ.out.mv, show 100 - j = (99 - j) + 1 by omega, mvF_no ha]
     have Hmv := Lib.hid hmv
     clear hmv ha
     obtain ⟨zl, z0, z1, z2, z3, y0, y1, y2, y3⟩ := HZ.out.below HJ.out.be
     go_wp2_with fail
     rw [Hmv.out]
     refine bodyPost_ret (v := .tuple #[.agg #[.slice (some ⟨b5, 0, none⟩) pn1 c5, .slice (some ⟨b6, 0, none⟩) 2 c6, .int .i64 (lst ⟨p, 1, st, sk, true⟩ xs' f'), .int .i64 ((j : Int) + 1)], u10, .bool true]) (by simp [results, Try.results83, go_sem, z0, z1, z2, z3]) rfl (sow_yes p s c l st sk true fe ag HW.out hwu hwc HJ.out hl5 hl6 hk5 hk6 hn5 hn6)
    ·obtain ⟨K, hK⟩ : ∃ K : Nat, lst ⟨p, 1, st, sk, true⟩ xs' f' = (K : Int) := ⟨(lst ⟨p, 1, st, sk, true⟩ xs' f').toNat, by omega⟩
     have hdone := (HJ.out.lap.done HRf.out).lx
     have hKn : K < pn1 := by
      have h1 := hlb.2
      have h2 := HJ.out.so.l1
      rw [hK] at h1
      omega
     obtain ⟨y1, y2, y3⟩ := HJ.out.so.x hKn
     have hag : agn ⟨p, 1, st, sk, true⟩ xs' f' = decide (1 < (cx ⟨p, 1, st, sk, true⟩ xs' f' (cnt xs' f')).getD K 0) := by
      unfold agn
      rw [hK, Int.toNat_natCast]
      have e : decide ((K : Int) ≠ -1) = true := by first | (simp; done) | (simp; omega)
      rw [e]; rfl
     have hK0 : (0 : Int) ≤ (K : Int) := by omega
     have hK1 : (K : Int) < (pn1 : Int) := by omega
     rw [hK] at k2
     have HK := Lib.hid hK
     generalize (cx ⟨p, 1, st, sk, true⟩ xs' f' (cnt xs' f')).getD K 0 = v at *
     clear hdone hlb hnum hl1 hlst hneg
     by_cases hv : 1 < v
     ·have ha : agn ⟨p, 1, st, sk, true⟩ xs' f' = true := by rw [hag]; simpa using hv
      clear hag
      by_cases h99 : j = 99
      ·have hmv : MV = none := by rw [← HJ.out.mv, show 100 - j = 0 + 1 by omega, mvF_yes ha]; rfl
       have Hmv := Lib.hid hmv
       have h100 : (100 : Int) ≤ (j : Int) + 1 := by omega
       clear hmv ha hK h99
       obtain ⟨zl, z0, z1, z2, z3, q0, q1, q2, q3⟩ := HZ.out.below HJ.out.be
       go_wp2_with fail
       rw [Hmv.out]
       refine bodyPost_ret (v := .tuple #[.agg #[.slice none 0 0, .slice none 0 0, .int .i64 0, .int .i64 0], .slice none 0 0, .bool false]) (by simp [results, Try.results83, go_sem, z0, z1, z2, z3]) rfl ⟨rfl, OnW.set4 (show OnW w wr from Below.trans HW.out (HJ.out.be.mono (Nat.le_of_lt hwu))) (Nat.le_refl _) _ _ _ _⟩
      ·have h100 : ¬ (100 : Int) ≤ (j : Int) + 1 := by omega
       obtain ⟨_, t0, t1, t2⟩ := HP.out.below HJ.out.be
       have hlen : (pth ++ lapP ⟨p, 1, st, sk, true⟩ f' (cnt xs' f')).length = pth.length + cnt xs' f' := by rw [List.length_append, lapP_len]
       have hcn := HJ.out.lap.num_le
       have hpl := HJ.out.pl
       have hnx := HJ.out.lap.next HRf.out ha
       have hrow : wr.ownsRow wc.heap.size 2 1 u10 (pth ++ lapP ⟨p, 1, st, sk, true⟩ f' (cnt xs' f')).length (nvs (pth ++ lapP ⟨p, 1, st, sk, true⟩ f' (cnt xs' f'))) := by rw [hlen]; exact HJ.out.row
       have HN : Hid (Calls Try.prog 97 #[.pointer (some ⟨rb, 0, none⟩), .pointer (some ⟨s0, 0, none⟩), .int .i64 1, .int .i64 (K : Int), u10] wr.drew (LapD u2 wr.drew ⟨p, 1, st, sk, true⟩ (fun u => RuAt u rb p s c l st sk true fe ag) s0 b5 c5 b6 c6 pn1 wc.heap.size ((j : Int) + 1) (lst ⟨p, 1, st, sk, true⟩ xs' f') (cx ⟨p, 1, st, sk, true⟩ xs' f' (cnt xs' f')) (cy ⟨p, 1, st, sk, true⟩ ys' f' (cnt xs' f')) (pth ++ lapP ⟨p, 1, st, sk, true⟩ f' (cnt xs' f')))) := Lib.hid (by
        rw [← hK]
        exact specLap1 u2 wr.drew ⟨p, 1, st, sk, true⟩ p s c l st sk true fe ag rfl t rb s0 b5 c5 b6 c6 pn1 wc.heap.size (lst ⟨p, 1, st, sk, true⟩ xs' f') ((j : Int) + 1) (lst ⟨p, 1, st, sk, true⟩ xs' f') (cx ⟨p, 1, st, sk, true⟩ xs' f' (cnt xs' f')) (cy ⟨p, 1, st, sk, true⟩ ys' f' (cnt xs' f')) (pth ++ lapP ⟨p, 1, st, sk, true⟩ f' (cnt xs' f')) u10 hp hp8 hnx HJ.out.be.drew (HJ.out.ru.below (Below.refl _ _).drew) (HJ.out.so.below (Below.refl _ _).drew) (own_keep hrow (Below.refl _ _).drew) HJ.out.sz hwc (by omega) hs0 hl5 hl6 (by omega) (by omega) (by omega) (by omega) (by omega) (by omega) hms)
       have Hnx := Lib.hid hnx
       have hmv := HJ.out.mv
       rw [show 100 - j = (100 - (j + 1)) + 1 by omega, mvF_yes ha] at hmv
       have Hmv := Lib.hid hmv
       have Hpl : Hid ((pth ++ lapP ⟨p, 1, st, sk, true⟩ f' (cnt xs' f')).length ≤ 96 * (j + 1)) := Lib.hid (by omega)
       have hsz0 := HJ.out.sz
       clear hmv ha hK hnx hrow hlen hpl hcn
       go_wp2_with fail
       go_still_tail 8, (by kernel_rfl)
       go_wp2_with fail
       refine HN.out.mono ?_
       rintro e w5 ⟨v5, rfl, hb', hr', hs', hrow', hsz'⟩
       have HJ2 : Hid (SwJ u2 ⟨p, 1, st, sk, true⟩ p s c l st sk true fe ag t MV rb s0 b5 c5 b6 c6 pn1 wc.heap.size (j + 1) (cx ⟨p, 1, st, sk, true⟩ xs' f' (cnt xs' f')) (cy ⟨p, 1, st, sk, true⟩ ys' f' (cnt xs' f')) (lst ⟨p, 1, st, sk, true⟩ xs' f') (pth ++ lapP ⟨p, 1, st, sk, true⟩ f' (cnt xs' f')) v5 w5) := Lib.hid ⟨Hnx.out, Hmv.out, hb', hr', hs', hrow', Hpl.out, Nat.le_trans hsz0 hsz'⟩
       clear hb' hr' hs' hrow' hsz' HJ
       go_wp2_with fail
       go_roundg (100 - (j + 1))
       case measure => omega
       case rel => exact ⟨j + 1, _, _, _, _, rfl, by omega, HJ2.out⟩
     ·have ha : agn ⟨p, 1, st, sk, true⟩ xs' f' = false := by rw [hag]; simpa using hv
      clear hag hK
      have hmv : MV = some ⟨cx ⟨p, 1, st, sk, true⟩ xs' f' (cnt xs' f'), cy ⟨p, 1, st, sk, true⟩ ys' f' (cnt xs' f'), lst ⟨p, 1, st, sk, true⟩ xs' f', j + 1, pth ++ lapP ⟨p, 1, st, sk, true⟩ f' (cnt xs' f')⟩ := by rw [← HJ.out.mv, show 100 - j = (99 - j) + 1 by omega, mvF_no ha]
      have Hmv := Lib.hid hmv
      clear hmv ha
      obtain ⟨zl, z0, z1, z2, z3, y0, y1, y2, y3⟩ := HZ.out.below HJ.out.be
      go_wp2_with fail
      rw [Hmv.out]
      refine bodyPost_ret (v := .tuple #[.agg #[.slice (some ⟨b5, 0, none⟩) pn1 c5, .slice (some ⟨b6, 0, none⟩) 2 c6, .int .i64 (K : Int), .int .i64 ((j : Int) + 1)], u10, .bool true]) (by simp [results, Try.results83, go_sem, z0, z1, z2, z3]) rfl (by rw [← HK.out]; exact sow_yes p s c l st sk true fe ag HW.out hwu hwc HJ.out hl5 hl6 hk5 hk6 hn5 hn6)
/- VS7 -/
theorem RsAt.be {w u : World} {p s c l : Int} {st sk re fe ag : Bool} {p1 p2 : Option Addr} {pn1 pc1 pn2 pc2 : Nat} {pp pq : Int} (h : RsAt w p s c l st sk re fe ag p1 p2 pn1 pc1 pn2 pc2 pp pq u) : Below w.heap.size w u := h.2.2
def L6N (w : World) (b d : Nat) (p s c l : Int) (st sk re fe ag : Bool) (p1 p2 : Option Addr) (pn1 pc1 pn2 pc2 : Nat) (pp pq : Int) (u : World) : Prop := RuAt u b p s c l st sk re fe ag ∧ SoAt u d p1 p2 pn1 pc1 pn2 pc2 pp pq ∧ Below w.heap.size w u
def L6A (w : World) (b d : Nat) (p s c l : Int) (st sk re fe ag : Bool) (p1 p2 : Option Addr) (pn1 pc1 pn2 pc2 : Nat) (pp pq : Int) (q : Addr) (v : Int) (u : World) : Prop := RuAt u b p s c l st sk re fe ag ∧ SoAt u d p1 p2 pn1 pc1 pn2 pc2 pp pq ∧ u.cell? q = some (.int .i64 v) ∧ Below w.heap.size w u
section
variable {w u : World} {b d : Nat} {p s c l : Int} {st sk re fe ag : Bool} {p1 p2 : Option Addr} {pn1 pc1 pn2 pc2 : Nat} {pp pq : Int} {q : Addr} {v : Int}
theorem L6N.drew (h : L6N w b d p s c l st sk re fe ag p1 p2 pn1 pc1 pn2 pc2 pp pq u) : L6N w b d p s c l st sk re fe ag p1 p2 pn1 pc1 pn2 pc2 pp pq u.drew := ⟨h.1, h.2.1, h.2.2.drew⟩
theorem L6A.drew (h : L6A w b d p s c l st sk re fe ag p1 p2 pn1 pc1 pn2 pc2 pp pq q v u) : L6A w b d p s c l st sk re fe ag p1 p2 pn1 pc1 pn2 pc2 pp pq q v u.drew := ⟨h.1, h.2.1, h.2.2.1, h.2.2.2.drew⟩
theorem L6N.dn (h : L6N w b d p s c l st sk re fe ag p1 p2 pn1 pc1 pn2 pc2 pp pq u) (m : Nat) : L6N w b d p s c l st sk re fe ag p1 p2 pn1 pc1 pn2 pc2 pp pq (u.drewN m) := ⟨h.1, h.2.1, below_dn h.2.2 m⟩
theorem L6A.dn (h : L6A w b d p s c l st sk re fe ag p1 p2 pn1 pc1 pn2 pc2 pp pq q v u) (m : Nat) : L6A w b d p s c l st sk re fe ag p1 p2 pn1 pc1 pn2 pc2 pp pq q v (u.drewN m) := ⟨h.1, h.2.1, h.2.2.1, below_dn h.2.2.2 m⟩
end
/- Cap7 -/
def CpAt (w : World) (p s c l : Int) (st sk re fe ag : Bool) (player : Int) (p1 p2 : Option Addr) (pn1 pc1 pn2 pc2 : Nat) (pp pq : Int) (u : World) : Prop := (w.heap.size < u.heap.size ∧ u.cell? ⟨w.heap.size, 0, none⟩ = some (.int .i64 p) ∧ u.cell? ⟨w.heap.size, 1, none⟩ = some (.int .i64 s) ∧ u.cell? ⟨w.heap.size, 2, none⟩ = some (.bool st) ∧ u.cell? ⟨w.heap.size, 3, none⟩ = some (.bool sk) ∧ u.cell? ⟨w.heap.size, 4, none⟩ = some (.bool re) ∧ u.cell? ⟨w.heap.size, 5, none⟩ = some (.bool fe) ∧ u.cell? ⟨w.heap.size, 6, none⟩ = some (.bool ag) ∧ u.cell? ⟨w.heap.size, 7, none⟩ = some (.int .i64 c) ∧ u.cell? ⟨w.heap.size, 8, none⟩ = some (.int .i64 l) ∧ u.cell? ⟨w.heap.size, 9, none⟩ = some (.int .i64 player) ∧ u.cell? ⟨w.heap.size, 10, none⟩ = some (.slice p1 pn1 pc1) ∧ u.cell? ⟨w.heap.size, 11, none⟩ = some (.slice p2 pn2 pc2) ∧ u.cell? ⟨w.heap.size, 12, none⟩ = some (.int .i64 pp) ∧ u.cell? ⟨w.heap.size, 13, none⟩ = some (.int .i64 pq)) ∧ Below w.heap.size w u
section
variable {w u v : World} {p s c l player : Int} {st sk re fe ag : Bool} {p1 p2 : Option Addr} {pn1 pc1 pn2 pc2 : Nat} {pp pq : Int}
theorem CpAt.below (h : CpAt w p s c l st sk re fe ag player p1 p2 pn1 pc1 pn2 pc2 pp pq u) (k : Below u.heap.size u v) : CpAt w p s c l st sk re fe ag player p1 p2 pn1 pc1 pn2 pc2 pp pq v := by
 obtain ⟨⟨hb, h⟩, hw⟩ := h
 have e := fun o => k.cell (p := ⟨w.heap.size, o, none⟩) hb
 exact ⟨⟨Nat.lt_of_lt_of_le hb k.size, by rw [e, e, e, e, e, e, e, e, e, e, e, e, e, e]; exact h⟩, hw.trans (k.mono hw.size)⟩
theorem CpAt.drew (h : CpAt w p s c l st sk re fe ag player p1 p2 pn1 pc1 pn2 pc2 pp pq u) : CpAt w p s c l st sk re fe ag player p1 p2 pn1 pc1 pn2 pc2 pp pq u.drew := ⟨h.1, h.2.drew⟩
theorem CpAt.be (h : CpAt w p s c l st sk re fe ag player p1 p2 pn1 pc1 pn2 pc2 pp pq u) : Below w.heap.size w u := h.2
end
theorem cp_new (p s c l : Int) (st sk re fe ag : Bool) (player : Int) (p1 p2 : Option Addr) (pn1 pc1 pn2 pc2 : Nat) (pp pq : Int) (w : World) (T : TypeId) : CpAt w p s c l st sk re fe ag player p1 p2 pn1 pc1 pn2 pc2 pp pq (w.alloc (.cells #[.int .i64 p, .int .i64 s, .bool st, .bool sk, .bool re, .bool fe, .bool ag, .int .i64 c, .int .i64 l, .int .i64 player, .slice p1 pn1 pc1, .slice p2 pn2 pc2, .int .i64 pp, .int .i64 pq] T)) :=
 ⟨⟨by simp, by go_simp, by go_simp, by go_simp, by go_simp, by go_simp, by go_simp, by go_simp, by go_simp, by go_simp, by go_simp, by go_simp, by go_simp, by go_simp, by go_simp⟩, (Below.refl _ _).alloc (Nat.le_refl _) _⟩
theorem owns_any (p s c l : Int) (st sk re fe ag : Bool) (player place : Int) (w : World) (hp : 2 ≤ p ∧ p ≤ 8) (hpl : player = 0 ∨ player = 1) :
  Calls Try.prog 114 #[.agg #[.int .i64 p, .int .i64 s, .bool st, .bool sk, .bool re, .bool fe, .bool ag, .int .i64 c, .int .i64 l], .int .i64 player, .int .i64 place] w fun e w' => e = .returned (.bool (ownB p player place)) ∧ Below w.heap.size w w' := by
 obtain ⟨hp2, hp8⟩ := hp
 have BB := Lib.hid ((Below.refl w.heap.size w).alloc (Nat.le_refl _) (.cells #[.int .i64 p, .int .i64 s, .bool st, .bool sk, .bool re, .bool fe, .bool ag, .int .i64 c, .int .i64 l] 31))
 have hw1 : IntKind.i64.wrap p = p := IntWalk.i64_in _ ⟨by omega, by omega⟩
 have hw2 : IntKind.i64.wrap (2 * p) = 2 * p := IntWalk.i64_in _ ⟨by omega, by omega⟩
 rcases (show player = 0 ∨ player ≠ 0 from Decidable.em _) with rfl | hno
 ·by_cases h1 : 0 ≤ place
  ·have d1 : decide (0 ≤ place) = true := by simpa using h1
   by_cases h2 : place < p
   ·have d2 : decide (place < p) = true := by simpa using h2
    have e : ownB p 0 place = true := by unfold ownB; simp; omega
    rw [e]
    go_enter Try.func114, Try.ntmps114
    go_wp2_with fail
    go_ret
    exact ⟨rfl, BB.out⟩
   ·have d2 : decide (place < p) = false := by simpa using h2
    have e : ownB p 0 place = false := by unfold ownB; simp; omega
    rw [e]
    go_enter Try.func114, Try.ntmps114
    go_wp2_with fail
    go_ret
    exact ⟨rfl, BB.out⟩
  ·have d1 : decide (0 ≤ place) = false := by simpa using h1
   have e : ownB p 0 place = false := by unfold ownB; simp; omega
   rw [e]
   go_enter Try.func114, Try.ntmps114
   go_wp2_with fail
   go_ret
   exact ⟨rfl, BB.out⟩
 rcases (show player = 1 ∨ player ≠ 1 from Decidable.em _) with rfl | hno
 ·by_cases h1 : p ≤ place
  ·have d1 : decide (p ≤ place) = true := by simpa using h1
   by_cases h2 : place < 2 * p
   ·have d2 : decide (place < 2 * p) = true := by simpa using h2
    have e : ownB p 1 place = true := by unfold ownB; simp; omega
    rw [e]
    go_enter Try.func114, Try.ntmps114
    go_wp2_with fail
    go_ret
    exact ⟨rfl, BB.out⟩
   ·have d2 : decide (place < 2 * p) = false := by simpa using h2
    have e : ownB p 1 place = false := by unfold ownB; simp; omega
    rw [e]
    go_enter Try.func114, Try.ntmps114
    go_wp2_with fail
    go_ret
    exact ⟨rfl, BB.out⟩
  ·have d1 : decide (p ≤ place) = false := by simpa using h1
   have e : ownB p 1 place = false := by unfold ownB; simp; omega
   rw [e]
   go_enter Try.func114, Try.ntmps114
   go_wp2_with fail
   go_ret
   exact ⟨rfl, BB.out⟩
 ·omega
theorem isOther_any (p s c l : Int) (st sk re fe ag : Bool) (player : Int) (p1 p2 : Option Addr) (pn1 pc1 pn2 pc2 : Nat) (pp pq : Int) (place : Int) (w : World) (hp : 2 ≤ p ∧ p ≤ 8) (hpl : player = 0 ∨ player = 1) :
  Calls Try.prog 104 #[.agg #[.int .i64 p, .int .i64 s, .bool st, .bool sk, .bool re, .bool fe, .bool ag, .int .i64 c, .int .i64 l, .int .i64 player, .slice p1 pn1 pc1, .slice p2 pn2 pc2, .int .i64 pp, .int .i64 pq], .int .i64 place] w fun e w' => e = .returned (.bool (ownB p (1 - player) place)) ∧ Below w.heap.size w w' := by
 have HS := Lib.hid (cp_new p s c l st sk re fe ag player p1 p2 pn1 pc1 pn2 pc2 pp pq w 77)
 have hw1 : IntKind.i64.wrap (1 - player) = 1 - player := IntWalk.i64_in _ ⟨by omega, by omega⟩
 have HP := Lib.hid hp
 have HPl : Hid (1 - player = 0 ∨ 1 - player = 1) := Lib.hid (by omega)
 clear hp hpl
 go_enter Try.func104, Try.ntmps104
 go_wp2_with (go_at_call 114; refine (owns_any p s c l st sk re fe ag (1 - player) place _ HP.out HPl.out).mono ?_; rintro e w1 ⟨rfl, hb1⟩; obtain ⟨hc1, hf1⟩ := bcell hb1; have hs1 := hb1.size; (try simp at hs1); (try have hz1 : w.heap.size < w1.heap.size := by omega); (try have hy1 : w.heap.size + 1 < w1.heap.size := by omega); (try have hx1 := fun o => hc1 w.heap.size o (by first | omega | (simp; done) | (simp; omega))); (try have hv1 := fun o => hc1 (w.heap.size + 1) o (by first | omega | (simp; done) | (simp; omega))))
 go_ret
 exact ⟨rfl, (by repeat (first | exact Below.refl _ _ | assumption | (refine Below.drew ?_) | (refine Below.setCell ?_ (by first | omega | (simp; done) | (simp; omega)) _) | (refine Below.alloc ?_ (by first | omega | (simp; done) | (simp; omega)) _) | (refine Below.trans ?_ (Below.mono (by assumption) (by first | omega | (simp; done) | (simp; omega))))))⟩
theorem seedsIn_any (p s c l : Int) (st sk re fe ag : Bool) (player : Int) (p1 p2 : Option Addr) (pn1 pc1 pn2 pc2 : Nat) (pp pq : Int) (xs ys L : List Int) (a : Option Addr) (cc n : Nat) (w : World) (h : PosR w p1 p2 pn1 pn2 xs ys) (hp : posB xs = true) (ht : tot xs ≤ 96) (hL : ∀ k ∈ L, 0 ≤ k ∧ k < (pn1 : Int)) (hn : L.length = n) (hn16 : n ≤ 1000) (ha : RowN w a L) :
  Calls Try.prog 105 #[.agg #[.int .i64 p, .int .i64 s, .bool st, .bool sk, .bool re, .bool fe, .bool ag, .int .i64 c, .int .i64 l, .int .i64 player, .slice p1 pn1 pc1, .slice p2 pn2 pc2, .int .i64 pp, .int .i64 pq], .slice a n cc] w fun e w' => e = .returned (.int .i64 (sumAt xs L)) ∧ Below w.heap.size w w' := by
 have HS := Lib.hid (cp_new p s c l st sk re fe ag player p1 p2 pn1 pc1 pn2 pc2 pp pq w 77)
 obtain ⟨_, c0, c1, c2, c3, c4, c5, c6, c7, c8, c9, c10, c11, c12, c13⟩ := HS.out.1
 have H := Lib.hid (h.alloc (.cells #[.int .i64 p, .int .i64 s, .bool st, .bool sk, .bool re, .bool fe, .bool ag, .int .i64 c, .int .i64 l, .int .i64 player, .slice p1 pn1 pc1, .slice p2 pn2 pc2, .int .i64 pp, .int .i64 pq] 77))
 have HA := Lib.hid (ha.alloc (.cells #[.int .i64 p, .int .i64 s, .bool st, .bool sk, .bool re, .bool fe, .bool ag, .int .i64 c, .int .i64 l, .int .i64 player, .slice p1 pn1 pc1, .slice p2 pn2 pc2, .int .i64 pp, .int .i64 pq] 77))
 clear h ha
 go_enter Try.func105, Try.ntmps105
 go_wp2
 generalize w.alloc (.cells #[.int .i64 p, .int .i64 s, .bool st, .bool sk, .bool re, .bool fe, .bool ag, .int .i64 c, .int .i64 l, .int .i64 player, .slice p1 pn1 pc1, .slice p2 pn2 pc2, .int .i64 pp, .int .i64 pq] 77) = w1 at *
 go_loop [5, 10] (fun s i => ∃ (k : Nat) (t : Int), k ≤ n ∧ i = .int .i64 k ∧ s = .int .i64 t ∧ t = sumAt xs (L.take k)) (fun _ i => n - (intOf i).toNat)
 case atStart => exact ⟨0, 0, Nat.zero_le _, rfl, rfl, rfl⟩
 case round =>
  obtain ⟨k, t, hk, rfl, rfl, ht'⟩ := hrel
  have hb := sumAt_bd hp ht (L.take k)
  rw [← ht', List.length_take] at hb
  obtain ⟨b0, b1⟩ := hb
  have b2 : t ≤ 96 * 1000 := by omega
  have Ht := Lib.hid ht'
  have HpT := Lib.hid (And.intro hp ht)
  clear ht' b1
  by_cases hlt : k < n
  ·obtain ⟨q, hq⟩ : ∃ q, L[k]? = some q := ⟨L[k]'(by rw [hn]; exact hlt), List.getElem?_eq_getElem _⟩
   obtain ⟨q0, q1⟩ := hL q (List.mem_of_getElem? hq)
   obtain ⟨Q, rfl⟩ : ∃ Q : Nat, q = (Q : Int) := ⟨q.toNat, by omega⟩
   have hne : L ≠ [] := by intro e; subst e; cases hq
   obtain ⟨ga, oa, rfl, hga, hca⟩ := HA.out.2.resolve_left hne
   have ya := hca k _ hq
   obtain ⟨g, o, rfl, hg, y⟩ := rowV (k := Q) H.out.r1 (by have := H.out.l1; omega)
   have v0 := vAt_bd hp ht (Q : Int)
   obtain ⟨v1, v2⟩ := v0
   have Hq := Lib.hid hq
   have k0 : (0 : Int) ≤ (k : Int) := by omega
   have k1 : (k : Int) < (n : Int) := by omega
   have hs : sumAt xs (L.take (k + 1)) = t + vAt xs (Q : Int) := by rw [take_next Hq.out, sumAt_snoc, ← Ht.out]
   have Hs := Lib.hid hs
   have HLn := Lib.hid (And.intro hL hn)
   clear hca hq hne hs hL hn hp ht
   generalize vAt xs (Q : Int) = v at *
   go_wp2
   go_round
   case rel => exact ⟨k + 1, t + v, by omega, by go_num, by go_num, by rw [Hs.out]⟩
   case measure => simp [intOf]; omega
  ·obtain rfl : k = n := by omega
   have e1 : L.take k = L := List.take_of_length_le (by rw [hn]; exact Nat.le_refl _)
   have e2 : t = sumAt xs L := by rw [Ht.out, e1]
   have E2 := Lib.hid e2
   clear e1 e2 hn hL
   go_wp2
   go_ret
   exact ⟨by rw [E2.out]; rfl, HS.out.2⟩
/- Cap8 -/
theorem row_1 (u : World) (x : Int) (T : TypeId) : RowN (u.alloc (.cells #[.int .i64 x] T)) (some ⟨u.heap.size, 0, none⟩) [x] :=
 ⟨by simp, .inr ⟨u.heap.size, 0, rfl, by simp, fun i y hi => by
  match i, hi with
  | 0, hi =>
   cases hi
   rw [World.cell?_alloc_new]
   rfl⟩⟩
theorem sumAt_one (xs : List Int) (k : Int) : sumAt xs [k] = vAt xs k := by simp [sumAt, tot]
theorem CpAt.grown {w u v : World} {p s c l player : Int} {st sk re fe ag : Bool} {p1 p2 : Option Addr} {pn1 pc1 pn2 pc2 : Nat} {pp pq : Int} {row : Option Nat} (h : CpAt w p s c l st sk re fe ag player p1 p2 pn1 pc1 pn2 pc2 pp pq u) (hg : u.grownBy v row) (hr : ∀ k, row = some k → w.heap.size < k) : CpAt w p s c l st sk re fe ag player p1 p2 pn1 pc1 pn2 pc2 pp pq v := by
 obtain ⟨⟨hb, h⟩, hw⟩ := h
 have hbl := hg.block w.heap.size hb (fun e => by have := hr _ e.symm; omega)
 have e : ∀ o, v.cell? ⟨w.heap.size, o, none⟩ = u.cell? ⟨w.heap.size, o, none⟩ := fun o => World.cell?_of_block (a := ⟨w.heap.size, o, none⟩) hbl
 exact ⟨⟨Nat.lt_of_lt_of_le hb hg.size, by rw [e, e, e, e, e, e, e, e, e, e, e, e, e, e]; exact h⟩, hw.grown hg hw.size (fun k hk => by have := hr k hk; omega)⟩
theorem CpAt.alloc {w u : World} {p s c l player : Int} {st sk re fe ag : Bool} {p1 p2 : Option Addr} {pn1 pc1 pn2 pc2 : Nat} {pp pq : Int} (h : CpAt w p s c l st sk re fe ag player p1 p2 pn1 pc1 pn2 pc2 pp pq u) (o : Obj) : CpAt w p s c l st sk re fe ag player p1 p2 pn1 pc1 pn2 pc2 pp pq (u.alloc o) := h.below (al1 _ _)
theorem none_any (p s c l : Int) (st sk re fe ag : Bool) (player : Int) (p1 p2 : Option Addr) (pn1 pc1 pn2 pc2 : Nat) (pp pq : Int) (w : World) :
  Calls Try.prog 108 #[.agg #[.int .i64 p, .int .i64 s, .bool st, .bool sk, .bool re, .bool fe, .bool ag, .int .i64 c, .int .i64 l, .int .i64 player, .slice p1 pn1 pc1, .slice p2 pn2 pc2, .int .i64 pp, .int .i64 pq]] w (OwnP [] 0 w) := by
 have HS := Lib.hid (cp_new p s c l st sk re fe ag player p1 p2 pn1 pc1 pn2 pc2 pp pq w 77)
 go_enter Try.func108, Try.ntmps108
 go_wp2_with fail
 go_ret
 exact ⟨_, rfl, World.ownsRow_nil _ _ _ _, HS.out.2⟩
theorem twoThree_any (p s c l : Int) (st sk re fe ag : Bool) (player : Int) (p1 p2 : Option Addr) (pn1 pc1 pn2 pc2 : Nat) (pp pq : Int) (xs ys : List Int) (N : Nat) (w : World) (h : PosR w p1 p2 pn1 pn2 xs ys) (hq : posB xs = true) (ht : tot xs ≤ 96) (hp : 2 ≤ p ∧ p ≤ 8) (hn1 : (pn1 : Int) = 2 * p) (hpl : player = 0 ∨ player = 1) (hla : pp = (N : Int) - 1) (hN : (N : Int) ≤ 2 * p) :
  Calls Try.prog 109 #[.agg #[.int .i64 p, .int .i64 s, .bool st, .bool sk, .bool re, .bool fe, .bool ag, .int .i64 c, .int .i64 l, .int .i64 player, .slice p1 pn1 pc1, .slice p2 pn2 pc2, .int .i64 pp, .int .i64 pq]] w (OwnP (twF p player xs N) (twF p player xs N).length w) := by
 obtain ⟨i0, hi, hz0, hz1, hz2⟩ := info_parts infoN
 have HS := Lib.hid (cp_new p s c l st sk re fe ag player p1 p2 pn1 pc1 pn2 pc2 pp pq w 77)
 have H0 := Lib.hid h
 have HP := Lib.hid hp
 have HPl := Lib.hid hpl
 have HN := Lib.hid hN
 have Hn1 := Lib.hid hn1
 have HQ := Lib.hid (And.intro hq ht)
 have Hla := Lib.hid hla
 clear h hp hpl hN hn1 hq ht hla
 go_enter Try.func109, Try.ntmps109
 go_wp2_with fail
 generalize w.alloc (.cells #[.int .i64 p, .int .i64 s, .bool st, .bool sk, .bool re, .bool fe, .bool ag, .int .i64 c, .int .i64 l, .int .i64 player, .slice p1 pn1 pc1, .slice p2 pn2 pc2, .int .i64 pp, .int .i64 pq] 77) = w1 at *
 go_loopw [3, 4] (fun s0 i wr => ∃ (k m : Nat) (acc : List Int) (z : Int), i = .int .i64 z ∧ z = (k : Int) - 1 ∧ m + k ≤ 16 ∧ wr.ownsRow (w.heap.size + 1) 2 1 s0 m (nvs acc) ∧ acc.length = m ∧ acc ++ twF p player xs k = twF p player xs N ∧ k ≤ N ∧ CpAt w p s c l st sk re fe ag player p1 p2 pn1 pc1 pn2 pc2 pp pq wr) (fun _ i _ => (intOf i + 1).toNat)
 case atStart => exact ⟨N, 0, [], pp, rfl, Hla.out, by have := HN.out; have := HP.out; omega, World.ownsRow_nil _ _ _ _, rfl, rfl, Nat.le_refl _, HS.out⟩
 case round =>
  obtain ⟨k, m, acc, z, rfl, hz, hmk, hown, hlen, hacc, hkN, hC⟩ := hrel
  have HC := Lib.hid hC
  have HO := Lib.hid hown
  have HA := Lib.hid (And.intro hlen hacc)
  obtain ⟨⟨_, c0, c1, c2, c3, c4, c5, c6, c7, c8, c9, c10, c11, c12, c13⟩, -⟩ := hC
  have Hz := Lib.hid hz
  clear hown hlen hacc
  rcases k with _ | k
  ·have hb : ownB p (1 - player) z = false := by
    have h1 := HP.out
    have h2 := HPl.out
    unfold ownB
    rcases h2 with rfl | rfl <;> simp <;> omega
   have Hb := Lib.hid hb
   clear hb hz
   go_wp2_with (go_at_call 104; refine (isOther_any p s c l st sk re fe ag player p1 p2 pn1 pc1 pn2 pc2 pp pq z _ HP.out HPl.out).mono ?_; rintro e w5 ⟨rfl, hb5⟩; rw [Hb.out]; have HC := Lib.hid (HC.out.below hb5); have HO := Lib.hid (own_keep HO.out hb5); clear hb5)
   go_ret
   have e := HA.out.2
   simp only [twF, List.append_nil] at e
   rw [← e, HA.out.1]
   exact ⟨_, rfl, own_lower HO.out (by omega), HC.out.be⟩
  ·obtain rfl : z = (k : Int) := by omega
   clear hz Hz
   have HV := Lib.hid (vAt_bd HQ.out.1 HQ.out.2 (k : Int))
   have HR : Hid (∀ x ∈ [(k : Int)], 0 ≤ x ∧ x < (pn1 : Int)) := Lib.hid (fun x hx => by
    have := Hn1.out
    have := HN.out
    rcases List.mem_cons.1 hx with rfl | hx
    ·omega
    ·cases hx)
   rcases hb : ownB p (1 - player) (k : Int) with _ | _
   ·have e := HA.out.2
    rw [tw_no (by rw [hb]; rfl), List.append_nil] at e
    have Hb := Lib.hid hb
    have He := Lib.hid e
    clear hb e
    go_wp2_with (go_at_call 104; refine (isOther_any p s c l st sk re fe ag player p1 p2 pn1 pc1 pn2 pc2 pp pq (k : Int) _ HP.out HPl.out).mono ?_; rintro e w5 ⟨rfl, hb5⟩; rw [Hb.out]; have HC := Lib.hid (HC.out.below hb5); have HO := Lib.hid (own_keep HO.out hb5); clear hb5)
    go_ret
    rw [← He.out, HA.out.1]
    exact ⟨_, rfl, own_lower HO.out (by omega), HC.out.be⟩
   ·have Hb := Lib.hid hb
    have hs1 := sumAt_one xs (k : Int)
    rcases hv : (decide (vAt xs (k : Int) = 2) || decide (vAt xs (k : Int) = 3)) with _ | _
    ·have e := HA.out.2
     rw [tw_no (by rw [hb, hv]; rfl), List.append_nil] at e
     have He := Lib.hid e
     simp only [Bool.or_eq_false_iff, decide_eq_false_iff_not] at hv
     obtain ⟨hv2, hv3⟩ := hv
     generalize vAt xs (k : Int) = v at *
     have t2 : (v == 2) = false := by simpa using hv2
     have t3 : (v == 3) = false := by simpa using hv3
     have Hs1 := Lib.hid hs1
     clear hb e hv2 hv3 hs1
     go_wp2_with (first | (go_at_call 104; refine (isOther_any p s c l st sk re fe ag player p1 p2 pn1 pc1 pn2 pc2 pp pq (k : Int) _ HP.out HPl.out).mono ?_; rintro e w5 ⟨rfl, hb5⟩; rw [Hb.out]; have HC := Lib.hid (HC.out.below hb5); have HO := Lib.hid (own_keep HO.out hb5); clear hb5; obtain ⟨⟨_, c0, c1, c2, c3, c4, c5, c6, c7, c8, c9, c10, c11, c12, c13⟩, -⟩ := HC.out) | (go_at_call 105; refine (seedsIn_any p s c l st sk re fe ag player p1 p2 pn1 pc1 pn2 pc2 pp pq xs ys [(k : Int)] _ 1 1 _ ((H0.out.below HC.out.be).alloc _) HQ.out.1 HQ.out.2 HR.out rfl (by omega) (row_1 _ _ _)).mono ?_; rintro e w6 ⟨rfl, hb6⟩; rw [Hs1.out]; have HC := Lib.hid ((HC.out.alloc _).below hb6); have HO := Lib.hid (own_keep (own_keep HO.out (al1 _ _)) hb6); clear hb6; obtain ⟨⟨_, c0, c1, c2, c3, c4, c5, c6, c7, c8, c9, c10, c11, c12, c13⟩, -⟩ := HC.out))
     go_ret
     rw [← He.out, HA.out.1]
     exact ⟨_, rfl, own_lower HO.out (by omega), HC.out.be⟩
    ·have e := HA.out.2
     rw [tw_yes (by rw [hb, hv]; rfl), show ∀ (a b : List Int) (x : Int), a ++ x :: b = (a ++ [x]) ++ b from fun a b x => by simp] at e
     have He := Lib.hid e
     rw [Bool.or_eq_true, decide_eq_true_eq, decide_eq_true_eq] at hv
     generalize vAt xs (k : Int) = v at *
     have Hs1 := Lib.hid hs1
     have hbase : w.heap.size + 1 ≤ wr.heap.size := HC.out.1.1
     have hk1 : IntKind.i64.wrap ((k : Int) - 1) = (k : Int) - 1 := IntWalk.i64_in _ ⟨by omega, by omega⟩
     clear hb e hs1
     rcases hv with rfl | rfl
     all_goals
      go_wp2_with (first | (go_at_call 104; refine (isOther_any p s c l st sk re fe ag player p1 p2 pn1 pc1 pn2 pc2 pp pq (k : Int) _ HP.out HPl.out).mono ?_; rintro e w5 ⟨rfl, hb5⟩; rw [Hb.out]; have HC := Lib.hid (HC.out.below hb5); have HO := Lib.hid (own_keep HO.out hb5); clear hb5; obtain ⟨⟨_, c0, c1, c2, c3, c4, c5, c6, c7, c8, c9, c10, c11, c12, c13⟩, -⟩ := HC.out) | (go_at_call 105; refine (seedsIn_any p s c l st sk re fe ag player p1 p2 pn1 pc1 pn2 pc2 pp pq xs ys [(k : Int)] _ 1 1 _ ((H0.out.below HC.out.be).alloc _) HQ.out.1 HQ.out.2 HR.out rfl (by omega) (row_1 _ _ _)).mono ?_; rintro e w6 ⟨rfl, hb6⟩; rw [Hs1.out]; have HC := Lib.hid ((HC.out.alloc _).below hb6); have HO := Lib.hid (own_keep (own_keep HO.out (al1 _ _)) hb6); clear hb6; obtain ⟨⟨_, c0, c1, c2, c3, c4, c5, c6, c7, c8, c9, c10, c11, c12, c13⟩, -⟩ := HC.out) | (at_builtin; refine wpList_append_own _ rfl _ _ 24 rfl (w.heap.size + 1) 2 i0 (.int .i64 0) 1 8 Try.underlying24 hi hz0 hz1 hz2 rfl (by decide) _ m (nvs acc) rfl (own_keep HO.out (al1 _ _)) ⟨_, 0, none⟩ 1 1 (nvs [(k : Int)]) rfl (by simp [nvs]) (row_news (row_1 _ (k : Int) 2)) (nvs_cell _) (by unfold maxLen; omega) (by omega) (by have := HC.out.1.1; simp; omega) ?_; intro v1 w3 hown1 hgrow1 hnil1))
      go_roundw
      case rel =>
       refine ⟨k, m + 1, acc ++ [(k : Int)], (k : Int) - 1, rfl, rfl, by omega, ?_, by rw [List.length_append, HA.out.1]; rfl, He.out, by omega, ?_⟩
       ·rw [nvs_app]
        exact hown1
       ·exact (HC.out.alloc _).grown hgrow1 (fun q hq => by have := ((own_keep HO.out (al1 _ (.cells #[.int .i64 (k : Int)] 2))).lt q hq).1; omega)
      case measure => first | (simp [intOf]; done) | (simp [intOf]; omega)
end Go.Proofs.Ytmngmbpdiaocjaa
