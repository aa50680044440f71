/- A whole move in any position: what the reference's and the program's SowMove answer. No conditions. -/
import Derived.Test.YthdgmmnbbccidaaEnd5
import Derived.Test.YthdgmmnbbccidaaBegin5
import Derived.Test.YthdgmmnbbccidaaWatS
namespace Go.Proofs.Ythdgmmnbbccidaa
open Go.Joins Go.ChangeShapes Go.WideShapes Go.ChangeAt Go.RowKit Go.Deep
set_option linter.unusedVariables false

def inM (p move : Int) : Bool := decide (0 ≤ move) && decide (move < p)
/-- What a move leads to, if it ends. -/
def mvV (k : Bool) (p pp : Int) (st sk re : Bool) (xs ys : List Int) (move : Int) : Option Res :=
  if k && (inM p move && decide (xs.getD (pp * p + move).toNat 0 ≠ 0)) then mvF ⟨p, pp, st, sk, re⟩ 100 xs ys (pp * p + move) 0 [] else none
/-- The code of a move. -/
def mvCd (k : Bool) (p pp : Int) (st sk re : Bool) (xs ys : List Int) (move : Int) : Int :=
  if k then (if inM p move then (if xs.getD (pp * p + move).toNat 0 = 0 then 6 else if (mvF ⟨p, pp, st, sk, re⟩ 100 xs ys (pp * p + move) 0 []).isNone then 10 else 0) else 2) else 1
/-- The four kinds of moves. -/
theorem mv_cases {p s c l : Int} {st sk re ag : Bool} {n1 n2 : Nat} {pp : Int} {xs ys : List Int} {k : Bool} (hk : okP (okR p s c l st ag) p n1 n2 pp xs ys = k) (l1 : xs.length = n1) (move : Int) (M : Int → Option Res → Prop)
    (h1 : k = false → M 1 none) (h2 : k = true → ¬ (0 ≤ move ∧ move < p) → M 2 none)
    (h6 : k = true → 0 ≤ move → move < p → ∀ F : Nat, F < n1 → pp * p + move = F → xs.getD F 0 = 0 → M 6 none)
    (hy : k = true → 0 ≤ move → move < p → ∀ F : Nat, F < n1 → pp * p + move = F → xs.getD F 0 ≠ 0 → ∀ MV, mvF ⟨p, pp, st, sk, re⟩ 100 xs ys F 0 [] = MV → M (if MV.isNone then 10 else 0) MV) :
    M (mvCd k p pp st sk re xs ys move) (mvV k p pp st sk re xs ys move) := by
  unfold mvCd mvV
  cases k
  · simpa using h1 rfl
  · by_cases hm : 0 ≤ move ∧ move < p
    · have e1 : inM p move = true := by unfold inM; simp [hm.1, hm.2]
      obtain ⟨q1, q2, q3, q4, -⟩ := okP_parts hk
      obtain ⟨r1, r2, -⟩ := okR_bd q1
      have hmul : 0 ≤ pp * p ∧ pp * p ≤ p := by
        rcases (by omega : pp = 0 ∨ pp = 1) with e | e <;> subst e <;> omega
      obtain ⟨F, hF⟩ : ∃ F : Nat, pp * p + move = F := ⟨(pp * p + move).toNat, by omega⟩
      have hF1 : F < n1 := by omega
      rw [hF, e1]
      simp only [Bool.true_and, Int.toNat_natCast, if_true]
      by_cases he : xs.getD F 0 = 0
      · rw [if_pos he, if_neg (by simpa using he)]
        exact h6 rfl hm.1 hm.2 F hF1 hF he
      · have hd : decide (xs.getD F 0 ≠ 0) = true := decide_eq_true he
        rw [if_neg he, hd]
        exact hy rfl hm.1 hm.2 F hF1 hF he _ rfl
    · have e1 : inM p move = false := by
        unfold inM
        by_cases h : 0 ≤ move
        · simp; omega
        · simp [h]
      rw [e1]
      simpa using h2 rfl hm
theorem pl_of_ok {p s c l : Int} {st ag : Bool} {n1 n2 : Nat} {pp : Int} {xs ys : List Int} (hk : okP (okR p s c l st ag) p n1 n2 pp xs ys = true) : n2 = 2 ∧ (pp = 0 ∨ pp = 1) := by
  obtain ⟨q1, q2, q3, q4, -⟩ := okP_parts hk
  exact ⟨q3, by omega⟩
theorem l05Move_any (p s c l : Int) (st sk re fe ag : Bool) (p1 p2 : Option Addr) (pn1 pc1 pn2 pc2 : Nat) (pp : Int) (xs ys : List Int) (rb pb : Nat) (move : Int) (w : World) (hr : RuAt w rb p s c l st sk re fe ag) (hq : PoAt w pb p1 p2 pn1 pc1 pn2 pc2 pp) (h : PosR w p1 p2 pn1 pn2 xs ys) (k : Bool) (hk : okP (okR p s c l st ag) p pn1 pn2 pp xs ys = k) :
    Calls Try.prog 65 #[.pointer (some ⟨rb, 0, none⟩), .pointer (some ⟨pb, 0, none⟩), .int .i64 move] w (SwC pn1 (mvCd k p pp st sk re xs ys move) (mvV k p pp st sk re xs ys move) w) := by
  refine mv_cases (sk := sk) (re := re) hk h.l1 move (fun cd MV => Calls Try.prog 65 #[.pointer (some ⟨rb, 0, none⟩), .pointer (some ⟨pb, 0, none⟩), .int .i64 move] w (SwC pn1 cd MV w)) ?_ ?_ ?_ ?_
  · intro e
    exact l05Move_err rb pb move 1 rfl w (fun u hu => code_invalid p s c l st sk re fe ag _ _ _ _ _ _ _ xs ys rb pb move u (hr.below hu) (hq.below hu) (h.below hu) (hk.trans e))
  · intro e hm
    exact l05Move_err rb pb move 2 rfl w (fun u hu => code_range p s c l st sk re fe ag _ _ _ _ _ _ _ xs ys rb pb move u (hr.below hu) (hq.below hu) (h.below hu) (hk.trans e) hm)
  · intro e m0 m1 F hF hf he
    exact l05Move_err rb pb move 6 rfl w (fun u hu => code_empty p s c l st sk re fe ag _ _ _ _ _ _ _ xs ys rb pb move u (hr.below hu) (hq.below hu) (h.below hu) (hk.trans e) F hF hf m0 m1 he)
  · intro e m0 m1 F hF hf he MV hMV
    have hk1 := hk.trans e
    obtain ⟨rfl, hpl⟩ := pl_of_ok hk1
    have hC : Calls Try.prog 65 #[.pointer (some ⟨rb, 0, none⟩), .pointer (some ⟨pb, 0, none⟩), .int .i64 move] w (SwC pn1 10 MV w) := by
      rcases hpl with rfl | rfl
      · exact l05Move_yes0 p s c l st sk re fe ag p1 p2 pn1 pc1 pc2 xs ys F rb pb move w hr hq h hk1 hF hf m0 m1 he MV hMV
      · exact l05Move_yes1 p s c l st sk re fe ag p1 p2 pn1 pc1 pc2 xs ys F rb pb move w hr hq h hk1 hF hf m0 m1 he MV hMV
    cases MV
    · exact hC
    · exact hC
/-- What SowMove answers. -/
def SoV (n1 : Nat) (cd : Int) (MV : Option Res) (w : World) (e : Ending) (w' : World) : Prop :=
  match MV with
  | none => SoZ 0 0 0 0 cd [] [] w e w'
  | some m => SoZ n1 2 m.last m.laps 0 m.xs m.ys w e w'
theorem implMove_any (p s c l : Int) (st sk re fe ag : Bool) (p1 p2 : Option Addr) (pn1 pc1 pn2 pc2 : Nat) (pp : Int) (xs ys : List Int) (move : Int) (w : World) (h : PosR w p1 p2 pn1 pn2 xs ys) (k : Bool) (hk : okP (okR p s c l st ag) p pn1 pn2 pp xs ys = k) :
    Calls Try.prog 24 #[.agg #[.int .i64 p, .int .i64 s, .bool st, .bool sk, .bool re, .bool fe, .bool ag, .int .i64 c, .int .i64 l], .agg #[.slice p1 pn1 pc1, .slice p2 pn2 pc2, .int .i64 pp], .int .i64 move] w (SoV pn1 (mvCd k p pp st sk re xs ys move) (mvV k p pp st sk re xs ys move) w) := by
  refine mv_cases (sk := sk) (re := re) hk h.l1 move (fun cd MV => Calls Try.prog 24 #[.agg #[.int .i64 p, .int .i64 s, .bool st, .bool sk, .bool re, .bool fe, .bool ag, .int .i64 c, .int .i64 l], .agg #[.slice p1 pn1 pc1, .slice p2 pn2 pc2, .int .i64 pp], .int .i64 move] w (SoV pn1 cd MV w)) ?_ ?_ ?_ ?_
  · intro e
    exact implMove_err p s c l st sk re fe ag p1 p2 pn1 pc1 pn2 pc2 pp move 1 rfl w (fun u hu => begin_invalid p s c l st sk re fe ag _ _ _ _ _ _ _ xs ys move u (h.below hu) (hk.trans e))
  · intro e hm
    exact implMove_err p s c l st sk re fe ag p1 p2 pn1 pc1 pn2 pc2 pp move 2 rfl w (fun u hu => begin_range p s c l st sk re fe ag _ _ _ _ _ _ _ xs ys move u (h.below hu) (hk.trans e) hm)
  · intro e m0 m1 F hF hf he
    exact implMove_err p s c l st sk re fe ag p1 p2 pn1 pc1 pn2 pc2 pp move 6 rfl w (fun u hu => begin_empty p s c l st sk re fe ag _ _ _ _ _ _ _ xs ys move u (h.below hu) (hk.trans e) F hF hf m0 m1 he)
  · intro e m0 m1 F hF hf he MV hMV
    have hk1 := hk.trans e
    obtain ⟨rfl, hpl⟩ := pl_of_ok hk1
    have hC : Calls Try.prog 24 #[.agg #[.int .i64 p, .int .i64 s, .bool st, .bool sk, .bool re, .bool fe, .bool ag, .int .i64 c, .int .i64 l], .agg #[.slice p1 pn1 pc1, .slice p2 2 pc2, .int .i64 pp], .int .i64 move] w (MvQ pn1 MV w) := by
      rcases hpl with rfl | rfl
      · exact implMove0 p s c l st sk re fe ag p1 p2 pn1 pc1 2 pc2 xs ys move w h hk1 F hF hf m0 m1 he MV hMV
      · exact implMove1 p s c l st sk re fe ag p1 p2 pn1 pc1 2 pc2 xs ys move w h hk1 F hF hf m0 m1 he MV hMV
    cases MV
    · exact hC
    · exact hC
set_option maxHeartbeats 2000000 in
set_option maxRecDepth 100000 in
theorem implEnd_any (p s c l : Int) (st sk re fe ag : Bool) (p1 p2 : Option Addr) (pn1 pc1 pn2 pc2 : Nat) (pp : Int) (xs ys : List Int) (move : Int) (w : World) (h : PosR w p1 p2 pn1 pn2 xs ys) (k : Bool) (hk : okP (okR p s c l st ag) p pn1 pn2 pp xs ys = k) :
    Calls Try.prog 31 #[.agg #[.int .i64 p, .int .i64 s, .bool st, .bool sk, .bool re, .bool fe, .bool ag, .int .i64 c, .int .i64 l], .agg #[.slice p1 pn1 pc1, .slice p2 pn2 pc2, .int .i64 pp], .int .i64 move] w fun e w' => e = .returned (.bool (mvCd k p pp st sk re xs ys move == 10)) ∧ Below w.heap.size w w' := by
  have H := Lib.hid h
  have HS := Lib.hid (rp_new p s c l st sk re fe ag p1 p2 pn1 pc1 pn2 pc2 pp w 32 34)
  have HC : Hid (∀ u, Below w.heap.size w u → Calls Try.prog 24 #[.agg #[.int .i64 p, .int .i64 s, .bool st, .bool sk, .bool re, .bool fe, .bool ag, .int .i64 c, .int .i64 l], .agg #[.slice p1 pn1 pc1, .slice p2 pn2 pc2, .int .i64 pp], .int .i64 move] u fun e w' => ∃ a1 n1 c1 a2 n2 c2 i1 i2, e = .returned (.tuple #[.agg #[.slice a1 n1 c1, .slice a2 n2 c2, .int .i64 i1, .int .i64 i2], .int .i64 (mvCd k p pp st sk re xs ys move)]) ∧ Below u.heap.size u w') := Lib.hid (fun u hu => by
    refine mv_cases (sk := sk) (re := re) hk h.l1 move (fun cd MV => Calls Try.prog 24 #[.agg #[.int .i64 p, .int .i64 s, .bool st, .bool sk, .bool re, .bool fe, .bool ag, .int .i64 c, .int .i64 l], .agg #[.slice p1 pn1 pc1, .slice p2 pn2 pc2, .int .i64 pp], .int .i64 move] u (SoV pn1 cd MV u) → Calls Try.prog 24 #[.agg #[.int .i64 p, .int .i64 s, .bool st, .bool sk, .bool re, .bool fe, .bool ag, .int .i64 c, .int .i64 l], .agg #[.slice p1 pn1 pc1, .slice p2 pn2 pc2, .int .i64 pp], .int .i64 move] u fun e w' => ∃ a1 n1 c1 a2 n2 c2 i1 i2, e = .returned (.tuple #[.agg #[.slice a1 n1 c1, .slice a2 n2 c2, .int .i64 i1, .int .i64 i2], .int .i64 cd]) ∧ Below u.heap.size u w') ?_ ?_ ?_ ?_ (implMove_any p s c l st sk re fe ag p1 p2 pn1 pc1 pn2 pc2 pp xs ys move u (h.below hu) k hk)
    · intro _ hc
      exact hc.mono (by rintro e w5 ⟨a1, c1, b1, a2, c2, b2, rfl, -, -, -, -, -, hb⟩; exact ⟨_, _, _, _, _, _, _, _, rfl, hb⟩)
    · intro _ _ hc
      exact hc.mono (by rintro e w5 ⟨a1, c1, b1, a2, c2, b2, rfl, -, -, -, -, -, hb⟩; exact ⟨_, _, _, _, _, _, _, _, rfl, hb⟩)
    · intro _ _ _ _ _ _ _ hc
      exact hc.mono (by rintro e w5 ⟨a1, c1, b1, a2, c2, b2, rfl, -, -, -, -, -, hb⟩; exact ⟨_, _, _, _, _, _, _, _, rfl, hb⟩)
    · intro _ _ _ _ _ _ _ MV _ hc
      cases MV
      · exact hc.mono (by rintro e w5 ⟨a1, c1, b1, a2, c2, b2, rfl, -, -, -, -, -, hb⟩; exact ⟨_, _, _, _, _, _, _, _, rfl, hb⟩)
      · exact hc.mono (by rintro e w5 ⟨a1, c1, b1, a2, c2, b2, rfl, -, -, -, -, -, hb⟩; exact ⟨_, _, _, _, _, _, _, _, rfl, hb⟩))
  generalize mvCd k p pp st sk re xs ys move = cd at *
  clear h hk
  go_enter Try.func31, Try.ntmps31
  go_wp2_with fail
  refine (HC.out _ HS.out.2.2).mono ?_
  rintro e w5 ⟨a1, n1, c1, a2, n2, c2, i1, i2, rfl, hb⟩
  have HS := Lib.hid (HS.out.below hb)
  clear hb
  go_wp2_with fail
  go_ret
  exact ⟨rfl, HS.out.2.2.alloc HS.out.2.2.size _⟩
set_option maxHeartbeats 2000000 in
set_option maxRecDepth 100000 in
theorem specEnd_any (p s c l : Int) (st sk re fe ag : Bool) (p1 p2 : Option Addr) (pn1 pc1 pn2 pc2 : Nat) (pp : Int) (xs ys : List Int) (move : Int) (w : World) (h : PosR w p1 p2 pn1 pn2 xs ys) (k : Bool) (hk : okP (okR p s c l st ag) p pn1 pn2 pp xs ys = k) :
    Calls Try.prog 30 #[.agg #[.int .i64 p, .int .i64 s, .bool st, .bool sk, .bool re, .bool fe, .bool ag, .int .i64 c, .int .i64 l], .agg #[.slice p1 pn1 pc1, .slice p2 pn2 pc2, .int .i64 pp], .int .i64 move] w fun e w' => e = .returned (.bool (mvCd k p pp st sk re xs ys move == 10)) ∧ Below w.heap.size w w' := by
  have H := Lib.hid h
  have HS := Lib.hid (rp_new p s c l st sk re fe ag p1 p2 pn1 pc1 pn2 pc2 pp w 32 34)
  have HC : Hid (∀ u, RpAt w p s c l st sk re fe ag p1 p2 pn1 pc1 pn2 pc2 pp u → Calls Try.prog 65 #[.pointer (some ⟨w.heap.size, 0, none⟩), .pointer (some ⟨w.heap.size + 1, 0, none⟩), .int .i64 move] u fun e w' => ∃ a1 n1 c1 a2 n2 c2 i1 i2 v2, e = .returned (.tuple #[.agg #[.slice a1 n1 c1, .slice a2 n2 c2, .int .i64 i1, .int .i64 i2], v2, .int .i64 (mvCd k p pp st sk re xs ys move)]) ∧ Below u.heap.size u w') := Lib.hid (fun u hu => by
    refine mv_cases (sk := sk) (re := re) hk h.l1 move (fun cd MV => Calls Try.prog 65 #[.pointer (some ⟨w.heap.size, 0, none⟩), .pointer (some ⟨w.heap.size + 1, 0, none⟩), .int .i64 move] u (SwC pn1 cd MV u) → Calls Try.prog 65 #[.pointer (some ⟨w.heap.size, 0, none⟩), .pointer (some ⟨w.heap.size + 1, 0, none⟩), .int .i64 move] u fun e w' => ∃ a1 n1 c1 a2 n2 c2 i1 i2 v2, e = .returned (.tuple #[.agg #[.slice a1 n1 c1, .slice a2 n2 c2, .int .i64 i1, .int .i64 i2], v2, .int .i64 cd]) ∧ Below u.heap.size u w') ?_ ?_ ?_ ?_ (l05Move_any p s c l st sk re fe ag p1 p2 pn1 pc1 pn2 pc2 pp xs ys _ _ move u hu.1 hu.2.1 (h.below hu.2.2) k hk)
    · intro _ hc
      exact hc.mono (by rintro e w5 ⟨rfl, hb⟩; exact ⟨_, _, _, _, _, _, _, _, _, rfl, hb⟩)
    · intro _ _ hc
      exact hc.mono (by rintro e w5 ⟨rfl, hb⟩; exact ⟨_, _, _, _, _, _, _, _, _, rfl, hb⟩)
    · intro _ _ _ _ _ _ _ hc
      exact hc.mono (by rintro e w5 ⟨rfl, hb⟩; exact ⟨_, _, _, _, _, _, _, _, _, rfl, hb⟩)
    · intro _ _ _ _ _ _ _ MV _ hc
      cases MV
      · exact hc.mono (by rintro e w5 ⟨rfl, hb⟩; exact ⟨_, _, _, _, _, _, _, _, _, rfl, hb⟩)
      · exact hc.mono (by rintro e w5 ⟨b1, c1, b2, c2, v, rfl, -, -, -, -, -, -, hb⟩; exact ⟨_, _, _, _, _, _, _, _, _, rfl, hb⟩))
  generalize mvCd k p pp st sk re xs ys move = cd at *
  clear h hk
  go_enter Try.func30, Try.ntmps30
  go_wp2_with fail
  refine (HC.out _ HS.out).mono ?_
  rintro e w5 ⟨a1, n1, c1, a2, n2, c2, i1, i2, v2, rfl, hb⟩
  have HS := Lib.hid (HS.out.below hb)
  clear hb
  go_wp2_with fail
  go_ret
  exact ⟨rfl, HS.out.2.2.alloc HS.out.2.2.size _⟩
end Go.Proofs.Ythdgmmnbbccidaa
