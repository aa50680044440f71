/- IsSlam, CaptureGain and CapturePits of the reference; both sides, valid or not. No conditions. -/
import Derived.Test.YtdhkfkfoibddnaaRefC3
namespace Go.Proofs.Ytdhkfkfoibddnaa
open Go.Joins Go.ChangeShapes Go.WideShapes Go.ChangeAt Go.RowKit Go.Deep
set_option linter.unusedVariables false

set_option maxHeartbeats 2000000 in
set_option maxRecDepth 100000 in
theorem specGain_yes (p s c l : Int) (st sk re fe ag : Bool) (player : Int) (p1 p2 : Option Addr) (pn1 pc1 pn2 pc2 : Nat) (pp pq : Int) (xs ys : List Int) (w : World) (h : PosR w p1 p2 pn1 pn2 xs ys) (hk : okS (okR p s c l st ag) p st pn1 pn2 pp pq player xs ys = true) :
    Calls Try.prog 42 #[.agg #[.int .i64 p, .int .i64 s, .bool st, .bool sk, .bool re, .bool fe, .bool ag, .int .i64 c, .int .i64 l], .agg #[.slice p1 pn1 pc1, .slice p2 pn2 pc2, .int .i64 pp, .int .i64 pq], .int .i64 player] w fun e w' => e = .returned (.tuple #[.int .i64 (sumAt xs (pitsF c l p player pp xs)), .int .i64 0]) ∧ Below w.heap.size w w' := by
  have H0 := Lib.hid h
  have Hk := Lib.hid hk
  have HS := Lib.hid (rs_new p s c l st sk re fe ag p1 p2 pn1 pc1 pn2 pc2 pp pq w 30 50)
  have G := Lib.hid (good_of p s c l st sk re fe ag hk)
  clear h hk
  go_enter Try.func42, Try.ntmps42
  go_wp2_with fail
  refine (l06Ok_any p s c l st sk re fe ag p1 p2 pn1 pc1 pn2 pc2 pp pq xs ys player _ _ _ HS.out.1 HS.out.2.1 (H0.out.below HS.out.2.2) _ Hk.out).mono ?_
  rintro e w2 ⟨rfl, hb⟩
  have HS := Lib.hid (HS.out.below hb)
  clear hb
  go_wp2_with fail
  refine (l06Pits_any p s c l st sk re fe ag player p1 p2 pn1 pc1 pn2 pc2 pp pq xs ys _ _ _ HS.out.1 HS.out.2.1 (H0.out.below HS.out.2.2) G.out).mono ?_
  rintro e w3 ⟨v3, rfl, hown, hb⟩
  have HLp : Hid ((pitsF c l p player pp xs).length ≤ 1000) := Lib.hid (by have := pits_len (cp := c) (sl := l) (pl := player) (xs := xs) G.out.p2.2 G.out.p2.1 G.out.l2; omega)
  obtain ⟨a3, cc3, rfl, hr3⟩ := own_slice hown rfl HLp.out
  have HR3 := Lib.hid hr3
  have HS := Lib.hid (HS.out.below hb)
  clear hb hown hr3
  go_wp2_with fail
  refine (l06Sum_any p1 p2 pn1 pc1 pn2 pc2 pp pq xs ys _ _ a3 cc3 _ _ HS.out.2.1 (H0.out.below HS.out.2.2) G.out.q1 G.out.t1 (fun k hk => by have := pits_in G.out.l2 k hk; have := G.out.n1; omega) rfl HLp.out HR3.out).mono ?_
  rintro e w4 ⟨rfl, hb⟩
  have HS := Lib.hid (HS.out.below hb)
  clear hb
  go_wp2_with fail
  go_ret2
  exact ⟨rfl, HS.out.2.2⟩
set_option maxHeartbeats 2000000 in
set_option maxRecDepth 100000 in
theorem specGain_no (p s c l : Int) (st sk re fe ag : Bool) (player : Int) (p1 p2 : Option Addr) (pn1 pc1 pn2 pc2 : Nat) (pp pq : Int) (xs ys : List Int) (w : World) (h : PosR w p1 p2 pn1 pn2 xs ys) (hk : okS (okR p s c l st ag) p st pn1 pn2 pp pq player xs ys = false) :
    Calls Try.prog 42 #[.agg #[.int .i64 p, .int .i64 s, .bool st, .bool sk, .bool re, .bool fe, .bool ag, .int .i64 c, .int .i64 l], .agg #[.slice p1 pn1 pc1, .slice p2 pn2 pc2, .int .i64 pp, .int .i64 pq], .int .i64 player] w fun e w' => e = .returned (.tuple #[.int .i64 0, .int .i64 1]) ∧ Below w.heap.size w w' := by
  have H0 := Lib.hid h
  have Hk := Lib.hid hk
  have HS := Lib.hid (rs_new p s c l st sk re fe ag p1 p2 pn1 pc1 pn2 pc2 pp pq w 30 50)
  skip
  clear h hk
  go_enter Try.func42, Try.ntmps42
  go_wp2_with fail
  refine (l06Ok_any p s c l st sk re fe ag p1 p2 pn1 pc1 pn2 pc2 pp pq xs ys player _ _ _ HS.out.1 HS.out.2.1 (H0.out.below HS.out.2.2) _ Hk.out).mono ?_
  rintro e w2 ⟨rfl, hb⟩
  have HS := Lib.hid (HS.out.below hb)
  clear hb
  go_wp2_with fail
  go_ret2
  exact ⟨rfl, HS.out.2.2⟩
theorem specGain_b (p s c l : Int) (st sk re fe ag : Bool) (player : Int) (p1 p2 : Option Addr) (pn1 pc1 pn2 pc2 : Nat) (pp pq : Int) (xs ys : List Int) (w : World) (h : PosR w p1 p2 pn1 pn2 xs ys) (k : Bool) (hk : okS (okR p s c l st ag) p st pn1 pn2 pp pq player xs ys = k) :
    Calls Try.prog 42 #[.agg #[.int .i64 p, .int .i64 s, .bool st, .bool sk, .bool re, .bool fe, .bool ag, .int .i64 c, .int .i64 l], .agg #[.slice p1 pn1 pc1, .slice p2 pn2 pc2, .int .i64 pp, .int .i64 pq], .int .i64 player] w fun e w' => e = .returned (.tuple #[.int .i64 (gainV k (sumAt xs (pitsF c l p player pp xs))), .int .i64 (capC k)]) ∧ Below w.heap.size w w' := by
  cases k
  · exact specGain_no p s c l st sk re fe ag player p1 p2 pn1 pc1 pn2 pc2 pp pq xs ys w h hk
  · exact specGain_yes p s c l st sk re fe ag player p1 p2 pn1 pc1 pn2 pc2 pp pq xs ys w h hk
theorem implGain_b (p s c l : Int) (st sk re fe ag : Bool) (player : Int) (p1 p2 : Option Addr) (pn1 pc1 pn2 pc2 : Nat) (pp pq : Int) (xs ys : List Int) (w : World) (h : PosR w p1 p2 pn1 pn2 xs ys) (k : Bool) (hk : okS (okR p s c l st ag) p st pn1 pn2 pp pq player xs ys = k) (hcap : pn1 ≤ pc1) :
    Calls Try.prog 43 #[.agg #[.int .i64 p, .int .i64 s, .bool st, .bool sk, .bool re, .bool fe, .bool ag, .int .i64 c, .int .i64 l], .agg #[.slice p1 pn1 pc1, .slice p2 pn2 pc2, .int .i64 pp, .int .i64 pq], .int .i64 player] w fun e w' => e = .returned (.tuple #[.int .i64 (gainV k (sumAt xs (pitsF c l p player pp xs))), .int .i64 (capC k)]) ∧ Below w.heap.size w w' := by
  cases k
  · exact implGain_no p s c l st sk re fe ag player p1 p2 pn1 pc1 pn2 pc2 pp pq xs ys w h hk
  · exact implGain_yes p s c l st sk re fe ag player p1 p2 pn1 pc1 pn2 pc2 pp pq xs ys w h hk hcap
/-- The pits that are captured, none if nothing is valid. -/
def ptL (k : Bool) (L : List Int) : List Int := if k then L else []
set_option maxHeartbeats 2000000 in
set_option maxRecDepth 100000 in
theorem specPits_yes (p s c l : Int) (st sk re fe ag : Bool) (player : Int) (p1 p2 : Option Addr) (pn1 pc1 pn2 pc2 : Nat) (pp pq : Int) (xs ys : List Int) (w : World) (h : PosR w p1 p2 pn1 pn2 xs ys) (hk : okS (okR p s c l st ag) p st pn1 pn2 pp pq player xs ys = true) :
    Calls Try.prog 40 #[.agg #[.int .i64 p, .int .i64 s, .bool st, .bool sk, .bool re, .bool fe, .bool ag, .int .i64 c, .int .i64 l], .agg #[.slice p1 pn1 pc1, .slice p2 pn2 pc2, .int .i64 pp, .int .i64 pq], .int .i64 player] w (OwnT (pitsF c l p player pp xs) (pitsF c l p player pp xs).length 0 w) := by
  have H0 := Lib.hid h
  have Hk := Lib.hid hk
  have HS := Lib.hid (rs_new p s c l st sk re fe ag p1 p2 pn1 pc1 pn2 pc2 pp pq w 30 50)
  have G := Lib.hid (good_of p s c l st sk re fe ag hk)
  clear h hk
  go_enter Try.func40, Try.ntmps40
  go_wp2_with fail
  refine (l06Ok_any p s c l st sk re fe ag p1 p2 pn1 pc1 pn2 pc2 pp pq xs ys player _ _ _ HS.out.1 HS.out.2.1 (H0.out.below HS.out.2.2) _ Hk.out).mono ?_
  rintro e w2 ⟨rfl, hb⟩
  have HS := Lib.hid (HS.out.below hb)
  clear hb
  go_wp2_with fail
  refine (l06Pits_any p s c l st sk re fe ag player p1 p2 pn1 pc1 pn2 pc2 pp pq xs ys _ _ _ HS.out.1 HS.out.2.1 (H0.out.below HS.out.2.2) G.out).mono ?_
  rintro e w3 ⟨v3, rfl, hown, hb⟩
  have HO := Lib.hid (own_lower hown HS.out.2.2.size)
  have HS := Lib.hid (HS.out.below hb)
  clear hb hown
  go_wp2_with fail
  go_ret2
  exact ⟨_, rfl, HO.out, HS.out.2.2⟩
set_option maxHeartbeats 2000000 in
set_option maxRecDepth 100000 in
theorem specPits_no (p s c l : Int) (st sk re fe ag : Bool) (player : Int) (p1 p2 : Option Addr) (pn1 pc1 pn2 pc2 : Nat) (pp pq : Int) (xs ys : List Int) (w : World) (h : PosR w p1 p2 pn1 pn2 xs ys) (hk : okS (okR p s c l st ag) p st pn1 pn2 pp pq player xs ys = false) :
    Calls Try.prog 40 #[.agg #[.int .i64 p, .int .i64 s, .bool st, .bool sk, .bool re, .bool fe, .bool ag, .int .i64 c, .int .i64 l], .agg #[.slice p1 pn1 pc1, .slice p2 pn2 pc2, .int .i64 pp, .int .i64 pq], .int .i64 player] w (OwnT [] 0 1 w) := by
  have H0 := Lib.hid h
  have Hk := Lib.hid hk
  have HS := Lib.hid (rs_new p s c l st sk re fe ag p1 p2 pn1 pc1 pn2 pc2 pp pq w 30 50)
  skip
  clear h hk
  go_enter Try.func40, Try.ntmps40
  go_wp2_with fail
  refine (l06Ok_any p s c l st sk re fe ag p1 p2 pn1 pc1 pn2 pc2 pp pq xs ys player _ _ _ HS.out.1 HS.out.2.1 (H0.out.below HS.out.2.2) _ Hk.out).mono ?_
  rintro e w2 ⟨rfl, hb⟩
  have HS := Lib.hid (HS.out.below hb)
  clear hb
  go_wp2_with fail
  go_ret2
  exact ⟨_, rfl, World.ownsRow_nil _ _ _ _, HS.out.2.2⟩
theorem specPits_b (p s c l : Int) (st sk re fe ag : Bool) (player : Int) (p1 p2 : Option Addr) (pn1 pc1 pn2 pc2 : Nat) (pp pq : Int) (xs ys : List Int) (w : World) (h : PosR w p1 p2 pn1 pn2 xs ys) (k : Bool) (hk : okS (okR p s c l st ag) p st pn1 pn2 pp pq player xs ys = k) :
    Calls Try.prog 40 #[.agg #[.int .i64 p, .int .i64 s, .bool st, .bool sk, .bool re, .bool fe, .bool ag, .int .i64 c, .int .i64 l], .agg #[.slice p1 pn1 pc1, .slice p2 pn2 pc2, .int .i64 pp, .int .i64 pq], .int .i64 player] w (OwnT (ptL k (pitsF c l p player pp xs)) (ptL k (pitsF c l p player pp xs)).length (capC k) w) := by
  cases k
  · exact specPits_no p s c l st sk re fe ag player p1 p2 pn1 pc1 pn2 pc2 pp pq xs ys w h hk
  · exact specPits_yes p s c l st sk re fe ag player p1 p2 pn1 pc1 pn2 pc2 pp pq xs ys w h hk
theorem implPits_b (p s c l : Int) (st sk re fe ag : Bool) (player : Int) (p1 p2 : Option Addr) (pn1 pc1 pn2 pc2 : Nat) (pp pq : Int) (xs ys : List Int) (w : World) (h : PosR w p1 p2 pn1 pn2 xs ys) (k : Bool) (hk : okS (okR p s c l st ag) p st pn1 pn2 pp pq player xs ys = k) (hcap : pn1 ≤ pc1) :
    Calls Try.prog 41 #[.agg #[.int .i64 p, .int .i64 s, .bool st, .bool sk, .bool re, .bool fe, .bool ag, .int .i64 c, .int .i64 l], .agg #[.slice p1 pn1 pc1, .slice p2 pn2 pc2, .int .i64 pp, .int .i64 pq], .int .i64 player] w (OwnT (ptL k (pitsF c l p player pp xs)) (ptL k (pitsF c l p player pp xs)).length (capC k) w) := by
  cases k
  · exact implPits_no p s c l st sk re fe ag player p1 p2 pn1 pc1 pn2 pc2 pp pq xs ys w h hk
  · exact implPits_yes p s c l st sk re fe ag player p1 p2 pn1 pc1 pn2 pc2 pp pq xs ys w h hk hcap
end Go.Proofs.Ytdhkfkfoibddnaa
