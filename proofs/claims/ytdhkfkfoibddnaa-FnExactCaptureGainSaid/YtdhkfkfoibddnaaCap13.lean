/- Slams, gains and pits of captures, as the program answers. No conditions. -/
import Derived.Test.YtdhkfkfoibddnaaCap12
import Derived.Deep.RegionHeld3
namespace Go.Proofs.Ytdhkfkfoibddnaa
open Go.Joins Go.ChangeShapes Go.WideShapes Go.ChangeAt Go.RowKit Go.Deep
set_option linter.unusedVariables false

/-- A row of a call's own, and a code. -/
def OwnT (L : List Int) (n : Nat) (code : Int) (w : World) (e : Ending) (w' : World) : Prop :=
  ∃ v, e = .returned (.tuple #[v, .int .i64 code]) ∧ w'.ownsRow w.heap.size 2 1 v n (nvs L) ∧ Below w.heap.size w w'
def gainV (k : Bool) (t : Int) : Int := if k then t else 0
set_option maxHeartbeats 4000000 in
set_option maxRecDepth 100000 in
theorem implGain_yes (p s c l : Int) (st sk re fe ag : Bool) (player : Int) (p1 p2 : Option Addr) (pn1 pc1 pn2 pc2 : Nat) (pp pq : Int) (xs ys : List Int) (w : World) (h : PosR w p1 p2 pn1 pn2 xs ys) (hk : okS (okR p s c l st ag) p st pn1 pn2 pp pq player xs ys = true) (hcap : pn1 ≤ pc1) :
    Calls Try.prog 43 #[.agg #[.int .i64 p, .int .i64 s, .bool st, .bool sk, .bool re, .bool fe, .bool ag, .int .i64 c, .int .i64 l], .agg #[.slice p1 pn1 pc1, .slice p2 pn2 pc2, .int .i64 pp, .int .i64 pq], .int .i64 player] w fun e w' => e = .returned (.tuple #[.int .i64 (sumAt xs (pitsF c l p player pp xs)), .int .i64 0]) ∧ Below w.heap.size w w' := by
  have g := good_of p s c l st sk re fe ag hk
  have G := Lib.hid g
  have H0 := Lib.hid h
  have Hk := Lib.hid hk
  have Hcap := Lib.hid hcap
  have HS := Lib.hid (rs_new p s c l st sk re fe ag p1 p2 pn1 pc1 pn2 pc2 pp pq w 30 50)
  have HRaw : Hid (∀ u, Below w.heap.size w u → Calls Try.prog 79 #[.agg #[.int .i64 p, .int .i64 s, .bool st, .bool sk, .bool re, .bool fe, .bool ag, .int .i64 c, .int .i64 l, .int .i64 player, .slice p1 pn1 pc1, .slice p2 pn2 pc2, .int .i64 pp, .int .i64 pq]] u (OwnP (rawF c p player pp xs) (rawF c p player pp xs).length u)) := Lib.hid (fun u hu => rawI_any p s c l st sk re fe ag player _ _ _ _ _ _ _ _ xs ys u (h.below hu) g)
  have HPits : Hid (∀ u, Below w.heap.size w u → Calls Try.prog 59 #[.agg #[.int .i64 p, .int .i64 s, .bool st, .bool sk, .bool re, .bool fe, .bool ag, .int .i64 c, .int .i64 l, .int .i64 player, .slice p1 pn1 pc1, .slice p2 pn2 pc2, .int .i64 pp, .int .i64 pq]] u (OwnP (pitsF c l p player pp xs) (pitsF c l p player pp xs).length u)) := Lib.hid (fun u hu => pits_any p s c l st sk re fe ag player _ _ _ _ _ _ _ _ xs ys u (h.below hu) g hcap)
  have HLn : Hid ((rawF c p player pp xs).length ≤ 1000) := Lib.hid (by have := raw_len (cp := c) (pl := player) (xs := xs) g.p2.2 g.p2.1 g.l2; omega)
  have HLp : Hid ((pitsF c l p player pp xs).length ≤ 1000) := Lib.hid (by have := pits_len (cp := c) (sl := l) (pl := player) (xs := xs) g.p2.2 g.p2.1 g.l2; omega)
  have HRin := Lib.hid (g.raw c)
  have HPin : Hid (∀ k ∈ pitsF c l p player pp xs, 0 ≤ k ∧ k < (pn1 : Int)) := Lib.hid (fun k hk => by have := pits_in g.l2 k hk; have := g.n1; omega)
  clear g h hk hcap
  go_enter Try.func43, Try.ntmps43
  go_wp2_with fail
  refine (beginC_yes p s c l st sk re fe ag player p1 p2 pn1 pc1 pn2 pc2 pp pq xs ys _ (H0.out.below HS.out.2.2) Hk.out).mono ?_
  rintro e w2 ⟨rfl, hb⟩
  have HS := Lib.hid (HS.out.below hb)
  have HBe : Hid (∀ v, Below w2.heap.size w2 v → Below w.heap.size w v) := Lib.hid (fun v hv => HS.out.2.2.trans (hv.mono HS.out.2.2.size))
  have HX := Lib.hid (cp_new p s c l st sk re fe ag player p1 p2 pn1 pc1 pn2 pc2 pp pq w2 73)
  obtain ⟨⟨_, c0, c1, c2, c3, c4, c5, c6, c7, c8, c9, c10, c11, c12, c13⟩, -⟩ := HX.out
  clear hb
  go_wp2_with fail
  go_region_held3 (fun u => (w2.heap.size < u.heap.size ∧ u.cell? ⟨w2.heap.size, 0, none⟩ = some (.int .i64 p) ∧ u.cell? ⟨w2.heap.size, 1, none⟩ = some (.int .i64 s) ∧ u.cell? ⟨w2.heap.size, 2, none⟩ = some (.bool st) ∧ u.cell? ⟨w2.heap.size, 3, none⟩ = some (.bool sk) ∧ u.cell? ⟨w2.heap.size, 4, none⟩ = some (.bool re) ∧ u.cell? ⟨w2.heap.size, 5, none⟩ = some (.bool fe) ∧ u.cell? ⟨w2.heap.size, 6, none⟩ = some (.bool ag) ∧ u.cell? ⟨w2.heap.size, 7, none⟩ = some (.int .i64 c) ∧ u.cell? ⟨w2.heap.size, 8, none⟩ = some (.int .i64 l) ∧ u.cell? ⟨w2.heap.size, 9, none⟩ = some (.int .i64 player) ∧ u.cell? ⟨w2.heap.size, 10, none⟩ = some (.slice p1 pn1 pc1) ∧ u.cell? ⟨w2.heap.size, 11, none⟩ = some (.slice p2 pn2 pc2) ∧ u.cell? ⟨w2.heap.size, 12, none⟩ = some (.int .i64 pp) ∧ u.cell? ⟨w2.heap.size, 13, none⟩ = some (.int .i64 pq)) ∧ Below w2.heap.size w2 u) (first | exact HX.out | exact HX.out.drew)
    (first
    | (go_at_call 59; refine (HPits.out _ (HBe.out _ (by first | exact HX.out.be | exact HX.out.drew.be))).mono ?_; rintro e w5 ⟨v5, rfl, hown, hb5⟩; obtain ⟨a5, cc5, rfl, hr5⟩ := own_slice hown rfl HLp.out; have HR5 := Lib.hid hr5; have HX := Lib.hid (by first | exact HX.out.below hb5 | exact HX.out.drew.below hb5 : CpAt w2 p s c l st sk re fe ag player p1 p2 pn1 pc1 pn2 pc2 pp pq w5); clear hown hr5 hb5)
    | (go_at_call 61; refine (seedsIn_any p s c l st sk re fe ag player p1 p2 pn1 pc1 pn2 pc2 pp pq xs ys _ a5 cc5 _ _ (H0.out.below (HBe.out _ (by first | exact HX.out.be | exact HX.out.drew.be))) G.out.q1 G.out.t1 HPin.out rfl HLp.out (by first | exact HR5.out | exact HR5.out.drewN 1)).mono ?_; rintro e w6 ⟨rfl, hb6⟩; have HX := Lib.hid (by first | exact HX.out.below hb6 | exact HX.out.drew.below hb6 : CpAt w2 p s c l st sk re fe ag player p1 p2 pn1 pc1 pn2 pc2 pp pq w6); clear hb6))
  go_wp2_with fail
  go_ret2
  exact ⟨rfl, HBe.out _ HX.out.be⟩
set_option maxHeartbeats 4000000 in
set_option maxRecDepth 100000 in
theorem implGain_no (p s c l : Int) (st sk re fe ag : Bool) (player : Int) (p1 p2 : Option Addr) (pn1 pc1 pn2 pc2 : Nat) (pp pq : Int) (xs ys : List Int) (w : World) (h : PosR w p1 p2 pn1 pn2 xs ys) (hk : okS (okR p s c l st ag) p st pn1 pn2 pp pq player xs ys = false) :
    Calls Try.prog 43 #[.agg #[.int .i64 p, .int .i64 s, .bool st, .bool sk, .bool re, .bool fe, .bool ag, .int .i64 c, .int .i64 l], .agg #[.slice p1 pn1 pc1, .slice p2 pn2 pc2, .int .i64 pp, .int .i64 pq], .int .i64 player] w fun e w' => e = .returned (.tuple #[.int .i64 0, .int .i64 1]) ∧ Below w.heap.size w w' := by
  have H0 := Lib.hid h
  have Hk := Lib.hid hk
  have HS := Lib.hid (rs_new p s c l st sk re fe ag p1 p2 pn1 pc1 pn2 pc2 pp pq w 30 50)
  clear h hk
  go_enter Try.func43, Try.ntmps43
  go_wp2_with fail
  refine (beginC_no p s c l st sk re fe ag player p1 p2 pn1 pc1 pn2 pc2 pp pq xs ys _ (H0.out.below HS.out.2.2) Hk.out).mono ?_
  rintro e w2 ⟨rfl, hb⟩
  have HS := Lib.hid (HS.out.below hb)
  clear hb
  go_wp2_with fail
  go_ret2
  exact ⟨rfl, (HS.out.2.2.alloc HS.out.2.2.size _)⟩
set_option maxHeartbeats 4000000 in
set_option maxRecDepth 100000 in
theorem implPits_yes (p s c l : Int) (st sk re fe ag : Bool) (player : Int) (p1 p2 : Option Addr) (pn1 pc1 pn2 pc2 : Nat) (pp pq : Int) (xs ys : List Int) (w : World) (h : PosR w p1 p2 pn1 pn2 xs ys) (hk : okS (okR p s c l st ag) p st pn1 pn2 pp pq player xs ys = true) (hcap : pn1 ≤ pc1) :
    Calls Try.prog 41 #[.agg #[.int .i64 p, .int .i64 s, .bool st, .bool sk, .bool re, .bool fe, .bool ag, .int .i64 c, .int .i64 l], .agg #[.slice p1 pn1 pc1, .slice p2 pn2 pc2, .int .i64 pp, .int .i64 pq], .int .i64 player] w (OwnT (pitsF c l p player pp xs) (pitsF c l p player pp xs).length 0 w) := by
  have g := good_of p s c l st sk re fe ag hk
  have G := Lib.hid g
  have H0 := Lib.hid h
  have Hk := Lib.hid hk
  have Hcap := Lib.hid hcap
  have HS := Lib.hid (rs_new p s c l st sk re fe ag p1 p2 pn1 pc1 pn2 pc2 pp pq w 30 50)
  have HRaw : Hid (∀ u, Below w.heap.size w u → Calls Try.prog 79 #[.agg #[.int .i64 p, .int .i64 s, .bool st, .bool sk, .bool re, .bool fe, .bool ag, .int .i64 c, .int .i64 l, .int .i64 player, .slice p1 pn1 pc1, .slice p2 pn2 pc2, .int .i64 pp, .int .i64 pq]] u (OwnP (rawF c p player pp xs) (rawF c p player pp xs).length u)) := Lib.hid (fun u hu => rawI_any p s c l st sk re fe ag player _ _ _ _ _ _ _ _ xs ys u (h.below hu) g)
  have HPits : Hid (∀ u, Below w.heap.size w u → Calls Try.prog 59 #[.agg #[.int .i64 p, .int .i64 s, .bool st, .bool sk, .bool re, .bool fe, .bool ag, .int .i64 c, .int .i64 l, .int .i64 player, .slice p1 pn1 pc1, .slice p2 pn2 pc2, .int .i64 pp, .int .i64 pq]] u (OwnP (pitsF c l p player pp xs) (pitsF c l p player pp xs).length u)) := Lib.hid (fun u hu => pits_any p s c l st sk re fe ag player _ _ _ _ _ _ _ _ xs ys u (h.below hu) g hcap)
  have HLn : Hid ((rawF c p player pp xs).length ≤ 1000) := Lib.hid (by have := raw_len (cp := c) (pl := player) (xs := xs) g.p2.2 g.p2.1 g.l2; omega)
  have HLp : Hid ((pitsF c l p player pp xs).length ≤ 1000) := Lib.hid (by have := pits_len (cp := c) (sl := l) (pl := player) (xs := xs) g.p2.2 g.p2.1 g.l2; omega)
  have HRin := Lib.hid (g.raw c)
  have HPin : Hid (∀ k ∈ pitsF c l p player pp xs, 0 ≤ k ∧ k < (pn1 : Int)) := Lib.hid (fun k hk => by have := pits_in g.l2 k hk; have := g.n1; omega)
  clear g h hk hcap
  go_enter Try.func41, Try.ntmps41
  go_wp2_with fail
  refine (beginC_yes p s c l st sk re fe ag player p1 p2 pn1 pc1 pn2 pc2 pp pq xs ys _ (H0.out.below HS.out.2.2) Hk.out).mono ?_
  rintro e w2 ⟨rfl, hb⟩
  have HS := Lib.hid (HS.out.below hb)
  have HBe : Hid (∀ v, Below w2.heap.size w2 v → Below w.heap.size w v) := Lib.hid (fun v hv => HS.out.2.2.trans (hv.mono HS.out.2.2.size))
  have HX := Lib.hid (cp_new p s c l st sk re fe ag player p1 p2 pn1 pc1 pn2 pc2 pp pq w2 73)
  obtain ⟨⟨_, c0, c1, c2, c3, c4, c5, c6, c7, c8, c9, c10, c11, c12, c13⟩, -⟩ := HX.out
  clear hb
  go_wp2_with fail
  refine (HPits.out _ (HBe.out _ HX.out.be)).mono ?_
  rintro e w5 ⟨v5, rfl, hown, hb5⟩
  have HO := Lib.hid (own_lower hown (HBe.out _ HX.out.be).size)
  have HX := Lib.hid (HX.out.below hb5)
  clear hown hb5
  go_wp2_with fail
  go_ret2
  exact ⟨_, rfl, HO.out, HBe.out _ HX.out.be⟩
set_option maxHeartbeats 4000000 in
set_option maxRecDepth 100000 in
theorem implPits_no (p s c l : Int) (st sk re fe ag : Bool) (player : Int) (p1 p2 : Option Addr) (pn1 pc1 pn2 pc2 : Nat) (pp pq : Int) (xs ys : List Int) (w : World) (h : PosR w p1 p2 pn1 pn2 xs ys) (hk : okS (okR p s c l st ag) p st pn1 pn2 pp pq player xs ys = false) :
    Calls Try.prog 41 #[.agg #[.int .i64 p, .int .i64 s, .bool st, .bool sk, .bool re, .bool fe, .bool ag, .int .i64 c, .int .i64 l], .agg #[.slice p1 pn1 pc1, .slice p2 pn2 pc2, .int .i64 pp, .int .i64 pq], .int .i64 player] w (OwnT [] 0 1 w) := by
  have H0 := Lib.hid h
  have Hk := Lib.hid hk
  have HS := Lib.hid (rs_new p s c l st sk re fe ag p1 p2 pn1 pc1 pn2 pc2 pp pq w 30 50)
  clear h hk
  go_enter Try.func41, Try.ntmps41
  go_wp2_with fail
  refine (beginC_no p s c l st sk re fe ag player p1 p2 pn1 pc1 pn2 pc2 pp pq xs ys _ (H0.out.below HS.out.2.2) Hk.out).mono ?_
  rintro e w2 ⟨rfl, hb⟩
  have HS := Lib.hid (HS.out.below hb)
  clear hb
  go_wp2_with fail
  go_ret2
  exact ⟨_, rfl, World.ownsRow_nil _ _ _ _, (HS.out.2.2.alloc HS.out.2.2.size _)⟩
end Go.Proofs.Ytdhkfkfoibddnaa
