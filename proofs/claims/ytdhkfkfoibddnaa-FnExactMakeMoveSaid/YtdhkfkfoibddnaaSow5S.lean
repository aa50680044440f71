/- A whole move of the reference. No conditions. -/
import Derived.Test.YtdhkfkfoibddnaaLap5
import Derived.Test.YtdhkfkfoibddnaaBegY5
import Derived.Test.YtdhkfkfoibddnaaSow3
import Derived.Deep.DeepCutAuto
import Derived.StillTailTactics
namespace Go.Proofs.Ytdhkfkfoibddnaa
open Go.Joins Go.ChangeShapes Go.WideShapes Go.ChangeAt Go.RowKit Go.Deep
set_option linter.unusedVariables false

/-- What the reference's move leaves. -/
def SwQ (n1 : Nat) (MV : Option Res) (w : World) (e : Ending) (w' : World) : Prop :=
  match MV with
  | none => e = .returned (.tuple #[.agg #[.slice none 0 0, .slice none 0 0, .int .i64 0, .int .i64 0], .slice none 0 0, .bool false]) ∧ Below w.heap.size w w'
  | some m => ∃ b1 c1 b2 c2 v, e = .returned (.tuple #[.agg #[.slice (some ⟨b1, 0, none⟩) n1 c1, .slice (some ⟨b2, 0, none⟩) 2 c2, .int .i64 m.last, .int .i64 m.laps], v, .bool true]) ∧
      PosO w' w.heap.size (some ⟨b1, 0, none⟩) (some ⟨b2, 0, none⟩) b1 b2 n1 2 m.xs m.ys ∧ b1 < w'.heap.size ∧ b2 < w'.heap.size ∧ n1 ≤ c1 ∧ 2 ≤ c2 ∧ w'.ownsRow w.heap.size 2 1 v m.path.length (nvs m.path) ∧ Below w.heap.size w w'
/-- The reference's sown seeds, as they are made. -/
structure SowF (w : World) (p s c l : Int) (st sk re fe ag : Bool) (p1 p2 : Option Addr) (pn1 pc1 pn2 pc2 : Nat) (pp : Int) (rb pb s0 b5 c5 b6 c6 : Nat) (xs ys : List Int) (u : World) : Prop where
  po : PoAt u pb p1 p2 pn1 pc1 pn2 pc2 pp
  ru : RuAt u rb p s c l st sk re fe ag
  so : SoS u w.heap.size s0 b5 c5 b6 c6 pn1 0 0 xs ys
  l5 : b5 < u.heap.size
  l6 : b6 < u.heap.size
  k5 : pn1 ≤ c5
  k6 : 2 ≤ c6
  ms : w.heap.size ≤ s0
  on : Below w.heap.size w u
/-- A block that nothing has frozen. -/
def NF (u : World) (z : Nat) : Prop := z < u.heap.size ∧ ∀ o, u.frozen? ⟨z, o, none⟩ = false
theorem NF.below {u v : World} {z : Nat} (h : NF u z) (k : Below u.heap.size u v) : NF v z := ⟨Nat.lt_of_lt_of_le h.1 k.size, fun o => (k.frozen (p := ⟨z, o, none⟩) h.1).trans (h.2 o)⟩
theorem NF.drew {u : World} {z : Nat} (h : NF u z) : NF u.drew z := h
theorem nf_new (u : World) (xs : Array Value) (T : TypeId) : NF (u.alloc (.cells xs T)) u.heap.size := ⟨by simp, fun o => by go_simp⟩
theorem sow_fin {w u : World} (p s c l : Int) (st sk re fe ag : Bool) (p1 p2 : Option Addr) (pn1 pc1 pn2 pc2 : Nat) (pp : Int) {rb pb s0 b5 c5 b6 c6 B1 B2 : Nat} {xs ys : List Int} (hp : PoAt u pb p1 p2 pn1 pc1 pn2 pc2 pp) (hr : RuAt u rb p s c l st sk re fe ag) (ho : OnW w u) (hY : Z4 u s0) (hf : ∀ o, u.frozen? ⟨s0, o, none⟩ = false)
    (o1 : OutN u B1 (some ⟨b5, 0, none⟩) b5 xs) (o2 : OutN u B2 (some ⟨b6, 0, none⟩) b6 ys) (l1 : xs.length = pn1) (l2 : ys.length = 2) (ne : b5 ≠ b6) (n5 : b5 ≠ s0) (n6 : b6 ≠ s0) (l5 : b5 < u.heap.size) (l6 : b6 < u.heap.size) (mp : pb ≠ s0) (mr : rb ≠ s0) (ms : w.heap.size ≤ s0) (hB1 : w.heap.size ≤ B1) (hB2 : w.heap.size ≤ B2) (k5 : pn1 ≤ c5) (k6 : 2 ≤ c6) :
    SowF w p s c l st sk re fe ag p1 p2 pn1 pc1 pn2 pc2 pp rb pb s0 b5 c5 b6 c6 xs ys ((((u.setCell ⟨s0, 0, none⟩ (.slice (some ⟨b5, 0, none⟩) pn1 c5)).setCell ⟨s0, 1, none⟩ (.slice (some ⟨b6, 0, none⟩) 2 c6)).setCell ⟨s0, 2, none⟩ (.int .i64 0)).setCell ⟨s0, 3, none⟩ (.int .i64 0)) := by
  have hb := but4 s0 u (.slice (some ⟨b5, 0, none⟩) pn1 c5) (.slice (some ⟨b6, 0, none⟩) 2 c6) (.int .i64 0) (.int .i64 0)
  obtain ⟨yl, y0, y1, y2, y3, f0, f1, f2, f3⟩ := hY
  exact ⟨hp.but hb mp, hr.but hb mr, ⟨⟨by simpa using yl, by go_simp, by go_simp, by go_simp, by go_simp⟩, fun o => by have := hf o; go_simp, (o1.but hb n5).lower hB1, (o2.but hb n6).lower hB2, l1, l2, fun e => n5 e.symm, fun e => n6 e.symm, ne⟩, by simpa using l5, by simpa using l6, k5, k6, ms, ho.set4 (by omega) _ _ _ _⟩
theorem sow_fin2 {w u : World} (p s c l : Int) (st sk re fe ag : Bool) (p1 p2 : Option Addr) (pn1 pc1 pn2 pc2 : Nat) (pp : Int) {rb pb b5 c5 b6 c6 B1 B2 : Nat} {xs ys : List Int} (T : TypeId) (hp : PoAt u pb p1 p2 pn1 pc1 pn2 pc2 pp) (hr : RuAt u rb p s c l st sk re fe ag) (ho : OnW w u)
    (o1 : OutN u B1 (some ⟨b5, 0, none⟩) b5 xs) (o2 : OutN u B2 (some ⟨b6, 0, none⟩) b6 ys) (l1 : xs.length = pn1) (l2 : ys.length = 2) (ne : b5 ≠ b6) (l5 : b5 < u.heap.size) (l6 : b6 < u.heap.size) (hB1 : w.heap.size ≤ B1) (hB2 : w.heap.size ≤ B2) (k5 : pn1 ≤ c5) (k6 : 2 ≤ c6) :
    SowF w p s c l st sk re fe ag p1 p2 pn1 pc1 pn2 pc2 pp rb pb u.heap.size b5 c5 b6 c6 xs ys (u.alloc (.cells #[.slice (some ⟨b5, 0, none⟩) pn1 c5, .slice (some ⟨b6, 0, none⟩) 2 c6, .int .i64 0, .int .i64 0] T)) :=
  ⟨hp.below (al1 _ _), hr.below (al1 _ _), ⟨so_new _ _ _ _ _ _ _ _ u T, fun o => by go_simp, (o1.below (al1 _ _)).lower hB1, (o2.below (al1 _ _)).lower hB2, l1, l2, by omega, by omega, ne⟩, by simp; omega, by simp; omega, k5, k6, Below.size ho, OnW.below ho (al1 _ _)⟩
/-- Between two laps: what a lap has left, and that a further one may follow. -/
structure SwJ (u2 : World) (R : Rl) (p s c l : Int) (st sk re fe ag : Bool) (t : Int) (MV : Option Res) (rb s0 b5 c5 b6 c6 n1 n0 : Nat) (j : Nat) (xs ys : List Int) (f : Int) (pth : List Int) (pv : Value) (wr : World) : Prop where
  lap : Lap R xs ys f t
  mv : mvF R (100 - j) xs ys f j pth = MV
  be : Below u2.heap.size u2 wr
  ru : RuAt wr rb p s c l st sk re fe ag
  so : SoS wr u2.heap.size s0 b5 c5 b6 c6 n1 (lst R xs f) ((j : Int) + 1) (cx R xs f (cnt xs f)) (cy R ys f (cnt xs f))
  row : wr.ownsRow n0 2 1 pv (pth.length + cnt xs f) (nvs (pth ++ lapP R f (cnt xs f)))
  pl : pth.length ≤ 96 * j
  sz : n0 ≤ wr.heap.size
/-- What is left when a move is over. -/
theorem sow_yes {w u2 wr : World} {R : Rl} (p s c l : Int) (st sk re fe ag : Bool) {t : Int} {MV : Option Res} {rb s0 b5 c5 b6 c6 n1 n0 j : Nat} {xs ys : List Int} {f : Int} {pth : List Int} {pv : Value} (hw : Below w.heap.size w u2) (hwu : w.heap.size < u2.heap.size) (hn0 : u2.heap.size ≤ n0) (h : SwJ u2 R p s c l st sk re fe ag t MV rb s0 b5 c5 b6 c6 n1 n0 j xs ys f pth pv wr) (l5 : b5 < n0) (l6 : b6 < n0) (k5 : n1 ≤ c5) (k6 : 2 ≤ c6) (m5 : u2.heap.size ≤ b5) (m6 : u2.heap.size ≤ b6) :
    SwQ n1 (some ⟨cx R xs f (cnt xs f), cy R ys f (cnt xs f), lst R xs f, j + 1, pth ++ lapP R f (cnt xs f)⟩) w (.returned (.tuple #[.agg #[.slice (some ⟨b5, 0, none⟩) n1 c5, .slice (some ⟨b6, 0, none⟩) 2 c6, .int .i64 (lst R xs f), .int .i64 ((j : Int) + 1)], pv, .bool true]))
      ((((wr.setCell ⟨w.heap.size, 0, none⟩ (.slice (some ⟨b5, 0, none⟩) n1 c5)).setCell ⟨w.heap.size, 1, none⟩ (.slice (some ⟨b6, 0, none⟩) 2 c6)).setCell ⟨w.heap.size, 2, none⟩ (.int .i64 (lst R xs f))).setCell ⟨w.heap.size, 3, none⟩ (.int .i64 ((j : Int) + 1))) := by
  have hb := but4 w.heap.size wr (.slice (some ⟨b5, 0, none⟩) n1 c5) (.slice (some ⟨b6, 0, none⟩) 2 c6) (.int .i64 (lst R xs f)) (.int .i64 ((j : Int) + 1))
  have hsz := h.sz
  have hlen : (pth ++ lapP R f (cnt xs f)).length = pth.length + cnt xs f := by rw [List.length_append, lapP_len]
  have hbe : OnW w wr := Below.trans hw (h.be.mono (Nat.le_of_lt hwu))
  refine ⟨b5, c5, b6, c6, pv, rfl, ⟨(h.so.o1.but hb (by omega)).lower (by omega), (h.so.o2.but hb (by omega)).lower (by omega), h.so.d3, h.so.l1, h.so.l2⟩, by simp; omega, by simp; omega, k5, k6, ?_, hbe.set4 (Nat.le_refl _) _ _ _ _⟩
  show World.ownsRow _ _ _ _ pv (pth ++ lapP R f (cnt xs f)).length (nvs (pth ++ lapP R f (cnt xs f)))
  rw [hlen]
  exact own_lower (own_but h.row hb (by omega)) (by omega)
set_option maxHeartbeats 8000000 in
set_option maxRecDepth 100000 in
theorem specSow0 (p s c l : Int) (st sk re fe ag : Bool) (p1 p2 : Option Addr) (pn1 pc1 pc2 : Nat) (xs ys : List Int) (F rb pb : Nat) (w : World) (t : Int) (hr : RuAt w rb p s c l st sk re fe ag) (hq : PoAt w pb p1 p2 pn1 pc1 2 pc2 0) (h : PosR w p1 p2 pn1 2 xs ys) (hp : 2 ≤ p) (hp8 : p ≤ 8)
    (hL : Lap ⟨p, 0, st, sk, re⟩ xs ys F t) (MV : Option Res) (hMV : mvF ⟨p, 0, st, sk, re⟩ 100 xs ys F 0 [] = MV) :
    Calls Try.prog 85 #[.pointer (some ⟨rb, 0, none⟩), .pointer (some ⟨pb, 0, none⟩), .int .i64 F] w (SwQ pn1 MV w) := by
  have H := Lib.hid h
  have HL := Lib.hid hL
  have HMV := Lib.hid hMV
  have HN1 : Hid (xs ≠ []) := Lib.hid (by intro e; have := hL.brd.lx; subst e; simp at this; omega)
  have HN2 : Hid (ys ≠ []) := Lib.hid (by intro e; have := hL.brd.ly; subst e; simp at this)
  have hle1 : pn1 ≤ 1000000000000 := by have := h.r1.1; rwa [h.l1] at this
  have hle2 : 2 ≤ 1000000000000 := by omega
  have HP := Lib.hid (hq.below (al1 _ (.cells #[.slice none 0 0, .slice none 0 0, .int .i64 0, .int .i64 0] 50)))
  have HU := Lib.hid (hr.below (al1 _ (.cells #[.slice none 0 0, .slice none 0 0, .int .i64 0, .int .i64 0] 50)))
  have HW := Lib.hid (al1 w (.cells #[.slice none 0 0, .slice none 0 0, .int .i64 0, .int .i64 0] 50))
  have HZ := Lib.hid (z4_new w 50)
  have HNF := Lib.hid (nf_new w #[.slice none 0 0, .slice none 0 0, .int .i64 0, .int .i64 0] 50)
  have hrb : rb < w.heap.size := hr.1
  have hpb : pb < w.heap.size := hq.1
  clear h hL hMV hr hq
  go_enter Try.func85, Try.ntmps85
  go_upto_region 1 with fail
  generalize w.alloc (.cells #[.slice none 0 0, .slice none 0 0, .int .i64 0, .int .i64 0] 50) = u2 at *
  have H := Lib.hid (H.out.below HW.out)
  have hwu : w.heap.size < u2.heap.size := HZ.out.lt
  have HB := Lib.hid (show OnW u2 u2 from Below.refl _ _)
  have HT : Hid (∀ u : World, PoAt u pb p1 p2 pn1 pc1 2 pc2 0 → OnW u2 u → (pb < u.heap.size ∧ u.cell? ⟨pb, 0, none⟩ = some (.slice p1 pn1 pc1) ∧ u.cell? ⟨pb, 1, none⟩ = some (.slice p2 2 pc2) ∧ u.cell? ⟨pb, 2, none⟩ = some (.int .i64 0)) ∧ Below u2.heap.size u2 u) := Lib.hid (fun u h k => ⟨h, k⟩)
  go_cut [9] (fun s9 wx => ∃ s0 b5 c5 b6 c6 : Nat, s9 = .pointer (some ⟨s0, 0, none⟩) ∧ SowF u2 p s c l st sk re fe ag p1 p2 pn1 pc1 2 pc2 0 rb pb s0 b5 c5 b6 c6 xs ys wx)
  case first =>
    go_region_held3 (fun u => (pb < u.heap.size ∧ u.cell? ⟨pb, 0, none⟩ = some (.slice p1 pn1 pc1) ∧ u.cell? ⟨pb, 1, none⟩ = some (.slice p2 2 pc2) ∧ u.cell? ⟨pb, 2, none⟩ = some (.int .i64 0)) ∧ Below u2.heap.size u2 u) (first | with_reducible exact HT.out _ HP.out HB.out | with_reducible exact HT.out _ HP.out.drew HB.out.drew | with_reducible exact HT.out _ (HP.out.below (al1 _ _)) (HB.out.below (al1 _ _)) | with_reducible exact HT.out _ (HP.out.drew.below (al1 _ _)) (HB.out.drew.below (al1 _ _)) | with_reducible exact HT.out _ (HP.out.below (al1 _ _)).drew (HB.out.below (al1 _ _)).drew | with_reducible exact HT.out _ (HP.out.set4 (by omega) _ _ _ _) (HB.out.set4 (by omega) _ _ _ _) | with_reducible exact HT.out _ ((HP.out.below (al1 _ _)).set4 (by omega) _ _ _ _) ((HB.out.below (al1 _ _)).set4 (by omega) _ _ _ _))
      (first
      | (go_at_call 74; (with_reducible refine (l00Own_any p1 pc1 pn1 xs _ H.out.l1 ?_ HN1.out).mono ?_); (first | with_reducible exact H.out.r1.below (HB.out).bel | with_reducible exact H.out.r1.below (HB.out.drew).bel | with_reducible exact H.out.r1.below (HB.out.below (al1 _ _)).bel | with_reducible exact H.out.r1.below (HB.out.drew.below (al1 _ _)).bel | with_reducible exact H.out.r1.below ((HB.out.below (al1 _ _)).drew).bel); rintro e w5 ⟨v1, rfl, hown, hb5⟩; (obtain ⟨c5, b5, rfl, o5, hlt5, hc5⟩ := outN_own hown H.out.l1 hle1 HN1.out); have O1 := Lib.hid o5; have nb1 := o5.new; (first | have HY := Lib.hid ((z4_new u2 50).drew.below hb5) | have HY := Lib.hid ((z4_new u2.drew 50).below hb5) | have HY := Lib.hid ((z4_new u2 50).below hb5) | skip); (first | have HG := Lib.hid ((nf_new u2 _ 50).drew.below hb5) | have HG := Lib.hid ((nf_new u2.drew _ 50).below hb5) | have HG := Lib.hid ((nf_new u2 _ 50).below hb5) | skip); (first | have HP := Lib.hid (HP.out.below hb5) | have HP := Lib.hid (HP.out.drew.below hb5) | have HP := Lib.hid ((HP.out.below (al1 _ _)).below hb5) | have HP := Lib.hid ((HP.out.below (al1 _ _)).drew.below hb5)); (first | have HU := Lib.hid (HU.out.below hb5) | have HU := Lib.hid (HU.out.drew.below hb5) | have HU := Lib.hid ((HU.out.below (al1 _ _)).below hb5) | have HU := Lib.hid ((HU.out.below (al1 _ _)).drew.below hb5)); (first | have HB := Lib.hid (HB.out.below hb5) | have HB := Lib.hid (HB.out.drew.below hb5) | have HB := Lib.hid ((HB.out.below (al1 _ _)).below hb5) | have HB := Lib.hid ((HB.out.below (al1 _ _)).drew.below hb5)); have nz5 := HP.out.1; have nb5 := HB.out.size; clear hown hb5 o5)
      | (go_at_call 74; (with_reducible refine (l00Own_any p2 pc2 2 ys _ H.out.l2 ?_ HN2.out).mono ?_); (first | with_reducible exact H.out.r2.below (HB.out).bel | with_reducible exact H.out.r2.below (HB.out.drew).bel | with_reducible exact H.out.r2.below (HB.out.below (al1 _ _)).bel | with_reducible exact H.out.r2.below (HB.out.drew.below (al1 _ _)).bel | with_reducible exact H.out.r2.below ((HB.out.below (al1 _ _)).drew).bel); rintro e w6 ⟨v2, rfl, hown, hb6⟩; (obtain ⟨c6, b6, rfl, o6, hlt6, hc6⟩ := outN_own hown H.out.l2 hle2 HN2.out); have O2 := Lib.hid o6; have nb2 := o6.new; (first | have HY := Lib.hid (HY.out.below hb6) | have HY := Lib.hid (HY.out.drew.below hb6) | have HY := Lib.hid ((z4_new w5 50).below hb6) | have HY := Lib.hid ((z4_new w5 50).drew.below hb6) | have HY := Lib.hid ((z4_new w5.drew 50).below hb6) | skip); (first | have HG := Lib.hid (HG.out.below hb6) | have HG := Lib.hid (HG.out.drew.below hb6) | have HG := Lib.hid ((nf_new w5 _ 50).below hb6) | have HG := Lib.hid ((nf_new w5 _ 50).drew.below hb6) | have HG := Lib.hid ((nf_new w5.drew _ 50).below hb6) | skip); (try obtain ⟨yz, y0, y1, y2, y3, k0, k1, k2, k3⟩ := HY.out); (first | have HP := Lib.hid (HP.out.below hb6) | have HP := Lib.hid (HP.out.drew.below hb6) | have HP := Lib.hid ((HP.out.below (al1 _ _)).below hb6) | have HP := Lib.hid ((HP.out.below (al1 _ _)).drew.below hb6)); (first | have HU := Lib.hid (HU.out.below hb6) | have HU := Lib.hid (HU.out.drew.below hb6) | have HU := Lib.hid ((HU.out.below (al1 _ _)).below hb6) | have HU := Lib.hid ((HU.out.below (al1 _ _)).drew.below hb6)); (first | have HB := Lib.hid (HB.out.below hb6) | have HB := Lib.hid (HB.out.drew.below hb6) | have HB := Lib.hid ((HB.out.below (al1 _ _)).below hb6) | have HB := Lib.hid ((HB.out.below (al1 _ _)).drew.below hb6)); (first | have O1 := Lib.hid (O1.out.below hb6) | have O1 := Lib.hid (O1.out.drew.below hb6) | have O1 := Lib.hid ((O1.out.below (al1 _ _)).below hb6) | have O1 := Lib.hid ((O1.out.below (al1 _ _)).drew.below hb6)); have nz6 := HP.out.1; have nb6 := HB.out.size; clear hown hb6 o6))
    all_goals (try simp at nb1)
    all_goals (try simp at nb2)
    all_goals go_wp2_with fail
    all_goals go_meet
    all_goals have hl5 := (O1.out.free HN1.out).1
    all_goals have hb5' := HB.out.size
    all_goals first
      | exact ⟨_, _, _, _, _, rfl, sow_fin2 p s c l st sk re fe ag p1 p2 pn1 pc1 2 pc2 0 50 HP.out HU.out HB.out O1.out O2.out H.out.l1 H.out.l2 (by omega) hl5 hlt6 (by first | omega | (simp; done) | (simp; omega)) (by first | omega | (simp; done) | (simp; omega)) hc5 hc6⟩
      | exact ⟨_, _, _, _, _, rfl, sow_fin p s c l st sk re fe ag p1 p2 pn1 pc1 2 pc2 0 HP.out HU.out HB.out HY.out HG.out.2 O1.out O2.out H.out.l1 H.out.l2 (by omega) (by omega) (by omega) hl5 hlt6 (by omega) (by omega) (by omega) (by first | omega | (simp; done) | (simp; omega)) (by first | omega | (simp; done) | (simp; omega)) hc5 hc6⟩
  case rest =>
    obtain ⟨s0, b5, c5, b6, c6, rfl, hF⟩ := hcut
    have HF := Lib.hid hF
    obtain ⟨_, t0, t1, t2⟩ := hF.po
    clear hF HU HB HT
    go_wp2_with fail
    have HFb := Lib.hid (show RuAt _ rb p s c l st sk re fe ag ∧ SoS _ u2.heap.size s0 b5 c5 b6 c6 pn1 0 0 xs ys ∧ Below u2.heap.size u2 _ from ⟨HF.out.ru.below (al1 wc (.cells #[] 2)), HF.out.so.below (al1 wc (.cells #[] 2)), OnW.below (show OnW u2 wc from HF.out.on) (al1 wc (.cells #[] 2))⟩)
    have hl5 := HF.out.l5
    have hl6 := HF.out.l6
    have hms := HF.out.ms
    have hs0 := HF.out.so.so.1
    have hn5 := HF.out.so.o1.new
    have hn6 := HF.out.so.o2.new
    have hwc : u2.heap.size ≤ wc.heap.size := Below.size HF.out.on
    have hrow0 := World.ownsRow_made (e := 2) (size := 1) wc #[] 0 (Nat.le_refl _) (by decide) rfl
    have HLap : Hid (Calls Try.prog 100 #[.pointer (some ⟨rb, 0, none⟩), .pointer (some ⟨s0, 0, none⟩), .int .i64 0, .int .i64 (F : Int), .slice (some ⟨wc.heap.size, 0, none⟩) 0 0] (wc.alloc (.cells #[] 2)) (LapD u2 (wc.alloc (.cells #[] 2)) ⟨p, 0, st, sk, re⟩ (fun u => RuAt u rb p s c l st sk re fe ag) s0 b5 c5 b6 c6 pn1 wc.heap.size 0 F xs ys [])) := Lib.hid
      (specLap0 u2 (wc.alloc (.cells #[] 2)) ⟨p, 0, st, sk, re⟩ p s c l st sk re fe ag rfl t rb s0 b5 c5 b6 c6 pn1 wc.heap.size 0 0 F xs ys [] _ hp hp8 HL.out HFb.out.2.2 HFb.out.1 HFb.out.2.1 hrow0 (by simp) hwc (by omega) hs0 hl5 hl6 (by omega) (by omega) (by omega) (by omega) (by omega) (by simp) hms)
    refine HLap.out.mono ?_
    rintro e w3 ⟨v3, rfl, hb3, hr3, hs3, hrow3, hsz3⟩
    have HJ : Hid (SwJ u2 ⟨p, 0, st, sk, re⟩ p s c l st sk re fe ag t MV rb s0 b5 c5 b6 c6 pn1 wc.heap.size 0 xs ys F [] v3 w3) := Lib.hid ⟨HL.out, HMV.out, hb3, hr3, hs3, hrow3, by simp, Nat.le_trans (by simp) hsz3⟩
    clear hb3 hr3 hs3 hrow3 hsz3 hrow0 t0 t1 t2 HLap HFb
    go_wp2_with fail
    have hR : Rl.Fit ⟨p, 0, st, sk, re⟩ := ⟨hp, hp8, by simp⟩
    have HRf := Lib.hid hR
    have hk5 := HF.out.k5
    have hk6 := HF.out.k6
    clear hR HMV HL
    go_loopg [10] 100 (fun q pv wr => ∃ (j : Nat) (xs' ys' : List Int) (f' : Int) (pth : List Int), q = 100 - j ∧ j < 100 ∧ SwJ u2 ⟨p, 0, st, sk, re⟩ p s c l st sk re fe ag t MV rb s0 b5 c5 b6 c6 pn1 wc.heap.size j xs' ys' f' pth pv wr)
    case atStart => exact ⟨0, xs, ys, F, [], rfl, by omega, HJ.out⟩
    case round =>
      obtain ⟨j, xs', ys', f', pth, rfl, hj, hJ⟩ := hrel
      have HJ := Lib.hid hJ
      have hlb := hJ.lap.at_bd HRf.out (cnt xs' f' - 1)
      have hl1 := hJ.so.l1
      obtain ⟨_, r0, r1, r2, r3, r4, r5, r6, r7, r8⟩ := hJ.ru
      obtain ⟨_, k0, k1, k2, k3⟩ := hJ.so.so
      have hnum := hJ.lap.brd.lx
      clear hJ
      rcases re with _ | _
      · have ha : agn ⟨p, 0, st, sk, false⟩ xs' f' = false := rfl
        clear hlb hnum hl1
        have hmv : MV = some ⟨cx ⟨p, 0, st, sk, false⟩ xs' f' (cnt xs' f'), cy ⟨p, 0, st, sk, false⟩ ys' f' (cnt xs' f'), lst ⟨p, 0, st, sk, false⟩ xs' f', j + 1, pth ++ lapP ⟨p, 0, st, sk, false⟩ f' (cnt xs' f')⟩ := by rw [← HJ.out.mv, show 100 - j = (99 - j) + 1 by omega, mvF_no ha]
        have Hmv := Lib.hid hmv
        clear hmv ha
        obtain ⟨zl, z0, z1, z2, z3, y0, y1, y2, y3⟩ := HZ.out.below HJ.out.be
        go_wp2_with fail
        rw [Hmv.out]
        refine bodyPost_ret (v := .tuple #[.agg #[.slice (some ⟨b5, 0, none⟩) pn1 c5, .slice (some ⟨b6, 0, none⟩) 2 c6, .int .i64 (lst ⟨p, 0, st, sk, false⟩ xs' f'), .int .i64 ((j : Int) + 1)], u10, .bool true]) (by simp [results, Try.results85, go_sem, z0, z1, z2, z3]) rfl (sow_yes p s c l st sk false fe ag HW.out hwu hwc HJ.out hl5 hl6 hk5 hk6 hn5 hn6)
      · have hlst : lst ⟨p, 0, st, sk, true⟩ xs' f' = Rl.at ⟨p, 0, st, sk, true⟩ f' (cnt xs' f' - 1) := rfl
        rw [← hlst] at hlb
        by_cases hneg : lst ⟨p, 0, st, sk, true⟩ xs' f' = -1
        · have ha : agn ⟨p, 0, st, sk, true⟩ xs' f' = false := by unfold agn; rw [hneg]; simp
          have tn : ¬ 0 ≤ lst ⟨p, 0, st, sk, true⟩ xs' f' := by omega
          clear hlb hnum hl1 hlst hneg
          have hmv : MV = some ⟨cx ⟨p, 0, st, sk, true⟩ xs' f' (cnt xs' f'), cy ⟨p, 0, st, sk, true⟩ ys' f' (cnt xs' f'), lst ⟨p, 0, st, sk, true⟩ xs' f', j + 1, pth ++ lapP ⟨p, 0, st, sk, true⟩ f' (cnt xs' f')⟩ := by rw [← HJ.out.mv, show 100 - j = (99 - j) + 1 by omega, mvF_no ha]
          have Hmv := Lib.hid hmv
          clear hmv ha
          obtain ⟨zl, z0, z1, z2, z3, y0, y1, y2, y3⟩ := HZ.out.below HJ.out.be
          go_wp2_with fail
          rw [Hmv.out]
          refine bodyPost_ret (v := .tuple #[.agg #[.slice (some ⟨b5, 0, none⟩) pn1 c5, .slice (some ⟨b6, 0, none⟩) 2 c6, .int .i64 (lst ⟨p, 0, st, sk, true⟩ xs' f'), .int .i64 ((j : Int) + 1)], u10, .bool true]) (by simp [results, Try.results85, go_sem, z0, z1, z2, z3]) rfl (sow_yes p s c l st sk true fe ag HW.out hwu hwc HJ.out hl5 hl6 hk5 hk6 hn5 hn6)
        · obtain ⟨K, hK⟩ : ∃ K : Nat, lst ⟨p, 0, st, sk, true⟩ xs' f' = (K : Int) := ⟨(lst ⟨p, 0, st, sk, true⟩ xs' f').toNat, by omega⟩
          have hdone := (HJ.out.lap.done HRf.out).lx
          have hKn : K < pn1 := by
            have h1 := hlb.2
            have h2 := HJ.out.so.l1
            rw [hK] at h1
            omega
          obtain ⟨y1, y2, y3⟩ := HJ.out.so.x hKn
          have hag : agn ⟨p, 0, st, sk, true⟩ xs' f' = decide (1 < (cx ⟨p, 0, st, sk, true⟩ xs' f' (cnt xs' f')).getD K 0) := by
            unfold agn
            rw [hK, Int.toNat_natCast]
            have e : decide ((K : Int) ≠ -1) = true := by first | (simp; done) | (simp; omega)
            rw [e]; rfl
          have hK0 : (0 : Int) ≤ (K : Int) := by omega
          have hK1 : (K : Int) < (pn1 : Int) := by omega
          rw [hK] at k2
          have HK := Lib.hid hK
          generalize (cx ⟨p, 0, st, sk, true⟩ xs' f' (cnt xs' f')).getD K 0 = v at *
          clear hdone hlb hnum hl1 hlst hneg
          by_cases hv : 1 < v
          · have ha : agn ⟨p, 0, st, sk, true⟩ xs' f' = true := by rw [hag]; simpa using hv
            clear hag
            by_cases h99 : j = 99
            · have hmv : MV = none := by rw [← HJ.out.mv, show 100 - j = 0 + 1 by omega, mvF_yes ha]; rfl
              have Hmv := Lib.hid hmv
              have h100 : (100 : Int) ≤ (j : Int) + 1 := by omega
              clear hmv ha hK h99
              obtain ⟨zl, z0, z1, z2, z3, q0, q1, q2, q3⟩ := HZ.out.below HJ.out.be
              go_wp2_with fail
              rw [Hmv.out]
              refine bodyPost_ret (v := .tuple #[.agg #[.slice none 0 0, .slice none 0 0, .int .i64 0, .int .i64 0], .slice none 0 0, .bool false]) (by simp [results, Try.results85, go_sem, z0, z1, z2, z3]) rfl ⟨rfl, OnW.set4 (show OnW w wr from Below.trans HW.out (HJ.out.be.mono (Nat.le_of_lt hwu))) (Nat.le_refl _) _ _ _ _⟩
            · have h100 : ¬ (100 : Int) ≤ (j : Int) + 1 := by omega
              obtain ⟨_, t0, t1, t2⟩ := HP.out.below HJ.out.be
              have hlen : (pth ++ lapP ⟨p, 0, st, sk, true⟩ f' (cnt xs' f')).length = pth.length + cnt xs' f' := by rw [List.length_append, lapP_len]
              have hcn := HJ.out.lap.num_le
              have hpl := HJ.out.pl
              have hnx := HJ.out.lap.next HRf.out ha
              have hrow : wr.ownsRow wc.heap.size 2 1 u10 (pth ++ lapP ⟨p, 0, st, sk, true⟩ f' (cnt xs' f')).length (nvs (pth ++ lapP ⟨p, 0, st, sk, true⟩ f' (cnt xs' f'))) := by rw [hlen]; exact HJ.out.row
              have HN : Hid (Calls Try.prog 100 #[.pointer (some ⟨rb, 0, none⟩), .pointer (some ⟨s0, 0, none⟩), .int .i64 0, .int .i64 (K : Int), u10] wr.drew (LapD u2 wr.drew ⟨p, 0, st, sk, true⟩ (fun u => RuAt u rb p s c l st sk true fe ag) s0 b5 c5 b6 c6 pn1 wc.heap.size ((j : Int) + 1) (lst ⟨p, 0, st, sk, true⟩ xs' f') (cx ⟨p, 0, st, sk, true⟩ xs' f' (cnt xs' f')) (cy ⟨p, 0, st, sk, true⟩ ys' f' (cnt xs' f')) (pth ++ lapP ⟨p, 0, st, sk, true⟩ f' (cnt xs' f')))) := Lib.hid (by
                rw [← hK]
                exact specLap0 u2 wr.drew ⟨p, 0, st, sk, true⟩ p s c l st sk true fe ag rfl t rb s0 b5 c5 b6 c6 pn1 wc.heap.size (lst ⟨p, 0, st, sk, true⟩ xs' f') ((j : Int) + 1) (lst ⟨p, 0, st, sk, true⟩ xs' f') (cx ⟨p, 0, st, sk, true⟩ xs' f' (cnt xs' f')) (cy ⟨p, 0, st, sk, true⟩ ys' f' (cnt xs' f')) (pth ++ lapP ⟨p, 0, st, sk, true⟩ f' (cnt xs' f')) u10 hp hp8 hnx HJ.out.be.drew (HJ.out.ru.below (Below.refl _ _).drew) (HJ.out.so.below (Below.refl _ _).drew) (own_keep hrow (Below.refl _ _).drew) HJ.out.sz hwc (by omega) hs0 hl5 hl6 (by omega) (by omega) (by omega) (by omega) (by omega) (by omega) hms)
              have Hnx := Lib.hid hnx
              have hmv := HJ.out.mv
              rw [show 100 - j = (100 - (j + 1)) + 1 by omega, mvF_yes ha] at hmv
              have Hmv := Lib.hid hmv
              have Hpl : Hid ((pth ++ lapP ⟨p, 0, st, sk, true⟩ f' (cnt xs' f')).length ≤ 96 * (j + 1)) := Lib.hid (by omega)
              have hsz0 := HJ.out.sz
              clear hmv ha hK hnx hrow hlen hpl hcn
              go_wp2_with fail
              go_still_tail 8, (by kernel_rfl)
              go_wp2_with fail
              refine HN.out.mono ?_
              rintro e w5 ⟨v5, rfl, hb', hr', hs', hrow', hsz'⟩
              have HJ2 : Hid (SwJ u2 ⟨p, 0, st, sk, true⟩ p s c l st sk true fe ag t MV rb s0 b5 c5 b6 c6 pn1 wc.heap.size (j + 1) (cx ⟨p, 0, st, sk, true⟩ xs' f' (cnt xs' f')) (cy ⟨p, 0, st, sk, true⟩ ys' f' (cnt xs' f')) (lst ⟨p, 0, st, sk, true⟩ xs' f') (pth ++ lapP ⟨p, 0, st, sk, true⟩ f' (cnt xs' f')) v5 w5) := Lib.hid ⟨Hnx.out, Hmv.out, hb', hr', hs', hrow', Hpl.out, Nat.le_trans hsz0 hsz'⟩
              clear hb' hr' hs' hrow' hsz' HJ
              go_wp2_with fail
              go_roundg (100 - (j + 1))
              case measure => omega
              case rel => exact ⟨j + 1, _, _, _, _, rfl, by omega, HJ2.out⟩
          · have ha : agn ⟨p, 0, st, sk, true⟩ xs' f' = false := by rw [hag]; simpa using hv
            clear hag hK
            have hmv : MV = some ⟨cx ⟨p, 0, st, sk, true⟩ xs' f' (cnt xs' f'), cy ⟨p, 0, st, sk, true⟩ ys' f' (cnt xs' f'), lst ⟨p, 0, st, sk, true⟩ xs' f', j + 1, pth ++ lapP ⟨p, 0, st, sk, true⟩ f' (cnt xs' f')⟩ := by rw [← HJ.out.mv, show 100 - j = (99 - j) + 1 by omega, mvF_no ha]
            have Hmv := Lib.hid hmv
            clear hmv ha
            obtain ⟨zl, z0, z1, z2, z3, y0, y1, y2, y3⟩ := HZ.out.below HJ.out.be
            go_wp2_with fail
            rw [Hmv.out]
            refine bodyPost_ret (v := .tuple #[.agg #[.slice (some ⟨b5, 0, none⟩) pn1 c5, .slice (some ⟨b6, 0, none⟩) 2 c6, .int .i64 (K : Int), .int .i64 ((j : Int) + 1)], u10, .bool true]) (by simp [results, Try.results85, go_sem, z0, z1, z2, z3]) rfl (by rw [← HK.out]; exact sow_yes p s c l st sk true fe ag HW.out hwu hwc HJ.out hl5 hl6 hk5 hk6 hn5 hn6)
set_option maxHeartbeats 8000000 in
set_option maxRecDepth 100000 in
theorem specSow1 (p s c l : Int) (st sk re fe ag : Bool) (p1 p2 : Option Addr) (pn1 pc1 pc2 : Nat) (xs ys : List Int) (F rb pb : Nat) (w : World) (t : Int) (hr : RuAt w rb p s c l st sk re fe ag) (hq : PoAt w pb p1 p2 pn1 pc1 2 pc2 1) (h : PosR w p1 p2 pn1 2 xs ys) (hp : 2 ≤ p) (hp8 : p ≤ 8)
    (hL : Lap ⟨p, 1, st, sk, re⟩ xs ys F t) (MV : Option Res) (hMV : mvF ⟨p, 1, st, sk, re⟩ 100 xs ys F 0 [] = MV) :
    Calls Try.prog 85 #[.pointer (some ⟨rb, 0, none⟩), .pointer (some ⟨pb, 0, none⟩), .int .i64 F] w (SwQ pn1 MV w) := by
  have H := Lib.hid h
  have HL := Lib.hid hL
  have HMV := Lib.hid hMV
  have HN1 : Hid (xs ≠ []) := Lib.hid (by intro e; have := hL.brd.lx; subst e; simp at this; omega)
  have HN2 : Hid (ys ≠ []) := Lib.hid (by intro e; have := hL.brd.ly; subst e; simp at this)
  have hle1 : pn1 ≤ 1000000000000 := by have := h.r1.1; rwa [h.l1] at this
  have hle2 : 2 ≤ 1000000000000 := by omega
  have HP := Lib.hid (hq.below (al1 _ (.cells #[.slice none 0 0, .slice none 0 0, .int .i64 0, .int .i64 0] 50)))
  have HU := Lib.hid (hr.below (al1 _ (.cells #[.slice none 0 0, .slice none 0 0, .int .i64 0, .int .i64 0] 50)))
  have HW := Lib.hid (al1 w (.cells #[.slice none 0 0, .slice none 0 0, .int .i64 0, .int .i64 0] 50))
  have HZ := Lib.hid (z4_new w 50)
  have HNF := Lib.hid (nf_new w #[.slice none 0 0, .slice none 0 0, .int .i64 0, .int .i64 0] 50)
  have hrb : rb < w.heap.size := hr.1
  have hpb : pb < w.heap.size := hq.1
  clear h hL hMV hr hq
  go_enter Try.func85, Try.ntmps85
  go_upto_region 1 with fail
  generalize w.alloc (.cells #[.slice none 0 0, .slice none 0 0, .int .i64 0, .int .i64 0] 50) = u2 at *
  have H := Lib.hid (H.out.below HW.out)
  have hwu : w.heap.size < u2.heap.size := HZ.out.lt
  have HB := Lib.hid (show OnW u2 u2 from Below.refl _ _)
  have HT : Hid (∀ u : World, PoAt u pb p1 p2 pn1 pc1 2 pc2 1 → OnW u2 u → (pb < u.heap.size ∧ u.cell? ⟨pb, 0, none⟩ = some (.slice p1 pn1 pc1) ∧ u.cell? ⟨pb, 1, none⟩ = some (.slice p2 2 pc2) ∧ u.cell? ⟨pb, 2, none⟩ = some (.int .i64 1)) ∧ Below u2.heap.size u2 u) := Lib.hid (fun u h k => ⟨h, k⟩)
  go_cut [9] (fun s9 wx => ∃ s0 b5 c5 b6 c6 : Nat, s9 = .pointer (some ⟨s0, 0, none⟩) ∧ SowF u2 p s c l st sk re fe ag p1 p2 pn1 pc1 2 pc2 1 rb pb s0 b5 c5 b6 c6 xs ys wx)
  case first =>
    go_region_held3 (fun u => (pb < u.heap.size ∧ u.cell? ⟨pb, 0, none⟩ = some (.slice p1 pn1 pc1) ∧ u.cell? ⟨pb, 1, none⟩ = some (.slice p2 2 pc2) ∧ u.cell? ⟨pb, 2, none⟩ = some (.int .i64 1)) ∧ Below u2.heap.size u2 u) (first | with_reducible exact HT.out _ HP.out HB.out | with_reducible exact HT.out _ HP.out.drew HB.out.drew | with_reducible exact HT.out _ (HP.out.below (al1 _ _)) (HB.out.below (al1 _ _)) | with_reducible exact HT.out _ (HP.out.drew.below (al1 _ _)) (HB.out.drew.below (al1 _ _)) | with_reducible exact HT.out _ (HP.out.below (al1 _ _)).drew (HB.out.below (al1 _ _)).drew | with_reducible exact HT.out _ (HP.out.set4 (by omega) _ _ _ _) (HB.out.set4 (by omega) _ _ _ _) | with_reducible exact HT.out _ ((HP.out.below (al1 _ _)).set4 (by omega) _ _ _ _) ((HB.out.below (al1 _ _)).set4 (by omega) _ _ _ _))
      (first
      | (go_at_call 74; (with_reducible refine (l00Own_any p1 pc1 pn1 xs _ H.out.l1 ?_ HN1.out).mono ?_); (first | with_reducible exact H.out.r1.below (HB.out).bel | with_reducible exact H.out.r1.below (HB.out.drew).bel | with_reducible exact H.out.r1.below (HB.out.below (al1 _ _)).bel | with_reducible exact H.out.r1.below (HB.out.drew.below (al1 _ _)).bel | with_reducible exact H.out.r1.below ((HB.out.below (al1 _ _)).drew).bel); rintro e w5 ⟨v1, rfl, hown, hb5⟩; (obtain ⟨c5, b5, rfl, o5, hlt5, hc5⟩ := outN_own hown H.out.l1 hle1 HN1.out); have O1 := Lib.hid o5; have nb1 := o5.new; (first | have HY := Lib.hid ((z4_new u2 50).drew.below hb5) | have HY := Lib.hid ((z4_new u2.drew 50).below hb5) | have HY := Lib.hid ((z4_new u2 50).below hb5) | skip); (first | have HG := Lib.hid ((nf_new u2 _ 50).drew.below hb5) | have HG := Lib.hid ((nf_new u2.drew _ 50).below hb5) | have HG := Lib.hid ((nf_new u2 _ 50).below hb5) | skip); (first | have HP := Lib.hid (HP.out.below hb5) | have HP := Lib.hid (HP.out.drew.below hb5) | have HP := Lib.hid ((HP.out.below (al1 _ _)).below hb5) | have HP := Lib.hid ((HP.out.below (al1 _ _)).drew.below hb5)); (first | have HU := Lib.hid (HU.out.below hb5) | have HU := Lib.hid (HU.out.drew.below hb5) | have HU := Lib.hid ((HU.out.below (al1 _ _)).below hb5) | have HU := Lib.hid ((HU.out.below (al1 _ _)).drew.below hb5)); (first | have HB := Lib.hid (HB.out.below hb5) | have HB := Lib.hid (HB.out.drew.below hb5) | have HB := Lib.hid ((HB.out.below (al1 _ _)).below hb5) | have HB := Lib.hid ((HB.out.below (al1 _ _)).drew.below hb5)); have nz5 := HP.out.1; have nb5 := HB.out.size; clear hown hb5 o5)
      | (go_at_call 74; (with_reducible refine (l00Own_any p2 pc2 2 ys _ H.out.l2 ?_ HN2.out).mono ?_); (first | with_reducible exact H.out.r2.below (HB.out).bel | with_reducible exact H.out.r2.below (HB.out.drew).bel | with_reducible exact H.out.r2.below (HB.out.below (al1 _ _)).bel | with_reducible exact H.out.r2.below (HB.out.drew.below (al1 _ _)).bel | with_reducible exact H.out.r2.below ((HB.out.below (al1 _ _)).drew).bel); rintro e w6 ⟨v2, rfl, hown, hb6⟩; (obtain ⟨c6, b6, rfl, o6, hlt6, hc6⟩ := outN_own hown H.out.l2 hle2 HN2.out); have O2 := Lib.hid o6; have nb2 := o6.new; (first | have HY := Lib.hid (HY.out.below hb6) | have HY := Lib.hid (HY.out.drew.below hb6) | have HY := Lib.hid ((z4_new w5 50).below hb6) | have HY := Lib.hid ((z4_new w5 50).drew.below hb6) | have HY := Lib.hid ((z4_new w5.drew 50).below hb6) | skip); (first | have HG := Lib.hid (HG.out.below hb6) | have HG := Lib.hid (HG.out.drew.below hb6) | have HG := Lib.hid ((nf_new w5 _ 50).below hb6) | have HG := Lib.hid ((nf_new w5 _ 50).drew.below hb6) | have HG := Lib.hid ((nf_new w5.drew _ 50).below hb6) | skip); (try obtain ⟨yz, y0, y1, y2, y3, k0, k1, k2, k3⟩ := HY.out); (first | have HP := Lib.hid (HP.out.below hb6) | have HP := Lib.hid (HP.out.drew.below hb6) | have HP := Lib.hid ((HP.out.below (al1 _ _)).below hb6) | have HP := Lib.hid ((HP.out.below (al1 _ _)).drew.below hb6)); (first | have HU := Lib.hid (HU.out.below hb6) | have HU := Lib.hid (HU.out.drew.below hb6) | have HU := Lib.hid ((HU.out.below (al1 _ _)).below hb6) | have HU := Lib.hid ((HU.out.below (al1 _ _)).drew.below hb6)); (first | have HB := Lib.hid (HB.out.below hb6) | have HB := Lib.hid (HB.out.drew.below hb6) | have HB := Lib.hid ((HB.out.below (al1 _ _)).below hb6) | have HB := Lib.hid ((HB.out.below (al1 _ _)).drew.below hb6)); (first | have O1 := Lib.hid (O1.out.below hb6) | have O1 := Lib.hid (O1.out.drew.below hb6) | have O1 := Lib.hid ((O1.out.below (al1 _ _)).below hb6) | have O1 := Lib.hid ((O1.out.below (al1 _ _)).drew.below hb6)); have nz6 := HP.out.1; have nb6 := HB.out.size; clear hown hb6 o6))
    all_goals (try simp at nb1)
    all_goals (try simp at nb2)
    all_goals go_wp2_with fail
    all_goals go_meet
    all_goals have hl5 := (O1.out.free HN1.out).1
    all_goals have hb5' := HB.out.size
    all_goals first
      | exact ⟨_, _, _, _, _, rfl, sow_fin2 p s c l st sk re fe ag p1 p2 pn1 pc1 2 pc2 1 50 HP.out HU.out HB.out O1.out O2.out H.out.l1 H.out.l2 (by omega) hl5 hlt6 (by first | omega | (simp; done) | (simp; omega)) (by first | omega | (simp; done) | (simp; omega)) hc5 hc6⟩
      | exact ⟨_, _, _, _, _, rfl, sow_fin p s c l st sk re fe ag p1 p2 pn1 pc1 2 pc2 1 HP.out HU.out HB.out HY.out HG.out.2 O1.out O2.out H.out.l1 H.out.l2 (by omega) (by omega) (by omega) hl5 hlt6 (by omega) (by omega) (by omega) (by first | omega | (simp; done) | (simp; omega)) (by first | omega | (simp; done) | (simp; omega)) hc5 hc6⟩
  case rest =>
    obtain ⟨s0, b5, c5, b6, c6, rfl, hF⟩ := hcut
    have HF := Lib.hid hF
    obtain ⟨_, t0, t1, t2⟩ := hF.po
    clear hF HU HB HT
    go_wp2_with fail
    have HFb := Lib.hid (show RuAt _ rb p s c l st sk re fe ag ∧ SoS _ u2.heap.size s0 b5 c5 b6 c6 pn1 0 0 xs ys ∧ Below u2.heap.size u2 _ from ⟨HF.out.ru.below (al1 wc (.cells #[] 2)), HF.out.so.below (al1 wc (.cells #[] 2)), OnW.below (show OnW u2 wc from HF.out.on) (al1 wc (.cells #[] 2))⟩)
    have hl5 := HF.out.l5
    have hl6 := HF.out.l6
    have hms := HF.out.ms
    have hs0 := HF.out.so.so.1
    have hn5 := HF.out.so.o1.new
    have hn6 := HF.out.so.o2.new
    have hwc : u2.heap.size ≤ wc.heap.size := Below.size HF.out.on
    have hrow0 := World.ownsRow_made (e := 2) (size := 1) wc #[] 0 (Nat.le_refl _) (by decide) rfl
    have HLap : Hid (Calls Try.prog 100 #[.pointer (some ⟨rb, 0, none⟩), .pointer (some ⟨s0, 0, none⟩), .int .i64 1, .int .i64 (F : Int), .slice (some ⟨wc.heap.size, 0, none⟩) 0 0] (wc.alloc (.cells #[] 2)) (LapD u2 (wc.alloc (.cells #[] 2)) ⟨p, 1, st, sk, re⟩ (fun u => RuAt u rb p s c l st sk re fe ag) s0 b5 c5 b6 c6 pn1 wc.heap.size 0 F xs ys [])) := Lib.hid
      (specLap1 u2 (wc.alloc (.cells #[] 2)) ⟨p, 1, st, sk, re⟩ p s c l st sk re fe ag rfl t rb s0 b5 c5 b6 c6 pn1 wc.heap.size 0 0 F xs ys [] _ hp hp8 HL.out HFb.out.2.2 HFb.out.1 HFb.out.2.1 hrow0 (by simp) hwc (by omega) hs0 hl5 hl6 (by omega) (by omega) (by omega) (by omega) (by omega) (by simp) hms)
    refine HLap.out.mono ?_
    rintro e w3 ⟨v3, rfl, hb3, hr3, hs3, hrow3, hsz3⟩
    have HJ : Hid (SwJ u2 ⟨p, 1, st, sk, re⟩ p s c l st sk re fe ag t MV rb s0 b5 c5 b6 c6 pn1 wc.heap.size 0 xs ys F [] v3 w3) := Lib.hid ⟨HL.out, HMV.out, hb3, hr3, hs3, hrow3, by simp, Nat.le_trans (by simp) hsz3⟩
    clear hb3 hr3 hs3 hrow3 hsz3 hrow0 t0 t1 t2 HLap HFb
    go_wp2_with fail
    have hR : Rl.Fit ⟨p, 1, st, sk, re⟩ := ⟨hp, hp8, by simp⟩
    have HRf := Lib.hid hR
    have hk5 := HF.out.k5
    have hk6 := HF.out.k6
    clear hR HMV HL
    go_loopg [10] 100 (fun q pv wr => ∃ (j : Nat) (xs' ys' : List Int) (f' : Int) (pth : List Int), q = 100 - j ∧ j < 100 ∧ SwJ u2 ⟨p, 1, st, sk, re⟩ p s c l st sk re fe ag t MV rb s0 b5 c5 b6 c6 pn1 wc.heap.size j xs' ys' f' pth pv wr)
    case atStart => exact ⟨0, xs, ys, F, [], rfl, by omega, HJ.out⟩
    case round =>
      obtain ⟨j, xs', ys', f', pth, rfl, hj, hJ⟩ := hrel
      have HJ := Lib.hid hJ
      have hlb := hJ.lap.at_bd HRf.out (cnt xs' f' - 1)
      have hl1 := hJ.so.l1
      obtain ⟨_, r0, r1, r2, r3, r4, r5, r6, r7, r8⟩ := hJ.ru
      obtain ⟨_, k0, k1, k2, k3⟩ := hJ.so.so
      have hnum := hJ.lap.brd.lx
      clear hJ
      rcases re with _ | _
      · have ha : agn ⟨p, 1, st, sk, false⟩ xs' f' = false := rfl
        clear hlb hnum hl1
        have hmv : MV = some ⟨cx ⟨p, 1, st, sk, false⟩ xs' f' (cnt xs' f'), cy ⟨p, 1, st, sk, false⟩ ys' f' (cnt xs' f'), lst ⟨p, 1, st, sk, false⟩ xs' f', j + 1, pth ++ lapP ⟨p, 1, st, sk, false⟩ f' (cnt xs' f')⟩ := by rw [← HJ.out.mv, show 100 - j = (99 - j) + 1 by omega, mvF_no ha]
        have Hmv := Lib.hid hmv
        clear hmv ha
        obtain ⟨zl, z0, z1, z2, z3, y0, y1, y2, y3⟩ := HZ.out.below HJ.out.be
        go_wp2_with fail
        rw [Hmv.out]
        refine bodyPost_ret (v := .tuple #[.agg #[.slice (some ⟨b5, 0, none⟩) pn1 c5, .slice (some ⟨b6, 0, none⟩) 2 c6, .int .i64 (lst ⟨p, 1, st, sk, false⟩ xs' f'), .int .i64 ((j : Int) + 1)], u10, .bool true]) (by simp [results, Try.results85, go_sem, z0, z1, z2, z3]) rfl (sow_yes p s c l st sk false fe ag HW.out hwu hwc HJ.out hl5 hl6 hk5 hk6 hn5 hn6)
      · have hlst : lst ⟨p, 1, st, sk, true⟩ xs' f' = Rl.at ⟨p, 1, st, sk, true⟩ f' (cnt xs' f' - 1) := rfl
        rw [← hlst] at hlb
        by_cases hneg : lst ⟨p, 1, st, sk, true⟩ xs' f' = -1
        · have ha : agn ⟨p, 1, st, sk, true⟩ xs' f' = false := by unfold agn; rw [hneg]; simp
          have tn : ¬ 0 ≤ lst ⟨p, 1, st, sk, true⟩ xs' f' := by omega
          clear hlb hnum hl1 hlst hneg
          have hmv : MV = some ⟨cx ⟨p, 1, st, sk, true⟩ xs' f' (cnt xs' f'), cy ⟨p, 1, st, sk, true⟩ ys' f' (cnt xs' f'), lst ⟨p, 1, st, sk, true⟩ xs' f', j + 1, pth ++ lapP ⟨p, 1, st, sk, true⟩ f' (cnt xs' f')⟩ := by rw [← HJ.out.mv, show 100 - j = (99 - j) + 1 by omega, mvF_no ha]
          have Hmv := Lib.hid hmv
          clear hmv ha
          obtain ⟨zl, z0, z1, z2, z3, y0, y1, y2, y3⟩ := HZ.out.below HJ.out.be
          go_wp2_with fail
          rw [Hmv.out]
          refine bodyPost_ret (v := .tuple #[.agg #[.slice (some ⟨b5, 0, none⟩) pn1 c5, .slice (some ⟨b6, 0, none⟩) 2 c6, .int .i64 (lst ⟨p, 1, st, sk, true⟩ xs' f'), .int .i64 ((j : Int) + 1)], u10, .bool true]) (by simp [results, Try.results85, go_sem, z0, z1, z2, z3]) rfl (sow_yes p s c l st sk true fe ag HW.out hwu hwc HJ.out hl5 hl6 hk5 hk6 hn5 hn6)
        · obtain ⟨K, hK⟩ : ∃ K : Nat, lst ⟨p, 1, st, sk, true⟩ xs' f' = (K : Int) := ⟨(lst ⟨p, 1, st, sk, true⟩ xs' f').toNat, by omega⟩
          have hdone := (HJ.out.lap.done HRf.out).lx
          have hKn : K < pn1 := by
            have h1 := hlb.2
            have h2 := HJ.out.so.l1
            rw [hK] at h1
            omega
          obtain ⟨y1, y2, y3⟩ := HJ.out.so.x hKn
          have hag : agn ⟨p, 1, st, sk, true⟩ xs' f' = decide (1 < (cx ⟨p, 1, st, sk, true⟩ xs' f' (cnt xs' f')).getD K 0) := by
            unfold agn
            rw [hK, Int.toNat_natCast]
            have e : decide ((K : Int) ≠ -1) = true := by first | (simp; done) | (simp; omega)
            rw [e]; rfl
          have hK0 : (0 : Int) ≤ (K : Int) := by omega
          have hK1 : (K : Int) < (pn1 : Int) := by omega
          rw [hK] at k2
          have HK := Lib.hid hK
          generalize (cx ⟨p, 1, st, sk, true⟩ xs' f' (cnt xs' f')).getD K 0 = v at *
          clear hdone hlb hnum hl1 hlst hneg
          by_cases hv : 1 < v
          · have ha : agn ⟨p, 1, st, sk, true⟩ xs' f' = true := by rw [hag]; simpa using hv
            clear hag
            by_cases h99 : j = 99
            · have hmv : MV = none := by rw [← HJ.out.mv, show 100 - j = 0 + 1 by omega, mvF_yes ha]; rfl
              have Hmv := Lib.hid hmv
              have h100 : (100 : Int) ≤ (j : Int) + 1 := by omega
              clear hmv ha hK h99
              obtain ⟨zl, z0, z1, z2, z3, q0, q1, q2, q3⟩ := HZ.out.below HJ.out.be
              go_wp2_with fail
              rw [Hmv.out]
              refine bodyPost_ret (v := .tuple #[.agg #[.slice none 0 0, .slice none 0 0, .int .i64 0, .int .i64 0], .slice none 0 0, .bool false]) (by simp [results, Try.results85, go_sem, z0, z1, z2, z3]) rfl ⟨rfl, OnW.set4 (show OnW w wr from Below.trans HW.out (HJ.out.be.mono (Nat.le_of_lt hwu))) (Nat.le_refl _) _ _ _ _⟩
            · have h100 : ¬ (100 : Int) ≤ (j : Int) + 1 := by omega
              obtain ⟨_, t0, t1, t2⟩ := HP.out.below HJ.out.be
              have hlen : (pth ++ lapP ⟨p, 1, st, sk, true⟩ f' (cnt xs' f')).length = pth.length + cnt xs' f' := by rw [List.length_append, lapP_len]
              have hcn := HJ.out.lap.num_le
              have hpl := HJ.out.pl
              have hnx := HJ.out.lap.next HRf.out ha
              have hrow : wr.ownsRow wc.heap.size 2 1 u10 (pth ++ lapP ⟨p, 1, st, sk, true⟩ f' (cnt xs' f')).length (nvs (pth ++ lapP ⟨p, 1, st, sk, true⟩ f' (cnt xs' f'))) := by rw [hlen]; exact HJ.out.row
              have HN : Hid (Calls Try.prog 100 #[.pointer (some ⟨rb, 0, none⟩), .pointer (some ⟨s0, 0, none⟩), .int .i64 1, .int .i64 (K : Int), u10] wr.drew (LapD u2 wr.drew ⟨p, 1, st, sk, true⟩ (fun u => RuAt u rb p s c l st sk true fe ag) s0 b5 c5 b6 c6 pn1 wc.heap.size ((j : Int) + 1) (lst ⟨p, 1, st, sk, true⟩ xs' f') (cx ⟨p, 1, st, sk, true⟩ xs' f' (cnt xs' f')) (cy ⟨p, 1, st, sk, true⟩ ys' f' (cnt xs' f')) (pth ++ lapP ⟨p, 1, st, sk, true⟩ f' (cnt xs' f')))) := Lib.hid (by
                rw [← hK]
                exact specLap1 u2 wr.drew ⟨p, 1, st, sk, true⟩ p s c l st sk true fe ag rfl t rb s0 b5 c5 b6 c6 pn1 wc.heap.size (lst ⟨p, 1, st, sk, true⟩ xs' f') ((j : Int) + 1) (lst ⟨p, 1, st, sk, true⟩ xs' f') (cx ⟨p, 1, st, sk, true⟩ xs' f' (cnt xs' f')) (cy ⟨p, 1, st, sk, true⟩ ys' f' (cnt xs' f')) (pth ++ lapP ⟨p, 1, st, sk, true⟩ f' (cnt xs' f')) u10 hp hp8 hnx HJ.out.be.drew (HJ.out.ru.below (Below.refl _ _).drew) (HJ.out.so.below (Below.refl _ _).drew) (own_keep hrow (Below.refl _ _).drew) HJ.out.sz hwc (by omega) hs0 hl5 hl6 (by omega) (by omega) (by omega) (by omega) (by omega) (by omega) hms)
              have Hnx := Lib.hid hnx
              have hmv := HJ.out.mv
              rw [show 100 - j = (100 - (j + 1)) + 1 by omega, mvF_yes ha] at hmv
              have Hmv := Lib.hid hmv
              have Hpl : Hid ((pth ++ lapP ⟨p, 1, st, sk, true⟩ f' (cnt xs' f')).length ≤ 96 * (j + 1)) := Lib.hid (by omega)
              have hsz0 := HJ.out.sz
              clear hmv ha hK hnx hrow hlen hpl hcn
              go_wp2_with fail
              go_still_tail 8, (by kernel_rfl)
              go_wp2_with fail
              refine HN.out.mono ?_
              rintro e w5 ⟨v5, rfl, hb', hr', hs', hrow', hsz'⟩
              have HJ2 : Hid (SwJ u2 ⟨p, 1, st, sk, true⟩ p s c l st sk true fe ag t MV rb s0 b5 c5 b6 c6 pn1 wc.heap.size (j + 1) (cx ⟨p, 1, st, sk, true⟩ xs' f' (cnt xs' f')) (cy ⟨p, 1, st, sk, true⟩ ys' f' (cnt xs' f')) (lst ⟨p, 1, st, sk, true⟩ xs' f') (pth ++ lapP ⟨p, 1, st, sk, true⟩ f' (cnt xs' f')) v5 w5) := Lib.hid ⟨Hnx.out, Hmv.out, hb', hr', hs', hrow', Hpl.out, Nat.le_trans hsz0 hsz'⟩
              clear hb' hr' hs' hrow' hsz' HJ
              go_wp2_with fail
              go_roundg (100 - (j + 1))
              case measure => omega
              case rel => exact ⟨j + 1, _, _, _, _, rfl, by omega, HJ2.out⟩
          · have ha : agn ⟨p, 1, st, sk, true⟩ xs' f' = false := by rw [hag]; simpa using hv
            clear hag hK
            have hmv : MV = some ⟨cx ⟨p, 1, st, sk, true⟩ xs' f' (cnt xs' f'), cy ⟨p, 1, st, sk, true⟩ ys' f' (cnt xs' f'), lst ⟨p, 1, st, sk, true⟩ xs' f', j + 1, pth ++ lapP ⟨p, 1, st, sk, true⟩ f' (cnt xs' f')⟩ := by rw [← HJ.out.mv, show 100 - j = (99 - j) + 1 by omega, mvF_no ha]
            have Hmv := Lib.hid hmv
            clear hmv ha
            obtain ⟨zl, z0, z1, z2, z3, y0, y1, y2, y3⟩ := HZ.out.below HJ.out.be
            go_wp2_with fail
            rw [Hmv.out]
            refine bodyPost_ret (v := .tuple #[.agg #[.slice (some ⟨b5, 0, none⟩) pn1 c5, .slice (some ⟨b6, 0, none⟩) 2 c6, .int .i64 (K : Int), .int .i64 ((j : Int) + 1)], u10, .bool true]) (by simp [results, Try.results85, go_sem, z0, z1, z2, z3]) rfl (by rw [← HK.out]; exact sow_yes p s c l st sk true fe ag HW.out hwu hwc HJ.out hl5 hl6 hk5 hk6 hn5 hn6)
end Go.Proofs.Ytdhkfkfoibddnaa
