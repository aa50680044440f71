/- Pm9, Pl9, Rp8, Vg8, Rep8, Rep9, RpO, Mv8, Mk13, Ri7, Lm7, LmS, EndF, one after the other (what the laws reach of them). No conditions. -/
import Derived.Test.YtgbaneildbdgdaaGreatWb6
namespace Go.Proofs.YtgbaneildbdgdaaGreat
open Go.Joins Go.ChangeShapes Go.WideShapes Go.ChangeAt Go.RowKit Go.Deep
set_option linter.unusedVariables false
set_option maxHeartbeats 8000000
set_option maxRecDepth 100000
/- Pm9 -/
theorem MkP.low {p s c l : Int} {st sk re fe ag : Bool} {n1 : Nat} {q : Ps} {h1 d1 h2 d2 : Nat} {LV : Option (Res × R7)} {H0 H1 : Nat} {cs : List Value} {u : World} (h : MkP p s c l st sk re fe ag n1 q h1 d1 h2 d2 LV H1 cs u) (hh : H0 ≤ H1) : MkP p s c l st sk re fe ag n1 q h1 d1 h2 d2 LV H0 cs u := by
 cases LV with
 | none => trivial
 | some mr =>
  obtain ⟨s1, s2, sc1, sc2, g1, k1, g2, k2, he, ho, r⟩ := h
  exact ⟨s1, s2, sc1, sc2, g1, k1, g2, k2, he, ho.lower hh, r⟩
theorem MkP.but9 {p s c l : Int} {st sk re fe ag : Bool} {n1 : Nat} {q : Ps} {h1 d1 h2 d2 : Nat} {LV : Option (Res × R7)} {H1 z : Nat} {cs : List Value} {u v : World} (h : MkP p s c l st sk re fe ag n1 q h1 d1 h2 d2 LV H1 cs u) (k : But z u v) (hz : z < H1) : MkP p s c l st sk re fe ag n1 q h1 d1 h2 d2 LV H1 cs v := by
 cases LV with
 | none => trivial
 | some mr =>
  obtain ⟨s1, s2, sc1, sc2, g1, k1, g2, k2, he, ho, l1, l2, r⟩ := h
  have n1' := ho.o1.new
  have n2' := ho.o2.new
  exact ⟨s1, s2, sc1, sc2, g1, k1, g2, k2, he, ho.but k (by omega) (by omega), Nat.lt_of_lt_of_le l1 k.size, Nat.lt_of_lt_of_le l2 k.size, r⟩
theorem rg18 {u : World} {z : Nat} {v0 v1 v2 v3 v4 v5 v6 v7 v8 v9 v10 v11 v12 v13 v14 v15 v16 : Value} (h : G17 u z v0 v1 v2 v3 v4 v5 v6 v7 v8 v9 v10 v11 v12 v13 v14 v15 v16) : u.rangeAt z 0 [v0, v1, v2, v3, v4, v5, v6, v7, v8] ∧ u.rangeAt z 13 [v13, v14, v15] := by
 constructor
 ·intro j v hj
  match j, hj with
  | 0, hj => cases hj; exact h.c0
  | 1, hj => cases hj; exact h.c1
  | 2, hj => cases hj; exact h.c2
  | 3, hj => cases hj; exact h.c3
  | 4, hj => cases hj; exact h.c4
  | 5, hj => cases hj; exact h.c5
  | 6, hj => cases hj; exact h.c6
  | 7, hj => cases hj; exact h.c7
  | 8, hj => cases hj; exact h.c8
  | n + 9, hj => simp at hj
 ·intro j v hj
  match j, hj with
  | 0, hj => cases hj; exact h.c13
  | 1, hj => cases hj; exact h.c14
  | 2, hj => cases hj; exact h.c15
  | n + 3, hj => simp at hj
def cdS (p s c l : Int) (st sk re fe ag : Bool) (q : Ps) (move : Int) : Int := lgC c l p q.pl fe q.xs (mvCd true p q.pl st sk re q.xs q.ys move) (mvV true p q.pl st sk re q.xs q.ys move)
def lvS (p s c l : Int) (st sk re fe ag : Bool) (q : Ps) (move : Int) : Option (Res × R7) := (lgV c l p q.pl fe q.xs (mvV true p q.pl st sk re q.xs q.ys move)).map fun m => (m, r7V c l p q.pl ag q.ys move m)
def PmP (w : World) (pb : Nat) (p s c l : Int) (st sk re fe ag : Bool) (n1 b1 e1 b2 e2 : Nat) (sp : Int) (sx sy : List Int) (ms : List Int) (L : List (T21 × Q21)) (q : Ps) (R : List (Nat × List Int)) (move : Int) (LV : Option (Res × R7)) (cd : Int) (u : World) (e : Ending) (u' : World) : Prop :=
 match LV with
 | none => e = .returned (.int .i64 cd) ∧ Below u.heap.size u u'
 | some mr => e = .returned (.int .i64 0) ∧ ∃ v1' v2' x g1 c1 g2 c2 R', PlK w pb p s c l st sk re fe ag n1 b1 e1 b2 e2 sp sx sy v1' v2' (ms ++ [move]) (L ++ [x]) g1 c1 g2 c2 mr.2.ps (-1) R' u' ∧ x.1 = ⟨q, mr.1, mr.2⟩
theorem cells21_news (u : World) (T : TypeId) (cs : List Value) (H : Nat) (hH : u.heap.size = H) : ∀ j v, cs[j]? = some v → (u.alloc (.cells cs.toArray T)).cell? ((⟨H, 0, none⟩ : Addr).add j) = some v := by
 subst hH
 intro j v hj
 have e : ((⟨u.heap.size, 0, none⟩ : Addr).add j) = ⟨u.heap.size, 0 + j, none⟩ := by
  by_cases h : j = 0 <;> simp [Addr.add, h]
 rw [e, Nat.zero_add, World.cell?_alloc_new]
 simpa using hj
theorem rg_but {u v : World} {z b : Nat} {cs : List Value} (h : u.rangeAt z 0 cs) (hz : z < u.heap.size) (hb : z ≠ b) (k : But b u v) : v.rangeAt z 0 cs := fun j x hx => (k.cell (c := z) (o := 0 + j) hz hb).trans (h j x hx)
theorem rg_below {u v : World} {z : Nat} {cs : List Value} (h : u.rangeAt z 0 cs) (hz : z < u.heap.size) (k : Below u.heap.size u v) : v.rangeAt z 0 cs := fun j x hx => (k.cell (p := ⟨z, 0 + j, none⟩) hz).trans (h j x hx)
theorem rg_grown {u v : World} {z : Nat} {cs : List Value} {row : Option Nat} (h : u.rangeAt z 0 cs) (hz : z < u.heap.size) (hg : u.grownBy v row) (hr : ∀ i, row = some i → i ≠ z) : v.rangeAt z 0 cs := fun j x hx => (World.cell?_of_block (a := ⟨z, 0 + j, none⟩) (hg.block z hz (fun e => hr z e.symm rfl))).trans (h j x hx)
theorem pmove_any (w : World) (pb : Nat) (p s c l : Int) (st sk re fe ag : Bool) (n1 b1 e1 b2 e2 : Nat) (sp : Int) (sx sy : List Int) (v1 v2 : Value) (ms : List Int) (L : List (T21 × Q21)) (h1 d1 h2 d2 : Nat) (q : Ps) (R : List (Nat × List Int)) (move : Int) (u : World) (h : PlK w pb p s c l st sk re fe ag n1 b1 e1 b2 e2 sp sx sy v1 v2 ms L h1 d1 h2 d2 q (-1) R u) (hok : OkQ p s c l st ag n1 q) (hms : ms.length < 120) (hLm : L.length = ms.length) :
  Calls Tryz.prog 79 #[.pointer (some ⟨pb, 0, none⟩), .int .i64 move] u (PmP w pb p s c l st sk re fe ag n1 b1 e1 b2 e2 sp sx sy ms L q R move (lvS p s c l st sk re fe ag q move) (cdS p s c l st sk re fe ag q move) u) := by
 obtain ⟨ma, mc, hv1⟩ := slice_own h.mo
 subst hv1
 have hd120 : ((ms.length : Int) == 120) = false := by simp; omega
 have HMk0 : ∀ u', Below u.heap.size u u' → Calls Tryz.prog 110 #[.agg #[.int .i64 p, .int .i64 s, .bool st, .bool sk, .bool re, .bool fe, .bool ag, .int .i64 c, .int .i64 l], .agg #[.slice (some ⟨h1, 0, none⟩) n1 d1, .slice (some ⟨h2, 0, none⟩) 2 d2, .int .i64 q.pl], .int .i64 move] u' (MkG p s c l st sk re fe ag n1 q h1 d1 h2 d2 (lvS p s c l st sk re fe ag q move) (cdS p s c l st sk re fe ag q move) u') := fun u' hu => (makeL_any p s c l st sk re fe ag (some ⟨h1, 0, none⟩) (some ⟨h2, 0, none⟩) n1 d1 2 d2 q.pl q.xs q.ys move u' (h.nr.below hu) h.k3 true hok.ok).mono (fun e w' hq => mkG_of hq)
 have H := Lib.hid h
 have HRg := Lib.hid (TGm.rg h.g)
 have c12 := h.g.c12
 have HMk1 := Lib.hid HMk0
 clear h HMk0
 have HCd0 : (lvS p s c l st sk re fe ag q move = none → (cdS p s c l st sk re fe ag q move == 0) = false) ∧ ((lvS p s c l st sk re fe ag q move).isSome = true → cdS p s c l st sk re fe ag q move = 0) := by
  unfold lvS cdS
  cases hl : lgV c l p q.pl fe q.xs (mvV true p q.pl st sk re q.xs q.ys move) with
  | none => exact ⟨fun _ => lg_none hok.ok hok.l1 hl, fun e => by cases e⟩
  | some m => exact ⟨(fun e => by cases e), fun _ => (lg_some hl).2⟩
 have HLV0 : ∀ mr, lvS p s c l st sk re fe ag q move = some mr → mr.2.nx = (if ag && decide (mr.1.last = -1) then q.pl else 1 - q.pl) ∧ mr.2.xs.length = n1 ∧ mr.2.ys.length = 2 := by
  unfold lvS
  intro mr hmr
  cases hl : lgV c l p q.pl fe q.xs (mvV true p q.pl st sk re q.xs q.ys move) with
  | none => rw [hl] at hmr; cases hmr
  | some m =>
   rw [hl] at hmr
   cases hmr
   have h3 := stp_ok (move := move) (r := r7V c l p q.pl ag q.ys move m) hok (by unfold stp; rw [hl]; rfl)
   exact ⟨rfl, h3.l1, h3.l2⟩
 have HLl : Hid (L.length < 120) := Lib.hid (by omega)
 clear hLm
 have HCd := Lib.hid HCd0
 have HLV := Lib.hid HLV0
 have hpl : q.pl = 0 ∨ q.pl = 1 := by obtain ⟨-, -, -, h4, -⟩ := okP_parts hok.ok; omega
 have Hpl := Lib.hid hpl
 obtain ⟨i1, hi1, hy0, hy1, hy2⟩ := info_parts infoN
 obtain ⟨i2, hi2, hx0, hx1, hx2⟩ := info_parts infoM
 clear HCd0 HLV0 hpl hok
 generalize cdS p s c l st sk re fe ag q move = cd at *
 generalize lvS p s c l st sk re fe ag q move = LV at *
 go_enter Tryz.func79, Tryz.ntmps79
 go_wp2_with (refine wpList_load_mid rfl 35 _ rfl pb 0 rfl _ _ HRg.out Tryz.underlying35 rfl (by kernel_rfl) ?_)
 refine (hasR_no _ _ _ _ _ _ _ _ _ _ _ _ _ _ _ _ _ _ _ _ _ _ _ _ _ _ _ _ rfl).mono ?_
 rintro e u0 ⟨rfl, hb⟩
 have H := Lib.hid (H.out.below hb)
 have c12 := H.out.g.c12
 have HMk2 := Lib.hid (fun u' (hu : OnW u0 u') => HMk1.out u' (Below.trans hb (Below.mono hu hb.size)))
 have hbu := Lib.hid hb
 clear hb HRg HMk1
 go_upto_region 5 with fail
 go_cut [5, 6] (fun s5 s6 wx => ∃ (z : Nat) (cs : List Value), s5 = .pointer (some ⟨z, 0, none⟩) ∧ s6 = .int .i64 cd ∧ u0.heap.size ≤ z ∧ z < wx.heap.size ∧ wx.rangeAt z 0 cs ∧ cs.length = 21 ∧ cs.toArray.all (·.oneCell') = true ∧ MkP p s c l st sk re fe ag n1 q h1 d1 h2 d2 LV u0.heap.size cs wx ∧ OnW u0 wx)
 case first =>
  have HMk := HMk2
  have HT : Hid (∀ u', OnW u0 u' → u'.rangeAt pb 0 [.int .i64 p, .int .i64 s, .bool st, .bool sk, .bool re, .bool fe, .bool ag, .int .i64 c, .int .i64 l] ∧ u'.rangeAt pb 13 [.slice (some ⟨h1, 0, none⟩) n1 d1, .slice (some ⟨h2, 0, none⟩) 2 d2, .int .i64 q.pl]) := Lib.hid (fun u' hu => rg18 (H.out.g.below hu))
  refine wp_region_held_drew (S := (fun u => u.rangeAt pb 0 [.int .i64 p, .int .i64 s, .bool st, .bool sk, .bool re, .bool fe, .bool ag, .int .i64 c, .int .i64 l] ∧ u.rangeAt pb 13 [.slice (some ⟨h1, 0, none⟩) n1 d1, .slice (some ⟨h2, 0, none⟩) 2 d2, .int .i64 q.pl])) (by kernel_rfl) (HT.out _ (OnW.drew (show OnW u0 u0 from Below.refl _ _))) (fun hHeld => ?_)
  have HB := Lib.hid (OnW.drew (show OnW u0 u0 from Below.refl _ _))
  refine wpAnyH_take (i := 0) (oi := { dst := some 20, op := Op.move (Operand.tmp 0), type := 91, pos := "l08_games.go:60", after := #[], guard := none }) (v := .pointer (some ⟨pb, 0, none⟩)) rfl (by kernel_rfl) (by kernel_rfl) (by kernel_rfl) (fun _ _ _ h => h) (Or.inl ⟨by rfl, fun u hu => by (try dsimp only at hu); go_simp; try with_reducible rfl⟩) hHeld ?_
  simp only [Act.put, List.setIfInBounds_toArray, List.set_cons_zero, List.set_cons_succ]
  refine wpAnyH_take (i := 1) (oi := { dst := some 21, op := Op.nilCheck (Operand.tmp 20), type := 0, pos := "l08_games.go:60", after := #[{ on := 0, ground := Ground.data }], guard := none }) (v := .pointer (some ⟨pb, 0, none⟩)) rfl (by kernel_rfl) (by kernel_rfl) (by kernel_rfl) (fun _ _ _ h => h) (Or.inl ⟨by rfl, fun u hu => by (try dsimp only at hu); go_simp; try with_reducible rfl⟩) hHeld ?_
  simp only [Act.put, List.setIfInBounds_toArray, List.set_cons_zero, List.set_cons_succ]
  refine wpAnyH_take (i := 2) (oi := { dst := some 22, op := Op.fieldAddr 72 (Operand.tmp 21) 0, type := 0, pos := "l08_games.go:60", after := #[{ on := 1, ground := Ground.data }], guard := none }) (v := .pointer (some ⟨pb, 0, none⟩)) rfl (by kernel_rfl) (by kernel_rfl) (by kernel_rfl) (fun _ _ _ h => h) (Or.inl ⟨by rfl, fun u hu => by (try dsimp only at hu); go_simp; try with_reducible rfl⟩) hHeld ?_
  simp only [Act.put, List.setIfInBounds_toArray, List.set_cons_zero, List.set_cons_succ]
  refine wpAnyH_take (i := 3) (oi := { dst := some 23, op := Op.fieldAddr 35 (Operand.tmp 22) 0, type := 0, pos := "l08_games.go:60", after := #[{ on := 2, ground := Ground.data }], guard := none }) (v := .pointer (some ⟨pb, 0, none⟩)) rfl (by kernel_rfl) (by kernel_rfl) (by kernel_rfl) (fun _ _ _ h => h) (Or.inl ⟨by rfl, fun u hu => by (try dsimp only at hu); go_simp; try with_reducible rfl⟩) hHeld ?_
  simp only [Act.put, List.setIfInBounds_toArray, List.set_cons_zero, List.set_cons_succ]
  refine wpAnyH_take (i := 4) rfl (by kernel_rfl) (by kernel_rfl) (by kernel_rfl) (fun _ _ _ h => h) (yieldsIf_load_mid (by rfl) 32 _ rfl pb 0 rfl [.int .i64 p, .int .i64 s, .bool st, .bool sk, .bool re, .bool fe, .bool ag, .int .i64 c, .int .i64 l] _ (fun u hu => hu.1) Tryz.underlying32 rfl (by kernel_rfl)) hHeld ?_
  simp only [Act.put, List.setIfInBounds_toArray]
  refine wpAnyH_take (i := 5) (oi := { dst := some 25, op := Op.move (Operand.tmp 0), type := 91, pos := "l08_games.go:60", after := #[], guard := none }) (v := .pointer (some ⟨pb, 0, none⟩)) rfl (by kernel_rfl) (by kernel_rfl) (by kernel_rfl) (fun _ _ _ h => h) (Or.inl ⟨by rfl, fun u hu => by (try dsimp only at hu); go_simp; try with_reducible rfl⟩) hHeld ?_
  simp only [Act.put]
  refine wpAnyH_take (i := 6) (oi := { dst := some 26, op := Op.nilCheck (Operand.tmp 25), type := 0, pos := "l08_games.go:60", after := #[{ on := 5, ground := Ground.data }], guard := none }) (v := .pointer (some ⟨pb, 0, none⟩)) rfl (by kernel_rfl) (by kernel_rfl) (by kernel_rfl) (fun _ _ _ h => h) (Or.inl ⟨by rfl, fun u hu => by (try dsimp only at hu); go_simp; try with_reducible rfl⟩) hHeld ?_
  simp only [Act.put]
  refine wpAnyH_take (i := 7) (oi := { dst := some 27, op := Op.fieldAddr 72 (Operand.tmp 26) 0, type := 0, pos := "l08_games.go:60", after := #[{ on := 6, ground := Ground.data }], guard := none }) (v := .pointer (some ⟨pb, 0, none⟩)) rfl (by kernel_rfl) (by kernel_rfl) (by kernel_rfl) (fun _ _ _ h => h) (Or.inl ⟨by rfl, fun u hu => by (try dsimp only at hu); go_simp; try with_reducible rfl⟩) hHeld ?_
  simp only [Act.put]
  refine wpAnyH_take (i := 8) (oi := { dst := some 28, op := Op.fieldAddr 35 (Operand.tmp 27) 3, type := 0, pos := "l08_games.go:60", after := #[{ on := 7, ground := Ground.data }], guard := none }) (v := .pointer (some ⟨pb, 13, none⟩)) rfl (by kernel_rfl) (by kernel_rfl) (by kernel_rfl) (fun _ _ _ h => h) (Or.inl ⟨by rfl, fun u hu => by (try dsimp only at hu); go_simp; try with_reducible rfl⟩) hHeld ?_
  simp only [Act.put]
  refine wpAnyH_take (i := 9) rfl (by kernel_rfl) (by kernel_rfl) (by kernel_rfl) (fun _ _ _ h => h) (yieldsIf_load_mid (by rfl) 33 _ rfl pb 13 rfl [.slice (some ⟨h1, 0, none⟩) n1 d1, .slice (some ⟨h2, 0, none⟩) 2 d2, .int .i64 q.pl] _ (fun u hu => hu.2) Tryz.underlying33 rfl (by kernel_rfl)) hHeld ?_
  simp only [Act.put]
  refine wpAnyH_take (i := 10) (oi := { dst := some 30, op := Op.move (Operand.tmp 1), type := 2, pos := "l08_games.go:60", after := #[], guard := none }) (v := .int .i64 move) rfl (by kernel_rfl) (by kernel_rfl) (by kernel_rfl) (fun _ _ _ h => h) (Or.inl ⟨by rfl, fun u hu => by (try dsimp only at hu); go_simp; try with_reducible rfl⟩) hHeld ?_
  simp only [Act.put]
  refine wpAnyH_ready (rs := [11, 15]) (by kernel_rfl) (by simp) ?_
  refine AllReadyH.cons rfl (fun K hK => ?_) (AllReadyH.cons rfl (fun K hK => ?_) AllReadyH.nil)
  ·rw [if_pos (by rfl)]
   go_simp
   go_at_call 110
   refine (HMk.out _ HB.out).mono ?_
   rintro e w5 ⟨cs, hc1, hc2, rfl, hP, hb5⟩
   have hsz0 := HB.out.bel.size
   have HCs := Lib.hid (And.intro hc1 hc2)
   have HP5 := Lib.hid (MkP.low hP hsz0)
   have HB := Lib.hid (OnW.below HB.out hb5)
   have hsz5 := hb5.size
   clear hP hb5 hc1 hc2
   (try dsimp only)
   refine hK.out _ _ (HT.out _ HB.out) (fun hHeld => ?_)
   clear hK K
   (try simp only [Act.put, List.setIfInBounds_toArray, List.set_cons_zero, List.set_cons_succ])
   refine wpAnyH_take (i := 12) (oi := { dst := some 19, op := Op.move (Operand.tmp 31), type := 126, pos := "l08_games.go:60", after := #[{ on := 11, ground := Ground.data }], guard := none }) (v := .tuple #[.agg cs.toArray, .int .i64 cd]) rfl (by kernel_rfl) (by kernel_rfl) (by kernel_rfl) (fun _ _ _ h => h) (Or.inl ⟨by rfl, fun u hu => by (try dsimp only at hu); go_simp; try with_reducible rfl⟩) hHeld ?_
   simp only [Act.put, List.setIfInBounds_toArray, List.set_cons_zero, List.set_cons_succ]
   refine wpAnyH_take (i := 13) (oi := { dst := some 32, op := Op.extract (Operand.tmp 19) 0, type := 125, pos := "l08_games.go:60", after := #[{ on := 12, ground := Ground.data }], guard := none }) (v := .agg cs.toArray) rfl (by kernel_rfl) (by kernel_rfl) (by kernel_rfl) (fun _ _ _ h => h) (Or.inl ⟨by rfl, fun u hu => by (try dsimp only at hu); go_simp; try with_reducible rfl⟩) hHeld ?_
   simp only [Act.put, List.setIfInBounds_toArray, List.set_cons_zero, List.set_cons_succ]
   refine wpAnyH_take (i := 14) (oi := { dst := some 33, op := Op.extract (Operand.tmp 19) 1, type := 2, pos := "l08_games.go:60", after := #[{ on := 12, ground := Ground.data }, { on := 16, ground := Ground.gcOnly Departure.lateStores }], guard := none }) (v := .int .i64 cd) rfl (by kernel_rfl) (by kernel_rfl) (by kernel_rfl) (fun _ _ _ h => h) (Or.inl ⟨by rfl, fun u hu => by (try dsimp only at hu); go_simp; try with_reducible rfl⟩) hHeld ?_
   simp only [Act.put, List.setIfInBounds_toArray, List.set_cons_zero, List.set_cons_succ]
   refine wpAnyH_ready (rs := [15]) (by kernel_rfl) (by simp) ?_
   refine AllReadyH.cons rfl (fun K hK => ?_) AllReadyH.nil
   rw [if_pos (by rfl)]
   go_simp
   have HTh := Lib.hid (thN_new w5 125)
   have HB6 := Lib.hid (OnW.below HB.out (al1 w5 (.cells zero21.toArray 125)))
   have hs6 := HB.out.bel.size
   change K _ (w5.alloc (.cells zero21.toArray 125))
   (try dsimp only)
   refine hK.out _ _ (HT.out _ HB6.out) (fun hHeld => ?_)
   clear hK K
   (try simp only [Act.put, List.setIfInBounds_toArray, List.set_cons_zero, List.set_cons_succ])
   refine wpAnyH_ready (rs := [16]) (by kernel_rfl) (by simp) ?_
   refine AllReadyH.cons rfl (fun K hK => ?_) AllReadyH.nil
   rw [if_pos (by rfl)]
   refine wp_store_mid 125 _ _ rfl w5.heap.size 0 cs.toArray rfl rfl (by rw [show cs.toArray.size = 21 from by simpa using HCs.out.1]; exact HTh.out.th) (by rw [show cs.toArray.size = 21 from by simpa using HCs.out.1]; kernel_rfl) HCs.out.2 ?_
   (try simp only [Act.put, List.setIfInBounds_toArray])
   have HB7 := Lib.hid (show OnW u0 ((w5.alloc (.cells zero21.toArray 125)).setCells w5.heap.size 0 cs) from below_scg w5.heap.size hs6 cs 0 HB6.out)
   (try dsimp only)
   refine hK.out _ _ (HT.out _ HB7.out) (fun hHeld => ?_)
   clear hK K
   (try simp only [Act.put, List.setIfInBounds_toArray, List.set_cons_zero, List.set_cons_succ])
   refine wpAnyH_take (i := 17) (oi := { dst := some 6, op := Op.assign (Operand.tmp 33), type := 2, pos := "l08_games.go:60", after := #[{ on := 14, ground := Ground.data }, { on := 16, ground := Ground.chain }, { on := 0, ground := Ground.phase }, { on := 1, ground := Ground.phase }, { on := 2, ground := Ground.phase }, { on := 3, ground := Ground.phase }, { on := 4, ground := Ground.phase }, { on := 5, ground := Ground.phase }, { on := 6, ground := Ground.phase }, { on := 7, ground := Ground.phase }, { on := 8, ground := Ground.phase }, { on := 9, ground := Ground.phase }, { on := 10, ground := Ground.phase }, { on := 11, ground := Ground.phase }, { on := 12, ground := Ground.phase }, { on := 13, ground := Ground.phase }, { on := 14, ground := Ground.phase }, { on := 15, ground := Ground.phase }, { on := 16, ground := Ground.phase }], guard := none }) (v := .int .i64 cd) rfl (by kernel_rfl) (by kernel_rfl) (by kernel_rfl) (fun _ _ _ h => h) (Or.inl ⟨by rfl, fun u hu => by (try dsimp only at hu); go_simp; try with_reducible rfl⟩) hHeld ?_
   simp only [Act.put]
   refine wpAnyH_done (by kernel_rfl) ?_ _
   go_wp2_with fail
   go_meet
   exact ⟨w5.heap.size, cs, rfl, rfl, hs6, by rw [size_scg]; simp, World.rangeAt_setCells_same _ _ 0 _ (by rw [HCs.out.1]; exact HTh.out.th), HCs.out.1, HCs.out.2, MkP.below HP5.out (below_scg w5.heap.size (Nat.le_refl _) cs 0 (al1 w5 _)), HB7.out⟩
  ·rw [if_pos (by rfl)]
   go_simp
   have HTh := Lib.hid (thN_new u0 125)
   have HB6 := Lib.hid (OnW.drew (show OnW u0 (u0.alloc (.cells zero21.toArray 125)) from al1 u0 _))
   change K _ (u0.alloc (.cells zero21.toArray 125)).drew
   have HB := HB6
   (try dsimp only)
   refine hK.out _ _ (HT.out _ HB.out) (fun hHeld => ?_)
   clear hK K
   (try simp only [Act.put, List.setIfInBounds_toArray, List.set_cons_zero, List.set_cons_succ])
   refine wpAnyH_ready (rs := [11]) (by kernel_rfl) (by simp) ?_
   refine AllReadyH.cons rfl (fun K hK => ?_) AllReadyH.nil
   rw [if_pos (by rfl)]
   go_simp
   go_at_call 110
   refine (HMk.out _ HB.out).mono ?_
   rintro e w5 ⟨cs, hc1, hc2, rfl, hP, hb5⟩
   have hsz0 := HB.out.bel.size
   have HCs := Lib.hid (And.intro hc1 hc2)
   have HTh5 := Lib.hid (ThN.below (ThN.below HTh.out (Below.refl _ _).drew) hb5)
   have HP5 := Lib.hid hP
   have HB := Lib.hid (OnW.below HB.out hb5)
   have hsz5 := hb5.size
   clear hP hb5 hc1 hc2
   (try dsimp only)
   refine hK.out _ _ (HT.out _ HB.out) (fun hHeld => ?_)
   clear hK K
   (try simp only [Act.put, List.setIfInBounds_toArray, List.set_cons_zero, List.set_cons_succ])
   refine wpAnyH_take (i := 12) (oi := { dst := some 19, op := Op.move (Operand.tmp 31), type := 126, pos := "l08_games.go:60", after := #[{ on := 11, ground := Ground.data }], guard := none }) (v := .tuple #[.agg cs.toArray, .int .i64 cd]) rfl (by kernel_rfl) (by kernel_rfl) (by kernel_rfl) (fun _ _ _ h => h) (Or.inl ⟨by rfl, fun u hu => by (try dsimp only at hu); go_simp; try with_reducible rfl⟩) hHeld ?_
   simp only [Act.put, List.setIfInBounds_toArray, List.set_cons_zero, List.set_cons_succ]
   refine wpAnyH_take (i := 13) (oi := { dst := some 32, op := Op.extract (Operand.tmp 19) 0, type := 125, pos := "l08_games.go:60", after := #[{ on := 12, ground := Ground.data }], guard := none }) (v := .agg cs.toArray) rfl (by kernel_rfl) (by kernel_rfl) (by kernel_rfl) (fun _ _ _ h => h) (Or.inl ⟨by rfl, fun u hu => by (try dsimp only at hu); go_simp; try with_reducible rfl⟩) hHeld ?_
   simp only [Act.put, List.setIfInBounds_toArray, List.set_cons_zero, List.set_cons_succ]
   refine wpAnyH_take (i := 14) (oi := { dst := some 33, op := Op.extract (Operand.tmp 19) 1, type := 2, pos := "l08_games.go:60", after := #[{ on := 12, ground := Ground.data }, { on := 16, ground := Ground.gcOnly Departure.lateStores }], guard := none }) (v := .int .i64 cd) rfl (by kernel_rfl) (by kernel_rfl) (by kernel_rfl) (fun _ _ _ h => h) (Or.inl ⟨by rfl, fun u hu => by (try dsimp only at hu); go_simp; try with_reducible rfl⟩) hHeld ?_
   simp only [Act.put, List.setIfInBounds_toArray, List.set_cons_zero, List.set_cons_succ]
   refine wpAnyH_ready (rs := [16]) (by kernel_rfl) (by simp) ?_
   refine AllReadyH.cons rfl (fun K hK => ?_) AllReadyH.nil
   rw [if_pos (by rfl)]
   refine wp_store_mid 125 _ _ rfl u0.heap.size 0 cs.toArray rfl rfl (by rw [show cs.toArray.size = 21 from by simpa using HCs.out.1]; exact HTh5.out.th) (by rw [show cs.toArray.size = 21 from by simpa using HCs.out.1]; kernel_rfl) HCs.out.2 ?_
   (try simp only [Act.put, List.setIfInBounds_toArray])
   have HB7 := Lib.hid (show OnW u0 (w5.setCells u0.heap.size 0 cs) from below_scg u0.heap.size (Nat.le_refl _) cs 0 HB.out)
   (try dsimp only)
   refine hK.out _ _ (HT.out _ HB7.out) (fun hHeld => ?_)
   clear hK K
   (try simp only [Act.put, List.setIfInBounds_toArray, List.set_cons_zero, List.set_cons_succ])
   refine wpAnyH_take (i := 17) (oi := { dst := some 6, op := Op.assign (Operand.tmp 33), type := 2, pos := "l08_games.go:60", after := #[{ on := 14, ground := Ground.data }, { on := 16, ground := Ground.chain }, { on := 0, ground := Ground.phase }, { on := 1, ground := Ground.phase }, { on := 2, ground := Ground.phase }, { on := 3, ground := Ground.phase }, { on := 4, ground := Ground.phase }, { on := 5, ground := Ground.phase }, { on := 6, ground := Ground.phase }, { on := 7, ground := Ground.phase }, { on := 8, ground := Ground.phase }, { on := 9, ground := Ground.phase }, { on := 10, ground := Ground.phase }, { on := 11, ground := Ground.phase }, { on := 12, ground := Ground.phase }, { on := 13, ground := Ground.phase }, { on := 14, ground := Ground.phase }, { on := 15, ground := Ground.phase }, { on := 16, ground := Ground.phase }], guard := none }) (v := .int .i64 cd) rfl (by kernel_rfl) (by kernel_rfl) (by kernel_rfl) (fun _ _ _ h => h) (Or.inl ⟨by rfl, fun u hu => by (try dsimp only at hu); go_simp; try with_reducible rfl⟩) hHeld ?_
   simp only [Act.put]
   refine wpAnyH_done (by kernel_rfl) ?_ _
   go_wp2_with fail
   go_meet
   exact ⟨u0.heap.size, cs, rfl, rfl, Nat.le_refl _, by rw [size_scg]; exact HTh5.out.lt, World.rangeAt_setCells_same _ _ 0 _ (by rw [HCs.out.1]; exact HTh5.out.th), HCs.out.1, HCs.out.2, MkP.low (MkP.but9 HP5.out (but_scg u0.heap.size cs 0 (But.refl _ _)) (by simp)) (by simp), HB7.out⟩
 case rest =>
  obtain ⟨z, cs, rfl, rfl, hz, hzl, hrg, hcl, hone, hP, hB⟩ := hcut
  cases LV with
  | none =>
   have d := HCd.out.1 rfl
   have hbB := Lib.hid (Below.trans hbu.out (Below.mono hB hbu.out.size))
   clear hrg hone hP hB hcl c12
   go_wp2_with fail
   go_ret
   exact ⟨rfl, hbB.out⟩
  | some mr =>
   obtain rfl := HCd.out.2 (by simp)
   obtain ⟨hnx, hl1, hl2⟩ := HLV.out mr rfl
   obtain ⟨s1, s2, sc1, sc2, g1, k1, g2, k2, rfl, ho, l1, l2, kk1, kk2⟩ := hP
   have hpz : pb < u0.heap.size := H.out.g.lt
   have HP5 := Lib.hid ((H.out.below hB).rows (H0 := u0.heap.size) H.out.be.size (fun i hi => (own_lt H.out.mo i hi).2) (fun i hi => (own_lt H.out.tu i hi).2) hpz ho l1 l2)
   have ng1 := ho.o1.new
   have ng2 := ho.o2.new
   have hv1z : ∀ i, (Value.slice ma ms.length mc).ownBlock = some i → i < u0.heap.size := fun i hi => (own_lt H.out.mo i hi).2
   have hv2z : ∀ i, v2.ownBlock = some i → i < u0.heap.size := fun i hi => (own_lt H.out.tu i hi).2
   have HV1 := Lib.hid hv1z
   have HV2 := Lib.hid hv2z
   have hb1 := fun y hy => (H.out.rws y hy).lt
   have hDs : Dist b1 b2 g1 g2 := ⟨by have := hb1 _ H.out.s1; simp only at this; omega, by have := hb1 _ H.out.s1; simp only at this; omega, by have := hb1 _ H.out.s2; simp only at this; omega, by have := hb1 _ H.out.s2; simp only at this; omega, H.out.di.2.2.2.2.1, ho.ne⟩
   have HRz := Lib.hid hrg
   have HIt : Hid (ItT ((g1, mr.2.xs) :: (g2, mr.2.ys) :: R) b1 b2 n1 (⟨q, mr.1, mr.2⟩, ⟨h1, h2, d1, d2, s1, s2, sc1, sc2, g1, g2, k1, k2⟩)) := Lib.hid ⟨.tail _ (.tail _ H.out.y1), .tail _ (.tail _ H.out.y2), .head _, .tail _ (.head _), H.out.di, hDs, H.out.m3, H.out.m4, hl1, hl2, H.out.k3, H.out.k4, kk1, kk2⟩
   have HDs := Lib.hid (And.intro hDs (And.intro hl1 (And.intro hl2 (And.intro kk1 (And.intro kk2 hnx)))))
   have c12 := HP5.out.g.c12
   have hwcs := HP5.out.be.size
   clear hrg hone hcl ho l1 l2 hv1z hv2z hb1 hDs hl1 hl2 kk1 kk2 hnx
   go_upto_region 9 with (at_builtin; refine wpList_append_lies _ rfl _ _ 24 rfl w.heap.size 2 i1 (.int .i64 0) 1 8 Tryz.underlying24 hi1 hy0 hy1 hy2 rfl (by decide) (.slice ma ms.length mc) ms.length (nvs ms) rfl (own_keepS HP5.out.mo (al1 _ _)) ⟨wc.heap.size, 0, none⟩ 1 1 (nvs [move]) rfl (by simp [nvs]) (row_news (row_oneL wc move 2)) (nvs_cell _) (by decide) (by unfold maxLen; omega) (by omega) (by simp; omega) _ rfl ?_; intro g cap w7 hown7 hgrow7 hat7 hlt7; (obtain ⟨bb, hbb, kb7⟩ := grown_but hgrow7 pb HP5.out.p1); have G7 := (HP5.out.g.below (al1 wc _)).but kb7 hbb; have c12' := G7.c12; have f12 := G7.fr 12; have l12 := G7.lt; clear G7)
   have HP6 := Lib.hid ((HP5.out.below (al1 wc (.cells #[.int .i64 move] 2))).pushM hown7 hgrow7 (by simpa using hat7))
   have HRz6 := Lib.hid (rg_but (rg_grown (rg_below HRz.out hzl (al1 wc (.cells #[.int .i64 move] 2))) (by simp; omega) hgrow7 (fun i hi => by have := HV1.out i hi; omega)) (Nat.lt_of_lt_of_le hzl (by have := hgrow7.size; simp at this; omega)) (show z ≠ pb by omega) (but_setM pb w7 (.slice (some ⟨g, 0, none⟩) (ms.length + 1) cap)))
   have hz8 : z < (w7.setCell ⟨pb, 12, none⟩ (.slice (some ⟨g, 0, none⟩) (ms.length + 1) cap)).heap.size := by have := hgrow7.size; simp at this ⊢; omega
   clear hown7 hgrow7 hat7 hlt7 kb7 hbb c12' f12 l12 c12
   generalize w7.setCell ⟨pb, 12, none⟩ (.slice (some ⟨g, 0, none⟩) (ms.length + 1) cap) = W8 at *
   have HB8 := Lib.hid (Below.refl W8.heap.size W8).drew
   have HA9 := Lib.hid (al1 W8.drew (.cells (cells21 p s c l st sk re fe ag n1 (⟨q, mr.1, mr.2⟩, ⟨h1, h2, d1, d2, s1, s2, sc1, sc2, g1, g2, k1, k2⟩)).toArray 125))
   go_cut [49] (fun s49 wx => s49 = .pointer (some ⟨pb, 0, none⟩) ∧ ∃ (v2' : Value) (x : T21 × Q21), PlK w pb p s c l st sk re fe ag n1 b1 e1 b2 e2 sp sx sy (.slice (some ⟨g, 0, none⟩) (ms.length + 1) cap) v2' (ms ++ [move]) (L ++ [x]) h1 d1 h2 d2 q (-1) ((g1, mr.2.xs) :: (g2, mr.2.ys) :: R) wx ∧ x.1 = ⟨q, mr.1, mr.2⟩ ∧ wx.rangeAt z 0 (cells21 p s c l st sk re fe ag n1 (⟨q, mr.1, mr.2⟩, ⟨h1, h2, d1, d2, s1, s2, sc1, sc2, g1, g2, k1, k2⟩)) ∧ z < wx.heap.size)
   case first =>
    refine wp_region_held_drew (S := (fun u => u.rangeAt z 0 (cells21 p s c l st sk re fe ag n1 (⟨q, mr.1, mr.2⟩, ⟨h1, h2, d1, d2, s1, s2, sc1, sc2, g1, g2, k1, k2⟩)))) (by kernel_rfl) (rg_below HRz6.out hz8 HB8.out) (fun hHeld => ?_)
    refine wpAnyH_take (i := 0) (oi := { dst := some 49, op := Op.move (Operand.tmp 0), type := 91, pos := "l08_games.go:65", after := #[], guard := none }) (v := .pointer (some ⟨pb, 0, none⟩)) rfl (by kernel_rfl) (by kernel_rfl) (by kernel_rfl) (fun _ _ _ h => h) (Or.inl ⟨by rfl, fun u hu => by (try dsimp only at hu); go_simp; try with_reducible rfl⟩) hHeld ?_
    simp only [Act.put, List.setIfInBounds_toArray, List.set_cons_zero, List.set_cons_succ]
    refine wpAnyH_take (i := 1) (oi := { dst := some 50, op := Op.move (Operand.tmp 0), type := 91, pos := "l08_games.go:65", after := #[], guard := none }) (v := .pointer (some ⟨pb, 0, none⟩)) rfl (by kernel_rfl) (by kernel_rfl) (by kernel_rfl) (fun _ _ _ h => h) (Or.inl ⟨by rfl, fun u hu => by (try dsimp only at hu); go_simp; try with_reducible rfl⟩) hHeld ?_
    simp only [Act.put, List.setIfInBounds_toArray, List.set_cons_zero, List.set_cons_succ]
    refine wpAnyH_take (i := 2) (oi := { dst := some 51, op := Op.nilCheck (Operand.tmp 50), type := 0, pos := "l08_games.go:65", after := #[{ on := 1, ground := Ground.data }], guard := none }) (v := .pointer (some ⟨pb, 0, none⟩)) rfl (by kernel_rfl) (by kernel_rfl) (by kernel_rfl) (fun _ _ _ h => h) (Or.inl ⟨by rfl, fun u hu => by (try dsimp only at hu); go_simp; try with_reducible rfl⟩) hHeld ?_
    simp only [Act.put, List.setIfInBounds_toArray, List.set_cons_zero, List.set_cons_succ]
    refine wpAnyH_take (i := 3) (oi := { dst := some 52, op := Op.fieldAddr 72 (Operand.tmp 51) 1, type := 0, pos := "l08_games.go:65", after := #[{ on := 2, ground := Ground.data }], guard := none }) (v := .pointer (some ⟨pb, 17, none⟩)) rfl (by kernel_rfl) (by kernel_rfl) (by kernel_rfl) (fun _ _ _ h => h) (Or.inl ⟨by rfl, fun u hu => by (try dsimp only at hu); go_simp; try with_reducible rfl⟩) hHeld ?_
    simp only [Act.put, List.setIfInBounds_toArray, List.set_cons_zero, List.set_cons_succ]
    refine wpAnyH_take (i := 5) rfl (by kernel_rfl) (by kernel_rfl) (by kernel_rfl) (fun _ _ _ h => h) (yieldsIf_load_mid (by rfl) 125 _ rfl z 0 rfl (cells21 p s c l st sk re fe ag n1 (⟨q, mr.1, mr.2⟩, ⟨h1, h2, d1, d2, s1, s2, sc1, sc2, g1, g2, k1, k2⟩)) _ (fun u hu => hu) Tryz.underlying125 rfl (by kernel_rfl)) hHeld ?_
    simp only [Act.put, List.setIfInBounds_toArray]
    refine wpAnyH_ready (rs := [4, 6]) (by kernel_rfl) (by simp) ?_
    refine AllReadyH.cons rfl (fun K hK => ?_) (AllReadyH.cons rfl (fun K hK => ?_) AllReadyH.nil)
    ·rw [if_pos (by rfl)]
     have tv8 := HP6.out.drew.tv
     go_simp
     (try dsimp only)
     refine hK.out _ _ (rg_below HRz6.out hz8 HB8.out) (fun hHeld => ?_)
     clear hK K
     (try simp only [Act.put, List.setIfInBounds_toArray, List.set_cons_zero, List.set_cons_succ])
     refine wpAnyH_ready (rs := [6]) (by kernel_rfl) (by simp) ?_
     refine AllReadyH.cons rfl (fun K hK => ?_) AllReadyH.nil
     rw [if_pos (by rfl)]
     unfold cells21
     go_simp
     change K _ (W8.drew.alloc (.cells (cells21 p s c l st sk re fe ag n1 (⟨q, mr.1, mr.2⟩, ⟨h1, h2, d1, d2, s1, s2, sc1, sc2, g1, g2, k1, k2⟩)).toArray 125))
     (try dsimp only)
     refine hK.out _ _ (rg_below (rg_below HRz6.out hz8 HB8.out) hz8 HA9.out) (fun hHeld => ?_)
     clear hK K
     (try simp only [Act.put, List.setIfInBounds_toArray, List.set_cons_zero, List.set_cons_succ])
     refine wpAnyH_ready (rs := [7]) (by kernel_rfl) (by simp) ?_
     refine AllReadyH.cons rfl (fun K hK => ?_) AllReadyH.nil
     refine step_append_lies _ rfl _ _ 70 rfl w.heap.size 125 i2 (.agg zero21.toArray) 21 232 Tryz.underlying70 hi2 hx0 hx1 hx2 rfl (by decide) v2 L.length (flat21 p s c l st sk re fe ag n1 L) rfl (own_keepS HP6.out.drew.tu (al1 _ _)) ⟨W8.heap.size, 0, none⟩ 1 1 (cells21 p s c l st sk re fe ag n1 (⟨q, mr.1, mr.2⟩, ⟨h1, h2, d1, d2, s1, s2, sc1, sc2, g1, g2, k1, k2⟩)) rfl rfl (cells21_news W8.drew 125 (cells21 p s c l st sk re fe ag n1 (⟨q, mr.1, mr.2⟩, ⟨h1, h2, d1, d2, s1, s2, sc1, sc2, g1, g2, k1, k2⟩)) W8.heap.size rfl) (cells21_one _) (by decide) (by have := HLl.out; unfold maxLen; omega) (by have := HLl.out; omega) (by have := HP6.out.be.size; simp; omega) _ rfl ?_
     intro g' cap' w9 hown9 hgrow9 hat9 hlt9
     have HP9 := Lib.hid (HP6.out.drew.below HA9.out)
     have HRz9 := Lib.hid (rg_grown (rg_below (rg_below HRz6.out hz8 HB8.out) hz8 HA9.out) (by simp; omega) hgrow9 (fun i hi => by have := HV2.out i hi; omega))
     (obtain ⟨bb, hbb, kb9⟩ := grown_but hgrow9 pb HP9.out.p2)
     have G9 := HP9.out.g.but kb9 hbb
     have tv9 := (kb9.cell (o := 17) HP9.out.g.lt hbb).trans HP9.out.tv
     have f17 := G9.fr 17
     have l17 := G9.lt
     (try dsimp only)
     refine hK.out _ _ HRz9.out (fun hHeld => ?_)
     clear hK K
     (try simp only [Act.put, List.setIfInBounds_toArray])
     refine wpAnyH_take (i := 8) (oi := { dst := some 57, op := Op.nilCheck (Operand.tmp 49), type := 0, pos := "l08_games.go:65", after := #[{ on := 0, ground := Ground.data }, { on := 0, ground := Ground.phase }, { on := 1, ground := Ground.phase }, { on := 2, ground := Ground.phase }, { on := 3, ground := Ground.phase }, { on := 4, ground := Ground.phase }, { on := 5, ground := Ground.phase }, { on := 6, ground := Ground.phase }, { on := 7, ground := Ground.phase }], guard := none }) (v := .pointer (some ⟨pb, 0, none⟩)) rfl (by kernel_rfl) (by kernel_rfl) (by kernel_rfl) (fun _ _ _ h => h) (Or.inl ⟨by rfl, fun u hu => by (try dsimp only at hu); go_simp; try with_reducible rfl⟩) hHeld ?_
     simp only [Act.put]
     refine wpAnyH_take (i := 9) (oi := { dst := some 58, op := Op.fieldAddr 72 (Operand.tmp 57) 1, type := 0, pos := "l08_games.go:65", after := #[{ on := 8, ground := Ground.data }, { on := 0, ground := Ground.phase }, { on := 1, ground := Ground.phase }, { on := 2, ground := Ground.phase }, { on := 3, ground := Ground.phase }, { on := 4, ground := Ground.phase }, { on := 5, ground := Ground.phase }, { on := 6, ground := Ground.phase }, { on := 7, ground := Ground.phase }], guard := none }) (v := .pointer (some ⟨pb, 17, none⟩)) rfl (by kernel_rfl) (by kernel_rfl) (by kernel_rfl) (fun _ _ _ h => h) (Or.inl ⟨by rfl, fun u hu => by (try dsimp only at hu); go_simp; try with_reducible rfl⟩) hHeld ?_
     simp only [Act.put]
     refine wpAnyH_ready (rs := [10]) (by kernel_rfl) (by simp) ?_
     refine AllReadyH.cons rfl (fun K hK => ?_) AllReadyH.nil
     rw [if_pos (by rfl)]
     go_simp
     have HRz10 := Lib.hid (rg_but HRz9.out (Nat.lt_of_lt_of_le hz8 (by have := hgrow9.size; simp at this; omega)) (show z ≠ pb by omega) ((But.refl pb w9).setCell (p := ⟨pb, 17, none⟩) rfl (.slice (some ⟨g', 0, none⟩) (L.length + 1) cap')))
     have HP10 := Lib.hid (HP9.out.pushT HIt.out hown9 hgrow9 (by simpa using hat9))
     (try dsimp only)
     refine hK.out _ _ HRz10.out (fun hHeld => ?_)
     clear hK K
     (try simp only [Act.put, List.setIfInBounds_toArray, List.set_cons_zero, List.set_cons_succ])
     refine wpAnyH_done (by kernel_rfl) ?_ _
     go_wp2_with fail
     go_meet
     exact ⟨rfl, _, _, HP10.out, rfl, HRz10.out, Nat.lt_of_lt_of_le hz8 (by have := hgrow9.size; simp at this ⊢; omega)⟩
    ·rw [if_pos (by rfl)]
     unfold cells21
     go_simp
     change K _ (W8.drew.alloc (.cells (cells21 p s c l st sk re fe ag n1 (⟨q, mr.1, mr.2⟩, ⟨h1, h2, d1, d2, s1, s2, sc1, sc2, g1, g2, k1, k2⟩)).toArray 125))
     (try dsimp only)
     refine hK.out _ _ (rg_below (rg_below HRz6.out hz8 HB8.out) hz8 HA9.out) (fun hHeld => ?_)
     clear hK K
     (try simp only [Act.put, List.setIfInBounds_toArray, List.set_cons_zero, List.set_cons_succ])
     refine wpAnyH_ready (rs := [4]) (by kernel_rfl) (by simp) ?_
     refine AllReadyH.cons rfl (fun K hK => ?_) AllReadyH.nil
     rw [if_pos (by rfl)]
     have tv8 := HP6.out.tv; have l8 := HP6.out.g.lt
     go_simp
     change K _ (W8.drew.alloc (.cells (cells21 p s c l st sk re fe ag n1 (⟨q, mr.1, mr.2⟩, ⟨h1, h2, d1, d2, s1, s2, sc1, sc2, g1, g2, k1, k2⟩)).toArray 125))
     (try dsimp only)
     refine hK.out _ _ (rg_below (rg_below HRz6.out hz8 HB8.out) hz8 HA9.out) (fun hHeld => ?_)
     clear hK K
     (try simp only [Act.put, List.setIfInBounds_toArray, List.set_cons_zero, List.set_cons_succ])
     refine wpAnyH_ready (rs := [7]) (by kernel_rfl) (by simp) ?_
     refine AllReadyH.cons rfl (fun K hK => ?_) AllReadyH.nil
     refine step_append_lies _ rfl _ _ 70 rfl w.heap.size 125 i2 (.agg zero21.toArray) 21 232 Tryz.underlying70 hi2 hx0 hx1 hx2 rfl (by decide) v2 L.length (flat21 p s c l st sk re fe ag n1 L) rfl (own_keepS HP6.out.drew.tu (al1 _ _)) ⟨W8.heap.size, 0, none⟩ 1 1 (cells21 p s c l st sk re fe ag n1 (⟨q, mr.1, mr.2⟩, ⟨h1, h2, d1, d2, s1, s2, sc1, sc2, g1, g2, k1, k2⟩)) rfl rfl (cells21_news W8.drew 125 (cells21 p s c l st sk re fe ag n1 (⟨q, mr.1, mr.2⟩, ⟨h1, h2, d1, d2, s1, s2, sc1, sc2, g1, g2, k1, k2⟩)) W8.heap.size rfl) (cells21_one _) (by decide) (by have := HLl.out; unfold maxLen; omega) (by have := HLl.out; omega) (by have := HP6.out.be.size; simp; omega) _ rfl ?_
     intro g' cap' w9 hown9 hgrow9 hat9 hlt9
     have HP9 := Lib.hid (HP6.out.drew.below HA9.out)
     have HRz9 := Lib.hid (rg_grown (rg_below (rg_below HRz6.out hz8 HB8.out) hz8 HA9.out) (by simp; omega) hgrow9 (fun i hi => by have := HV2.out i hi; omega))
     (obtain ⟨bb, hbb, kb9⟩ := grown_but hgrow9 pb HP9.out.p2)
     have G9 := HP9.out.g.but kb9 hbb
     have tv9 := (kb9.cell (o := 17) HP9.out.g.lt hbb).trans HP9.out.tv
     have f17 := G9.fr 17
     have l17 := G9.lt
     (try dsimp only)
     refine hK.out _ _ HRz9.out (fun hHeld => ?_)
     clear hK K
     (try simp only [Act.put, List.setIfInBounds_toArray])
     refine wpAnyH_take (i := 8) (oi := { dst := some 57, op := Op.nilCheck (Operand.tmp 49), type := 0, pos := "l08_games.go:65", after := #[{ on := 0, ground := Ground.data }, { on := 0, ground := Ground.phase }, { on := 1, ground := Ground.phase }, { on := 2, ground := Ground.phase }, { on := 3, ground := Ground.phase }, { on := 4, ground := Ground.phase }, { on := 5, ground := Ground.phase }, { on := 6, ground := Ground.phase }, { on := 7, ground := Ground.phase }], guard := none }) (v := .pointer (some ⟨pb, 0, none⟩)) rfl (by kernel_rfl) (by kernel_rfl) (by kernel_rfl) (fun _ _ _ h => h) (Or.inl ⟨by rfl, fun u hu => by (try dsimp only at hu); go_simp; try with_reducible rfl⟩) hHeld ?_
     simp only [Act.put]
     refine wpAnyH_take (i := 9) (oi := { dst := some 58, op := Op.fieldAddr 72 (Operand.tmp 57) 1, type := 0, pos := "l08_games.go:65", after := #[{ on := 8, ground := Ground.data }, { on := 0, ground := Ground.phase }, { on := 1, ground := Ground.phase }, { on := 2, ground := Ground.phase }, { on := 3, ground := Ground.phase }, { on := 4, ground := Ground.phase }, { on := 5, ground := Ground.phase }, { on := 6, ground := Ground.phase }, { on := 7, ground := Ground.phase }], guard := none }) (v := .pointer (some ⟨pb, 17, none⟩)) rfl (by kernel_rfl) (by kernel_rfl) (by kernel_rfl) (fun _ _ _ h => h) (Or.inl ⟨by rfl, fun u hu => by (try dsimp only at hu); go_simp; try with_reducible rfl⟩) hHeld ?_
     simp only [Act.put]
     refine wpAnyH_ready (rs := [10]) (by kernel_rfl) (by simp) ?_
     refine AllReadyH.cons rfl (fun K hK => ?_) AllReadyH.nil
     rw [if_pos (by rfl)]
     go_simp
     have HRz10 := Lib.hid (rg_but HRz9.out (Nat.lt_of_lt_of_le hz8 (by have := hgrow9.size; simp at this; omega)) (show z ≠ pb by omega) ((But.refl pb w9).setCell (p := ⟨pb, 17, none⟩) rfl (.slice (some ⟨g', 0, none⟩) (L.length + 1) cap')))
     have HP10 := Lib.hid (HP9.out.pushT HIt.out hown9 hgrow9 (by simpa using hat9))
     (try dsimp only)
     refine hK.out _ _ HRz10.out (fun hHeld => ?_)
     clear hK K
     (try simp only [Act.put, List.setIfInBounds_toArray, List.set_cons_zero, List.set_cons_succ])
     refine wpAnyH_done (by kernel_rfl) ?_ _
     go_wp2_with fail
     go_meet
     exact ⟨rfl, _, _, HP10.out, rfl, HRz10.out, Nat.lt_of_lt_of_le hz8 (by have := hgrow9.size; simp at this ⊢; omega)⟩
   case rest =>
    obtain ⟨rfl, v2', x, hP9, hx, hrz, hzl9⟩ := hcut
    have HP9 := Lib.hid hP9
    have HRz9 := Lib.hid hrz
    have HX := Lib.hid hx
    obtain ⟨hDs, hl1, hl2, kk1, kk2, hnx⟩ := HDs.out
    have HNx := Lib.hid hnx
    have HDs2 := Lib.hid (And.intro hDs (And.intro hl1 (And.intro hl2 (And.intro kk1 kk2))))
    clear hP9 hrz hx hDs hl1 hl2 kk1 kk2 hnx
    go_wp2_with (refine wpList_load_mid rfl 125 _ rfl z 0 rfl _ _ HRz9.out Tryz.underlying125 rfl (by kernel_rfl) ?_)
    refine (nextM_any p s c l st sk re fe ag q.pl s1 s2 n1 sc1 2 sc2 mr.1.last mr.1.laps (some ⟨h1, 0, none⟩) (some ⟨h2, 0, none⟩) n1 d1 2 d2 q.pl (some ⟨g1, 0, none⟩) (some ⟨g2, 0, none⟩) n1 k1 2 k2 mr.1.last mr.1.laps _ Hpl.out).mono ?_
    rintro e w10 ⟨rfl, hb⟩
    rw [← HNx.out]
    have HP10 := Lib.hid (HP9.out.below hb)
    obtain ⟨lt, -, -, -, -, -, -, -, -, -, -, -, -, -, q13, q14, q15, -, fr⟩ := HP10.out.g
    have f13 := fr 13
    have f14 := fr 14
    have f15 := fr 15
    clear fr hb
    go_wp2_with fail
    go_ret
    obtain ⟨hDs, hl1, hl2, kk1, kk2⟩ := HDs2.out
    exact ⟨rfl, _, v2', x, g1, k1, g2, k2, _, HP10.out.turn (q' := mr.2.ps) (.head _) (.tail _ (.head _)) hDs hl1 hl2 kk1 kk2, HX.out⟩
/- Pl9 -/
theorem own_lowerS {w : World} {B C e s n : Nat} {v : Value} {xs : List Value} (h : w.ownsRow B e s v n xs) (hc : C ≤ B) : w.ownsRow C e s v n xs := by
 obtain ⟨h1, h2 | ⟨g, cap, cur, hv, hb, hr⟩⟩ := h
 ·exact ⟨h1, .inl h2⟩
 ·exact ⟨h1, .inr ⟨g, cap, cur, hv, Nat.le_trans hc hb, hr⟩⟩
section
variable {w w2 u v : World} {pb : Nat} {p s c l : Int} {st sk re fe ag : Bool} {n1 b1 e1 b2 e2 : Nat} {sp : Int} {sx sy : List Int} {v1 v2 : Value} {ms : List Int} {L : List (T21 × Q21)} {h1 d1 h2 d2 : Nat} {q : Ps} {rg : Int} {R : List (Nat × List Int)}
theorem PlK.leave (h : PlK w2 pb p s c l st sk re fe ag n1 b1 e1 b2 e2 sp sx sy v1 v2 ms L h1 d1 h2 d2 q rg R u) (hb : Below w.heap.size w w2) {z : Nat} (hz : z < w2.heap.size) (hz2 : w.heap.size ≤ z) (k : But z u v) : PlK w pb p s c l st sk re fe ag n1 b1 e1 b2 e2 sp sx sy v1 v2 ms L h1 d1 h2 d2 q rg R v := by
 have hpm := h.pm
 have hs := hb.size
 have tv := (k.cell (o := 17) h.g.lt (show pb ≠ z by omega)).trans h.tv
 refine ⟨h.g.but k (by omega), tv, own_lowerS (own_butS h.mo k (fun i hi => by have := (own_lt h.mo i hi).1; omega)) hs, own_lowerS (own_butS h.tu k (fun i hi => by have := (own_lt h.tu i hi).1; omega)) hs, fun y hy => ?_, h.sv, h.p1, h.p2, h.it, h.s1, h.s2, h.y1, h.y2, h.di, h.m1, h.m2, h.m3, h.m4, h.k1, h.k2, h.k3, h.k4, by omega, But.lift (hb.trans (h.be.mono hs)) k hz2⟩
 have hy' := h.rws y hy
 have hn := hy'.o.new
 exact ⟨(hy'.o.but k (by omega)).lower hs, Nat.lt_of_lt_of_le hy'.lt k.size, hy'.ne, hy'.n1, hy'.n2⟩
theorem PlK.setRg (h : PlK w pb p s c l st sk re fe ag n1 b1 e1 b2 e2 sp sx sy v1 v2 ms L h1 d1 h2 d2 q rg R u) (x : Int) : PlK w pb p s c l st sk re fe ag n1 b1 e1 b2 e2 sp sx sy v1 v2 ms L h1 d1 h2 d2 q x R (u.setCell ⟨pb, 16, none⟩ (.int .i64 x)) := by
 have k := but_setG pb u (.int .i64 x)
 have t := h.tv
 exact ⟨h.g.setG _, by go_simp, own_butS h.mo k h.p1, own_butS h.tu k h.p2, fun y hy => (h.rws y hy).but k (h.rws y hy).ne, h.sv, h.p1, h.p2, h.it, h.s1, h.s2, h.y1, h.y2, h.di, h.m1, h.m2, h.m3, h.m4, h.k1, h.k2, h.k3, h.k4, h.pm, But.lift h.be k h.pm⟩
end
theorem pmove_full (w : World) (pb : Nat) (p s c l : Int) (st sk re fe ag : Bool) (n1 b1 e1 b2 e2 : Nat) (sp : Int) (sx sy : List Int) (v1 v2 : Value) (ms : List Int) (L : List (T21 × Q21)) (h1 d1 h2 d2 : Nat) (q : Ps) (R : List (Nat × List Int)) (move : Int) (u : World) (h : PlK w pb p s c l st sk re fe ag n1 b1 e1 b2 e2 sp sx sy v1 v2 ms L h1 d1 h2 d2 q (-1) R u) (hms : ms.length = 120) :
  Calls Tryz.prog 79 #[.pointer (some ⟨pb, 0, none⟩), .int .i64 move] u (BelP (.int .i64 5) u) := by
 obtain ⟨ma, mc, hv1⟩ := slice_own h.mo
 rw [hms] at hv1
 subst hv1
 have H := Lib.hid h
 have HRg := Lib.hid (TGm.rg h.g)
 have c12 := h.g.c12
 clear h hms
 go_enter Tryz.func79, Tryz.ntmps79
 go_wp2_with (refine wpList_load_mid rfl 35 _ rfl pb 0 rfl _ _ HRg.out Tryz.underlying35 rfl (by kernel_rfl) ?_)
 refine (hasR_no _ _ _ _ _ _ _ _ _ _ _ _ _ _ _ _ _ _ _ _ _ _ _ _ _ _ _ _ rfl).mono ?_
 rintro e u0 ⟨rfl, hb⟩
 have H := Lib.hid (H.out.below hb)
 have c12 := H.out.g.c12
 have hbu := Lib.hid hb
 clear hb HRg
 go_wp2_with fail
 go_ret
 exact ⟨rfl, hbu.out⟩
/- Rp8 -/
def zero18 : List Value := [.int .i64 0, .int .i64 0, .bool false, .bool false, .bool false, .bool false, .bool false, .int .i64 0, .int .i64 0, .slice none 0 0, .slice none 0 0, .int .i64 0, .slice none 0 0, .slice none 0 0, .slice none 0 0, .int .i64 0, .int .i64 0, .slice none 0 0]
theorem zero18_one : zero18.toArray.all (·.oneCell') = true := all_oneCell_toArray (by unfold zero18; decide)
theorem fr_sc (b : Nat) : ∀ (vs : List Value) (o : Nat) (u : World) (a : Addr), (u.setCells b o vs).frozen? a = u.frozen? a
 | [], _, _, _ => rfl
 | v :: r, o, u, a => by rw [World.setCells, fr_sc b r]; go_simp
def vals18 (p s c l : Int) (st sk re fe ag : Bool) (n1 b1 e1 b2 e2 : Nat) (sp : Int) (v1 v2 : Value) (h1 d1 h2 d2 : Nat) (pl rg : Int) : List Value := [.int .i64 p, .int .i64 s, .bool st, .bool sk, .bool re, .bool fe, .bool ag, .int .i64 c, .int .i64 l, .slice (some ⟨b1, 0, none⟩) n1 e1, .slice (some ⟨b2, 0, none⟩) 2 e2, .int .i64 sp, v1, .slice (some ⟨h1, 0, none⟩) n1 d1, .slice (some ⟨h2, 0, none⟩) 2 d2, .int .i64 pl, .int .i64 rg, v2]
def RpB (w : World) (Jp Js Jc Jl : Int) (Jst Jsk Jre Jfe Jag : Bool) (Ja1 Ja2 : Option Addr) (Jan1 Jac1 Jan2 Jac2 : Nat) (Jap : Int) (Jm : Option Addr) (Jmn Jmc : Nat) (Jb1 Jb2 : Option Addr) (Jbn1 Jbc1 Jbn2 Jbc2 : Nat) (Jbp Jrg : Int) (u : World) : Prop := GmAt u w.heap.size Jp Js Jc Jl Jst Jsk Jre Jfe Jag Ja1 Ja2 Jan1 Jac1 Jan2 Jac2 Jap Jm Jmn Jmc Jb1 Jb2 Jbn1 Jbc1 Jbn2 Jbc2 Jbp Jrg ∧ Th18 u (w.heap.size + 1) ∧ Below w.heap.size w u
theorem RpB.below {w u v : World} {Jp Js Jc Jl : Int} {Jst Jsk Jre Jfe Jag : Bool} {Ja1 Ja2 : Option Addr} {Jan1 Jac1 Jan2 Jac2 : Nat} {Jap : Int} {Jm : Option Addr} {Jmn Jmc : Nat} {Jb1 Jb2 : Option Addr} {Jbn1 Jbc1 Jbn2 Jbc2 : Nat} {Jbp Jrg : Int} (h : RpB w Jp Js Jc Jl Jst Jsk Jre Jfe Jag Ja1 Ja2 Jan1 Jac1 Jan2 Jac2 Jap Jm Jmn Jmc Jb1 Jb2 Jbn1 Jbc1 Jbn2 Jbc2 Jbp Jrg u) (k : Below u.heap.size u v) : RpB w Jp Js Jc Jl Jst Jsk Jre Jfe Jag Ja1 Ja2 Jan1 Jac1 Jan2 Jac2 Jap Jm Jmn Jmc Jb1 Jb2 Jbn1 Jbc1 Jbn2 Jbc2 Jbp Jrg v := ⟨h.1.below k, h.2.1.below k, h.2.2.trans (k.mono h.2.2.size)⟩
theorem rpb_new (Jp Js Jc Jl : Int) (Jst Jsk Jre Jfe Jag : Bool) (Ja1 Ja2 : Option Addr) (Jan1 Jac1 Jan2 Jac2 : Nat) (Jap : Int) (Jm : Option Addr) (Jmn Jmc : Nat) (Jb1 Jb2 : Option Addr) (Jbn1 Jbc1 Jbn2 Jbc2 : Nat) (Jbp Jrg : Int) (w : World) (T U : TypeId) : RpB w Jp Js Jc Jl Jst Jsk Jre Jfe Jag Ja1 Ja2 Jan1 Jac1 Jan2 Jac2 Jap Jm Jmn Jmc Jb1 Jb2 Jbn1 Jbc1 Jbn2 Jbc2 Jbp Jrg ((w.alloc (.cells #[.int .i64 Jp, .int .i64 Js, .bool Jst, .bool Jsk, .bool Jre, .bool Jfe, .bool Jag, .int .i64 Jc, .int .i64 Jl, .slice Ja1 Jan1 Jac1, .slice Ja2 Jan2 Jac2, .int .i64 Jap, .slice Jm Jmn Jmc, .slice Jb1 Jbn1 Jbc1, .slice Jb2 Jbn2 Jbc2, .int .i64 Jbp, .int .i64 Jrg] T)).alloc (.cells #[.int .i64 0, .int .i64 0, .bool false, .bool false, .bool false, .bool false, .bool false, .int .i64 0, .int .i64 0, .slice none 0 0, .slice none 0 0, .int .i64 0, .slice none 0 0, .slice none 0 0, .slice none 0 0, .int .i64 0, .int .i64 0, .slice none 0 0] U)) := by
 have h := there18 (w.alloc (.cells #[.int .i64 Jp, .int .i64 Js, .bool Jst, .bool Jsk, .bool Jre, .bool Jfe, .bool Jag, .int .i64 Jc, .int .i64 Jl, .slice Ja1 Jan1 Jac1, .slice Ja2 Jan2 Jac2, .int .i64 Jap, .slice Jm Jmn Jmc, .slice Jb1 Jbn1 Jbc1, .slice Jb2 Jbn2 Jbc2, .int .i64 Jbp, .int .i64 Jrg] T)) U
 rw [World.size_alloc] at h
 exact ⟨(gm_new Jp Js Jc Jl Jst Jsk Jre Jfe Jag Ja1 Ja2 Jan1 Jac1 Jan2 Jac2 Jap Jm Jmn Jmc Jb1 Jb2 Jbn1 Jbc1 Jbn2 Jbc2 Jbp Jrg w T).below (al1 _ _), ⟨by simp, h⟩, ((Below.refl _ _).alloc (Nat.le_refl _) _).alloc (by simp) _⟩
theorem plk_start {w v : World} {p s c l : Int} {st sk re fe ag : Bool} {n1 g1 c1 g2 c2 g4 c4 g5 c5 : Nat} {sp : Int} {sx sy : List Int} (T : TypeId) (h : NewR w v g1 g2 g4 g5 n1 2 sx sy) (k1 : n1 ≤ c1) (k2 : 2 ≤ c2) (k4 : n1 ≤ c4) (k5 : 2 ≤ c5) (X : World) (hX : X = (v.alloc (.cells #[.int .i64 0, .int .i64 0, .bool false, .bool false, .bool false, .bool false, .bool false, .int .i64 0, .int .i64 0, .slice none 0 0, .slice none 0 0, .int .i64 0, .slice none 0 0, .slice none 0 0, .slice none 0 0, .int .i64 0, .int .i64 0, .slice none 0 0] T)).setCells v.heap.size 0 (vals18 p s c l st sk re fe ag n1 g1 c1 g2 c2 sp (.slice none 0 0) (.slice none 0 0) g4 c4 g5 c5 sp (-1))) :
  PlK w v.heap.size p s c l st sk re fe ag n1 g1 c1 g2 c2 sp sx sy (.slice none 0 0) (.slice none 0 0) [] [] g4 c4 g5 c5 ⟨sp, sx, sy⟩ (-1) [(g1, sx), (g2, sy), (g4, sx), (g5, sy)] X := by
 have hr := World.rangeAt_setCells_same (v.alloc (.cells #[.int .i64 0, .int .i64 0, .bool false, .bool false, .bool false, .bool false, .bool false, .int .i64 0, .int .i64 0, .slice none 0 0, .slice none 0 0, .int .i64 0, .slice none 0 0, .slice none 0 0, .slice none 0 0, .int .i64 0, .int .i64 0, .slice none 0 0] T)) v.heap.size 0 (vals18 p s c l st sk re fe ag n1 g1 c1 g2 c2 sp (.slice none 0 0) (.slice none 0 0) g4 c4 g5 c5 sp (-1)) (there18 v T)
 rw [← hX] at hr
 have hbe : Below v.heap.size v X := by rw [hX]; exact below_scg v.heap.size (Nat.le_refl _) _ 0 (al1 v _)
 have hsz : X.heap.size = v.heap.size + 1 := by rw [hX, size_scg]; simp
 have hfr : ∀ o, X.frozen? ⟨v.heap.size, o, none⟩ = false := fun o => by rw [hX, fr_sc]; go_simp
 have hs := h.be.size
 have a1 := h.l1
 have a2 := h.l2
 have a4 := h.l4
 have a5 := h.l5
 refine ⟨⟨by omega, hr 0 _ rfl, hr 1 _ rfl, hr 2 _ rfl, hr 3 _ rfl, hr 4 _ rfl, hr 5 _ rfl, hr 6 _ rfl, hr 7 _ rfl, hr 8 _ rfl, hr 9 _ rfl, hr 10 _ rfl, hr 11 _ rfl, hr 12 _ rfl, hr 13 _ rfl, hr 14 _ rfl, hr 15 _ rfl, hr 16 _ rfl, hfr⟩, hr 17 _ rfl, World.ownsRow_nil _ _ _ _, World.ownsRow_nil _ _ _ _, fun y hy => ?_, (fun i j hi => by cases hi), (fun i hi => by cases hi), (fun i hi => by cases hi), (fun x hx => by cases hx), .head _, .tail _ (.head _), .tail _ (.tail _ (.head _)), .tail _ (.tail _ (.tail _ (.head _))), ⟨h.n14, h.n15, h.n24, h.n25, h.s.ne, h.n.ne⟩, h.s.l1, h.s.l2, h.s.l1, h.s.l2, k1, k2, k4, k5, hs, h.be.trans (hbe.mono hs)⟩
 have hc : ∀ i, (Value.slice none 0 0).ownBlock = some i → i ≠ y.1 := fun i hi => by cases hi
 simp only [List.mem_cons, List.not_mem_nil, or_false] at hy
 rcases hy with rfl | rfl | rfl | rfl
 ·exact ⟨h.s.o1.below hbe, by simp only; omega, by simp only; omega, hc, hc⟩
 ·exact ⟨h.s.o2.below hbe, by simp only; omega, by simp only; omega, hc, hc⟩
 ·exact ⟨h.n.o1.below hbe, by simp only; omega, by simp only; omega, hc, hc⟩
 ·exact ⟨h.n.o2.below hbe, by simp only; omega, by simp only; omega, hc, hc⟩
def RpP (p s c l : Int) (st sk re fe ag : Bool) (n1 : Nat) (sp : Int) (sx sy ms : List Int) (rg : Int) (ok : Bool) (w : World) (e : Ending) (w' : World) : Prop :=
 if ok = true then
  ∃ pb b1 e1 b2 e2 v1 v2 L h1 d1 h2 d2 q R rs, e = .returned (.tuple #[.agg (vals18 p s c l st sk re fe ag n1 b1 e1 b2 e2 sp v1 v2 h1 d1 h2 d2 q.pl rg).toArray, .int .i64 0]) ∧ PlK w pb p s c l st sk re fe ag n1 b1 e1 b2 e2 sp sx sy v1 v2 ms L h1 d1 h2 d2 q rg R w' ∧
   runO (stp p c l st sk re fe ag) ⟨sp, sx, sy⟩ ms = some rs ∧ q = lastP ⟨sp, sx, sy⟩ rs ∧ L.map (fun x => x.1.r) = rs ∧ L.map (fun x => x.1.q) ++ [q] = ⟨sp, sx, sy⟩ :: rs.map R7.ps
 else e = .returned (.tuple #[.agg zero18.toArray, .int .i64 1]) ∧ Below w.heap.size w w'
def RpJ (w : World) (pb : Nat) (p s c l : Int) (st sk re fe ag : Bool) (n1 b1 e1 b2 e2 : Nat) (sp : Int) (sx sy ms : List Int) (k : Nat) (u : World) : Prop :=
 ∃ v1 v2 L h1 d1 h2 d2 R rs, PlK w pb p s c l st sk re fe ag n1 b1 e1 b2 e2 sp sx sy v1 v2 (ms.take k) L h1 d1 h2 d2 (lastP ⟨sp, sx, sy⟩ rs) (-1) R u ∧ runO (stp p c l st sk re fe ag) ⟨sp, sx, sy⟩ (ms.take k) = some rs ∧ L.length = k ∧ k ≤ 120 ∧ L.map (fun x => x.1.r) = rs ∧ L.map (fun x => x.1.q) ++ [lastP ⟨sp, sx, sy⟩ rs] = ⟨sp, sx, sy⟩ :: rs.map R7.ps
theorem vals18_one (p s c l : Int) (st sk re fe ag : Bool) (n1 b1 e1 b2 e2 : Nat) (sp : Int) (va : Option Addr) (vn vc : Nat) (ta : Option Addr) (tn tc : Nat) (h1 d1 h2 d2 : Nat) (pl rg : Int) : (vals18 p s c l st sk re fe ag n1 b1 e1 b2 e2 sp (.slice va vn vc) (.slice ta tn tc) h1 d1 h2 d2 pl rg).toArray.all (·.oneCell') = true :=
 all_oneCell_toArray (by unfold vals18; intro v hv; simp only [List.mem_cons, List.not_mem_nil, or_false] at hv; rcases hv with rfl | rfl | rfl | rfl | rfl | rfl | rfl | rfl | rfl | rfl | rfl | rfl | rfl | rfl | rfl | rfl | rfl | rfl <;> rfl)
theorem PlK.rg18 {w u : World} {pb : Nat} {p s c l : Int} {st sk re fe ag : Bool} {n1 b1 e1 b2 e2 : Nat} {sp : Int} {sx sy : List Int} {v1 v2 : Value} {ms : List Int} {L : List (T21 × Q21)} {h1 d1 h2 d2 : Nat} {q : Ps} {rg : Int} {R : List (Nat × List Int)} (h : PlK w pb p s c l st sk re fe ag n1 b1 e1 b2 e2 sp sx sy v1 v2 ms L h1 d1 h2 d2 q rg R u) : u.rangeAt pb 0 (vals18 p s c l st sk re fe ag n1 b1 e1 b2 e2 sp v1 v2 h1 d1 h2 d2 q.pl rg) := by
 intro j v hj
 match j, hj with
 | 0, hj => cases hj; exact h.g.c0
 | 1, hj => cases hj; exact h.g.c1
 | 2, hj => cases hj; exact h.g.c2
 | 3, hj => cases hj; exact h.g.c3
 | 4, hj => cases hj; exact h.g.c4
 | 5, hj => cases hj; exact h.g.c5
 | 6, hj => cases hj; exact h.g.c6
 | 7, hj => cases hj; exact h.g.c7
 | 8, hj => cases hj; exact h.g.c8
 | 9, hj => cases hj; exact h.g.c9
 | 10, hj => cases hj; exact h.g.c10
 | 11, hj => cases hj; exact h.g.c11
 | 12, hj => cases hj; exact h.g.c12
 | 13, hj => cases hj; exact h.g.c13
 | 14, hj => cases hj; exact h.g.c14
 | 15, hj => cases hj; exact h.g.c15
 | 16, hj => cases hj; exact h.g.c16
 | 17, hj => cases hj; exact h.tv
 | n + 18, hj => simp [vals18] at hj
theorem replay_any (Jp Js Jc Jl : Int) (Jst Jsk Jre Jfe Jag : Bool) (Ja1 Ja2 : Option Addr) (Jan1 Jac1 Jan2 Jac2 : Nat) (Jap : Int) (Jm : Option Addr) (Jmn Jmc : Nat) (Jb1 Jb2 : Option Addr) (Jbn1 Jbc1 Jbn2 Jbc2 : Nat) (Jbp Jrg : Int) (sx sy ms nx ny : List Int) (w : World) (h : GamR w Ja1 Ja2 Jan1 Jan2 Jm Jmn Jb1 Jb2 Jbn1 Jbn2 sx sy ms nx ny) :
  Calls Tryz.prog 59 #[.agg #[.int .i64 Jp, .int .i64 Js, .bool Jst, .bool Jsk, .bool Jre, .bool Jfe, .bool Jag, .int .i64 Jc, .int .i64 Jl, .slice Ja1 Jan1 Jac1, .slice Ja2 Jan2 Jac2, .int .i64 Jap, .slice Jm Jmn Jmc, .slice Jb1 Jbn1 Jbc1, .slice Jb2 Jbn2 Jbc2, .int .i64 Jbp, .int .i64 Jrg]] w (RpP Jp Js Jc Jl Jst Jsk Jre Jfe Jag Jan1 Jap sx sy ms Jrg (okG Jp Js Jc Jl Jst Jsk Jre Jfe Jag Jan1 Jan2 Jap sx sy ms Jbp nx ny Jrg) w) := by
 have HB := Lib.hid (rpb_new Jp Js Jc Jl Jst Jsk Jre Jfe Jag Ja1 Ja2 Jan1 Jac1 Jan2 Jac2 Jap Jm Jmn Jmc Jb1 Jb2 Jbn1 Jbc1 Jbn2 Jbc2 Jbp Jrg w 35 72)
 have H := Lib.hid h
 obtain ⟨okS, hokS⟩ : ∃ b, b = (okP (okR Jp Js Jc Jl Jst Jag) Jp Jan1 Jan2 Jap sx sy && (decide (-1 ≤ Jrg) && decide (Jrg ≤ 1))) := ⟨_, rfl⟩
 have HokS := Lib.hid hokS
 clear h hokS
 go_enter Tryz.func59, Tryz.ntmps59
 go_upto_region 1 with fail
 generalize (w.alloc (.cells #[.int .i64 Jp, .int .i64 Js, .bool Jst, .bool Jsk, .bool Jre, .bool Jfe, .bool Jag, .int .i64 Jc, .int .i64 Jl, .slice Ja1 Jan1 Jac1, .slice Ja2 Jan2 Jac2, .int .i64 Jap, .slice Jm Jmn Jmc, .slice Jb1 Jbn1 Jbc1, .slice Jb2 Jbn2 Jbc2, .int .i64 Jbp, .int .i64 Jrg] 35)).alloc (.cells #[.int .i64 0, .int .i64 0, .bool false, .bool false, .bool false, .bool false, .bool false, .int .i64 0, .int .i64 0, .slice none 0 0, .slice none 0 0, .int .i64 0, .slice none 0 0, .slice none 0 0, .slice none 0 0, .int .i64 0, .int .i64 0, .slice none 0 0] 72) = U at *
 go_cut [22] (fun s22 wx => s22 = .bool (!okS) ∧ RpB w Jp Js Jc Jl Jst Jsk Jre Jfe Jag Ja1 Ja2 Jan1 Jac1 Jan2 Jac2 Jap Jm Jmn Jmc Jb1 Jb2 Jbn1 Jbc1 Jbn2 Jbc2 Jbp Jrg wx)
 case first =>
  obtain ⟨hgb, m0, m1, m2, m3, m4, m5, m6, m7, m8, m9, m10, m11, m12, m13, m14, m15, m16⟩ := HB.out.1
  rcases hk : okP (okR Jp Js Jc Jl Jst Jag) Jp Jan1 Jan2 Jap sx sy with _ | _
  ·have Hk := Lib.hid hk
   have HokS2 : Hid (okS = false) := Lib.hid (by rw [HokS.out, hk]; rfl)
   clear hk
   go_wp2_with fail
   refine (implValid_b Jp Js Jc Jl Jst Jsk Jre Jfe Jag Ja1 Ja2 Jan1 Jac1 Jan2 Jac2 Jap sx sy _ (H.out.s.below HB.out.2.2) _ Hk.out).mono ?_
   rintro e u5 ⟨rfl, hb⟩
   have HB := Lib.hid (HB.out.below hb)
   clear hb m0 m1 m2 m3 m4 m5 m6 m7 m8 m9 m10 m11 m12 m13 m14 m15 m16
   go_wp2_with fail
   go_meet
   exact ⟨by rw [HokS2.out]; rfl, HB.out⟩
  ·have Hk := Lib.hid hk
   by_cases hrg : Jrg = -1
   ·have HokS2 : Hid (okS = true) := Lib.hid (by rw [HokS.out, hk, hrg]; rfl)
    have Hrg := Lib.hid hrg
    clear hk hrg
    go_wp2_with fail
    refine (implValid_b Jp Js Jc Jl Jst Jsk Jre Jfe Jag Ja1 Ja2 Jan1 Jac1 Jan2 Jac2 Jap sx sy _ (H.out.s.below HB.out.2.2) _ Hk.out).mono ?_
    rintro e u5 ⟨rfl, hb⟩
    have HB := Lib.hid (HB.out.below hb)
    have HRg := Lib.hid (GmAt.range HB.out.1)
    clear hb m0 m1 m2 m3 m4 m5 m6 m7 m8 m9 m10 m11 m12 m13 m14 m15 m16
    go_wp2_with (refine wpList_load_want (by rfl) 35 _ rfl w.heap.size 0 rfl _ _ HRg.out Tryz.underlying35 rfl (by kernel_rfl) ?_)
    refine (hasR_no Jp Js Jc Jl Jst Jsk Jre Jfe Jag Ja1 Ja2 Jan1 Jac1 Jan2 Jac2 Jap Jm Jmn Jmc Jb1 Jb2 Jbn1 Jbc1 Jbn2 Jbc2 Jbp Jrg _ Hrg.out).mono ?_
    rintro e u6 ⟨rfl, hb⟩
    have HB := Lib.hid (HB.out.below hb)
    clear hb
    go_wp2_with fail
    go_meet
    exact ⟨by rw [HokS2.out]; rfl, HB.out⟩
   ·have Hrg := Lib.hid hrg
    obtain ⟨j, hj⟩ : ∃ j, (decide (0 ≤ Jrg) && decide (Jrg ≤ 1)) = j := ⟨_, rfl⟩
    have Hj := Lib.hid hj
    have HokS2 : Hid (okS = j) := Lib.hid (by
     rw [HokS.out, hk, ← hj, Bool.true_and]
     congr 1
     by_cases h0 : 0 ≤ Jrg
     ·rw [decide_eq_true h0, decide_eq_true (by omega)]
     ·rw [decide_eq_false h0, decide_eq_false (by omega)])
    clear hk hrg hj
    go_wp2_with fail
    refine (implValid_b Jp Js Jc Jl Jst Jsk Jre Jfe Jag Ja1 Ja2 Jan1 Jac1 Jan2 Jac2 Jap sx sy _ (H.out.s.below HB.out.2.2) _ Hk.out).mono ?_
    rintro e u5 ⟨rfl, hb⟩
    have HB := Lib.hid (HB.out.below hb)
    have HRg := Lib.hid (GmAt.range HB.out.1)
    clear hb m0 m1 m2 m3 m4 m5 m6 m7 m8 m9 m10 m11 m12 m13 m14 m15 m16
    go_wp2_with (refine wpList_load_want (by rfl) 35 _ rfl w.heap.size 0 rfl _ _ HRg.out Tryz.underlying35 rfl (by kernel_rfl) ?_)
    refine (hasR_yes Jp Js Jc Jl Jst Jsk Jre Jfe Jag Ja1 Ja2 Jan1 Jac1 Jan2 Jac2 Jap Jm Jmn Jmc Jb1 Jb2 Jbn1 Jbc1 Jbn2 Jbc2 Jbp Jrg _ Hrg.out).mono ?_
    rintro e u6 ⟨rfl, hb⟩
    have HB := Lib.hid (HB.out.below hb)
    obtain ⟨-, -, -, -, -, -, -, -, -, -, -, -, -, -, -, -, -, m16⟩ := HB.out.1
    clear hb
    go_wp2_with fail
    refine (isPlayer_b Jrg _ Hj.out _).mono ?_
    rintro e u7 ⟨rfl, rfl⟩
    cases j
    ·go_wp2_with fail
     go_meet
     exact ⟨by rw [HokS2.out]; rfl, HB.out⟩
    ·go_wp2_with fail
     go_meet
     exact ⟨by rw [HokS2.out]; rfl, HB.out⟩
 case rest =>
  obtain ⟨rfl, hB⟩ := hcut
  have HB := Lib.hid hB
  clear hB
  rcases okS with _ | _
  ·have HokN : Hid (okG Jp Js Jc Jl Jst Jsk Jre Jfe Jag Jan1 Jan2 Jap sx sy ms Jbp nx ny Jrg = false) := Lib.hid (by
    have h1 := HokS.out
    unfold okG
    generalize (decide (-1 ≤ Jrg) && decide (Jrg ≤ 1)) = b1 at *
    generalize okP (okR Jp Js Jc Jl Jst Jag) Jp Jan1 Jan2 Jap sx sy = b2 at *
    have h2 : (b2 && b1) = false := h1.symm
    cases b2
    ·rfl
    ·rw [Bool.true_and] at h2
     rw [h2, Bool.and_false, Bool.false_and])
   go_wp2_with (refine wpList_store_mid rfl 72 _ _ rfl (w.heap.size + 1) 0 zero18.toArray rfl rfl HB.out.2.1.th (by kernel_rfl) zero18_one ?_)
   have hrun := run_loadVar_mid (P := Tryz.prog) _ (w.heap.size + 1) 0 72 zero18 _ (World.rangeAt_setCells_same _ (w.heap.size + 1) 0 zero18 HB.out.2.1.th) Tryz.underlying72 rfl (by kernel_rfl)
   refine bodyPost_ret (v := .tuple #[.agg zero18.toArray, .int .i64 1]) ?_ rfl ?_
   ·simp [results, Tryz.results59, Result.andThen_ok, asAddr, hrun]
   ·unfold RpP
    rw [HokN.out, if_neg (by decide)]
    exact ⟨rfl, below_scg (w.heap.size + 1) (by omega) _ 0 HB.out.2.2⟩
  ·obtain ⟨hk, hrg⟩ : okP (okR Jp Js Jc Jl Jst Jag) Jp Jan1 Jan2 Jap sx sy = true ∧ (decide (-1 ≤ Jrg) && decide (Jrg ≤ 1)) = true := by
    have h1 := HokS.out.symm
    simpa only [Bool.and_eq_true] using h1
   obtain ⟨okr, ok2, e2, -, -⟩ := okP_parts hk
   subst e2
   have hp2 := (okR_bd okr).1
   have ne1 : sx ≠ [] := by intro e; have h1 := H.out.s.l1; rw [e] at h1; simp at h1; omega
   have ne2 : sy ≠ [] := by intro e; have h1 := H.out.s.l2; rw [e] at h1; simp at h1
   have HOk : Hid (OkQ Jp Js Jc Jl Jst Jag Jan1 (⟨Jap, sx, sy⟩ : Ps)) := Lib.hid ⟨hk, H.out.s.l1, H.out.s.l2⟩
   have HG1 : Hid (okG Jp Js Jc Jl Jst Jsk Jre Jfe Jag Jan1 2 Jap sx sy ms Jbp nx ny Jrg = (decide (ms.length ≤ 120) && runB (stp Jp Jc Jl Jst Jsk Jre Jfe Jag) (⟨Jap, sx, sy⟩ : Ps) ms Jbp nx ny)) := Lib.hid (by unfold okG; rw [hk, hrg, Bool.true_and, Bool.and_true])
   have NE := Lib.hid (And.intro ne1 ne2)
   clear HokS hk hrg okr ok2 hp2 ne1 ne2
   obtain ⟨hgb, m0, m1, m2, m3, m4, m5, m6, m7, m8, m9, m10, m11, -⟩ := HB.out.1
   obtain ⟨wb, hwb⟩ : ∃ wb, wb = wc := ⟨_, rfl⟩
   go_wp2_with fail
   refine (beginPlayC_any Jp Js Jc Jl Jst Jsk Jre Jfe Jag Ja1 Ja2 Jan1 Jac1 2 Jac2 Jap sx sy _ (H.out.s.below HB.out.2.2) NE.out.1 NE.out.2).mono ?_
   rintro e u1 ⟨g1, c1, g2, c2, g4, c4, g5, c5, rfl, hN, k1, k2, k4, k5⟩
   clear m0 m1 m2 m3 m4 m5 m6 m7 m8 m9 m10 m11 hgb
   rw [← hwb] at hN
   rw [← hwb] at HB
   clear hwb
   go_upto_region 4 with (refine wpList_store_mid rfl 72 _ _ rfl u1.heap.size 0 (vals18 Jp Js Jc Jl Jst Jsk Jre Jfe Jag Jan1 g1 c1 g2 c2 Jap (.slice none 0 0) (.slice none 0 0) g4 c4 g5 c5 Jap (-1)).toArray rfl rfl (there18 u1 72) (by kernel_rfl) (all_oneCell_toArray (by unfold vals18; intro v hv; simp only [List.mem_cons, List.not_mem_nil, or_false] at hv; rcases hv with rfl | rfl | rfl | rfl | rfl | rfl | rfl | rfl | rfl | rfl | rfl | rfl | rfl | rfl | rfl | rfl | rfl | rfl <;> rfl)) ?_)
   generalize hX : ((u1.alloc (.cells #[.int .i64 0, .int .i64 0, .bool false, .bool false, .bool false, .bool false, .bool false, .int .i64 0, .int .i64 0, .slice none 0 0, .slice none 0 0, .int .i64 0, .slice none 0 0, .slice none 0 0, .slice none 0 0, .int .i64 0, .int .i64 0, .slice none 0 0] 72)).setCells u1.heap.size 0 (vals18 Jp Js Jc Jl Jst Jsk Jre Jfe Jag Jan1 g1 c1 g2 c2 Jap (.slice none 0 0) (.slice none 0 0) g4 c4 g5 c5 Jap (-1))) = X at *
   have HP0 := Lib.hid (plk_start 72 hN k1 k2 k4 k5 X hX.symm)
   have HBX := Lib.hid (HB.out.below HP0.out.be)
   have m12 := HBX.out.1.2.2.2.2.2.2.2.2.2.2.2.2.2.1
   clear hX hN
   generalize u1.heap.size = pb at *
   go_wp2_with fail
   go_loopw [32] (fun i wr => ∃ k : Nat, i = .int .i64 k ∧ k ≤ Jmn ∧ RpJ wb pb Jp Js Jc Jl Jst Jsk Jre Jfe Jag Jan1 g1 c1 g2 c2 Jap sx sy ms k wr) (fun i _ => Jmn - (intOf i).toNat)
   case atStart => exact ⟨0, rfl, Nat.zero_le _, _, _, [], _, _, _, _, _, [], HP0.out, rfl, rfl, by omega, rfl, rfl⟩
   case round =>
    clear HP0 HBX m12
    obtain ⟨k, rfl, hkn, v1, v2, L, h1, d1, h2, d2, R, rs, hP, hrun, hLk, hk120, hLr, hLq⟩ := hrel
    have HP := Lib.hid hP
    have HRun := Lib.hid (And.intro hrun (And.intro hLk (And.intro hLr hLq)))
    have HBr := Lib.hid (HB.out.below hP.be)
    have Hlm := Lib.hid H.out.lm
    clear hP hrun hLr hLq hLk
    by_cases hlt : k < Jmn
    ·obtain ⟨m, hm⟩ : ∃ m, ms[k]? = some m := ⟨ms[k]'(by rw [Hlm.out]; exact hlt), List.getElem?_eq_getElem _⟩
     have hne : ms ≠ [] := by intro e; subst e; cases hm
     obtain ⟨ga, oa, hga, hgl, hca⟩ := (H.out.m.below HBr.out.2.2).2.resolve_left hne
     have y1 := hca k _ hm
     subst hga
     have HMk := Lib.hid hm
     have k0 : (0 : Int) ≤ (k : Int) := by omega
     have kq : (k : Int) < (Jmn : Int) := by omega
     have htl : (ms.take k).length = k := by rw [List.length_take, Hlm.out]; omega
     have Htl := Lib.hid htl
     clear hm hne hgl hca htl
     by_cases hfull : k = 120
     ·have HM := Lib.hid (pmove_full wb pb Jp Js Jc Jl Jst Jsk Jre Jfe Jag Jan1 g1 c1 g2 c2 Jap sx sy v1 v2 (ms.take k) L h1 d1 h2 d2 (lastP (⟨Jap, sx, sy⟩ : Ps) rs) R m wr HP.out (Htl.out.trans hfull))
      have HokN : Hid (okG Jp Js Jc Jl Jst Jsk Jre Jfe Jag Jan1 2 Jap sx sy ms Jbp nx ny Jrg = false) := Lib.hid (by rw [HG1.out, decide_eq_false (show ¬ ms.length ≤ 120 by have := Hlm.out; omega)]; rfl)
      clear hfull
      go_wp2_with fail
      refine HM.out.mono ?_
      rintro e w6 ⟨rfl, hb⟩
      have HBr := Lib.hid (HBr.out.below hb)
      clear hb y1
      go_wp2_with (refine wpList_store_mid rfl 72 _ _ rfl (w.heap.size + 1) 0 zero18.toArray rfl rfl HBr.out.2.1.th (by kernel_rfl) zero18_one ?_)
      have hrun := run_loadVar_mid (P := Tryz.prog) _ (w.heap.size + 1) 0 72 zero18 _ (World.rangeAt_setCells_same _ (w.heap.size + 1) 0 zero18 HBr.out.2.1.th) Tryz.underlying72 rfl (by kernel_rfl)
      refine bodyPost_ret (v := .tuple #[.agg zero18.toArray, .int .i64 1]) ?_ rfl ?_
      ·simp [results, Tryz.results59, Result.andThen_ok, asAddr, hrun]
      ·unfold RpP
       rw [HokN.out, if_neg (by decide)]
       exact ⟨rfl, below_scg (w.heap.size + 1) (by omega) _ 0 HBr.out.2.2⟩
     ·have hk2 : k < 120 := by omega
      have hok := run_ok HOk.out HRun.out.1
      have HM := Lib.hid (pmove_any wb pb Jp Js Jc Jl Jst Jsk Jre Jfe Jag Jan1 g1 c1 g2 c2 Jap sx sy v1 v2 (ms.take k) L h1 d1 h2 d2 (lastP (⟨Jap, sx, sy⟩ : Ps) rs) R m wr HP.out hok (by have := Htl.out; omega) (by have := Htl.out; have := HRun.out.2.1; omega))
      cases hl : lgV Jc Jl Jp (lastP (⟨Jap, sx, sy⟩ : Ps) rs).pl Jfe (lastP (⟨Jap, sx, sy⟩ : Ps) rs).xs (mvV true Jp (lastP (⟨Jap, sx, sy⟩ : Ps) rs).pl Jst Jsk Jre (lastP (⟨Jap, sx, sy⟩ : Ps) rs).xs (lastP (⟨Jap, sx, sy⟩ : Ps) rs).ys m) with
      | none =>
       have hlv : lvS Jp Js Jc Jl Jst Jsk Jre Jfe Jag (lastP (⟨Jap, sx, sy⟩ : Ps) rs) m = none := by unfold lvS; rw [hl]; rfl
       have hst : stp Jp Jc Jl Jst Jsk Jre Jfe Jag (lastP (⟨Jap, sx, sy⟩ : Ps) rs) m = none := by unfold stp; rw [hl]; rfl
       have d : (cdS Jp Js Jc Jl Jst Jsk Jre Jfe Jag (lastP (⟨Jap, sx, sy⟩ : Ps) rs) m == 0) = false := lg_none hok.ok hok.l1 hl
       rw [hlv] at HM
       have HokN : Hid (okG Jp Js Jc Jl Jst Jsk Jre Jfe Jag Jan1 2 Jap sx sy ms Jbp nx ny Jrg = false) := Lib.hid (by rw [HG1.out]; unfold runB; rw [runO_no HMk.out HRun.out.1 hst, Bool.and_false])
       generalize cdS Jp Js Jc Jl Jst Jsk Jre Jfe Jag (lastP (⟨Jap, sx, sy⟩ : Ps) rs) m = cd at *
       clear hl hlv hst hok
       go_wp2_with fail
       refine HM.out.mono ?_
       rintro e w6 ⟨rfl, hb⟩
       have HBr := Lib.hid (HBr.out.below hb)
       clear hb y1
       go_wp2_with (refine wpList_store_mid rfl 72 _ _ rfl (w.heap.size + 1) 0 zero18.toArray rfl rfl HBr.out.2.1.th (by kernel_rfl) zero18_one ?_)
       have hrun := run_loadVar_mid (P := Tryz.prog) _ (w.heap.size + 1) 0 72 zero18 _ (World.rangeAt_setCells_same _ (w.heap.size + 1) 0 zero18 HBr.out.2.1.th) Tryz.underlying72 rfl (by kernel_rfl)
       refine bodyPost_ret (v := .tuple #[.agg zero18.toArray, .int .i64 1]) ?_ rfl ?_
       ·simp [results, Tryz.results59, Result.andThen_ok, asAddr, hrun]
       ·unfold RpP
        rw [HokN.out, if_neg (by decide)]
        exact ⟨rfl, below_scg (w.heap.size + 1) (by omega) _ 0 HBr.out.2.2⟩
      | some m7 =>
       have hlv : lvS Jp Js Jc Jl Jst Jsk Jre Jfe Jag (lastP (⟨Jap, sx, sy⟩ : Ps) rs) m = some (m7, r7V Jc Jl Jp (lastP (⟨Jap, sx, sy⟩ : Ps) rs).pl Jag (lastP (⟨Jap, sx, sy⟩ : Ps) rs).ys m m7) := by unfold lvS; rw [hl]; rfl
       have hst : stp Jp Jc Jl Jst Jsk Jre Jfe Jag (lastP (⟨Jap, sx, sy⟩ : Ps) rs) m = some (r7V Jc Jl Jp (lastP (⟨Jap, sx, sy⟩ : Ps) rs).pl Jag (lastP (⟨Jap, sx, sy⟩ : Ps) rs).ys m m7) := by unfold stp; rw [hl]; rfl
       rw [hlv] at HM
       generalize r7V Jc Jl Jp (lastP (⟨Jap, sx, sy⟩ : Ps) rs).pl Jag (lastP (⟨Jap, sx, sy⟩ : Ps) rs).ys m m7 = r at *
       have HYes := Lib.hid (runO_yes HMk.out HRun.out.1 hst)
       generalize cdS Jp Js Jc Jl Jst Jsk Jre Jfe Jag (lastP (⟨Jap, sx, sy⟩ : Ps) rs) m = cd at *
       clear hl hlv hst hok
       go_wp2_with fail
       refine HM.out.mono ?_
       rintro e w6 ⟨rfl, v1', v2', x, g1', c1', g2', c2', R', hP', hx⟩
       have HP' := Lib.hid hP'
       have HX := Lib.hid hx
       clear hP' hx y1
       go_wp2_with fail
       go_roundw
       case rel =>
        refine ⟨k + 1, by go_num, by omega, v1', v2', L ++ [x], g1', c1', g2', c2', R', rs ++ [r], ?_, HYes.out, by rw [List.length_append, HRun.out.2.1]; rfl, by omega, ?_, ?_⟩
        ·rw [take_next HMk.out, lastP_snoc]
         exact HP'.out
        ·rw [List.map_append, HRun.out.2.2.1]
         simp [HX.out]
        ·rw [List.map_append, lastP_snoc, List.map_append, ← List.cons_append, ← HRun.out.2.2.2]
         simp [HX.out]
       case measure => simp [intOf]; omega
    ·obtain rfl : k = Jmn := by omega
     have hms : ms.take k = ms := List.take_of_length_le (Nat.le_of_eq Hlm.out)
     have hrun := HRun.out.1
     rw [hms] at hrun
     rw [hms] at HP
     have HSm := Lib.hid (implSame_any (some ⟨h1, 0, none⟩) (some ⟨h2, 0, none⟩) Jan1 d1 2 d2 (lastP (⟨Jap, sx, sy⟩ : Ps) rs).pl Jb1 Jb2 Jbn1 Jbc1 Jbn2 Jbc2 Jbp (lastP (⟨Jap, sx, sy⟩ : Ps) rs).xs (lastP (⟨Jap, sx, sy⟩ : Ps) rs).ys nx ny wr HP.out.nr (H.out.n.below HBr.out.2.2))
     have HOG : Hid (okG Jp Js Jc Jl Jst Jsk Jre Jfe Jag Jan1 2 Jap sx sy ms Jbp nx ny Jrg = sameB (lastP (⟨Jap, sx, sy⟩ : Ps) rs).xs nx (lastP (⟨Jap, sx, sy⟩ : Ps) rs).ys ny (lastP (⟨Jap, sx, sy⟩ : Ps) rs).pl Jbp) := Lib.hid (by
      rw [HG1.out, decide_eq_true (show ms.length ≤ 120 by have := Hlm.out; omega), Bool.true_and]
      unfold runB
      rw [hrun])
     have HRn := Lib.hid hrun
     have t13 := HP.out.g.c13
     have t14 := HP.out.g.c14
     have t15 := HP.out.g.c15
     obtain ⟨hgb, -, -, -, -, -, -, -, -, -, -, -, -, -, m13, m14, m15, m16⟩ := HBr.out.1
     generalize sameB (lastP (⟨Jap, sx, sy⟩ : Ps) rs).xs nx (lastP (⟨Jap, sx, sy⟩ : Ps) rs).ys ny (lastP (⟨Jap, sx, sy⟩ : Ps) rs).pl Jbp = sb at *
     clear hms hrun
     go_wp2_with fail
     refine HSm.out.mono ?_
     rintro e w6 ⟨rfl, hb⟩
     have HBr := Lib.hid (HBr.out.below hb)
     have HP := Lib.hid (HP.out.below hb)
     clear hb t13 t14 t15 m13 m14 m15
     cases sb
     ·have HokN := HOG
      clear m16
      go_wp2_with (refine wpList_store_mid rfl 72 _ _ rfl (w.heap.size + 1) 0 zero18.toArray rfl rfl HBr.out.2.1.th (by kernel_rfl) zero18_one ?_)
      have hrun := run_loadVar_mid (P := Tryz.prog) _ (w.heap.size + 1) 0 72 zero18 _ (World.rangeAt_setCells_same _ (w.heap.size + 1) 0 zero18 HBr.out.2.1.th) Tryz.underlying72 rfl (by kernel_rfl)
      refine bodyPost_ret (v := .tuple #[.agg zero18.toArray, .int .i64 1]) ?_ rfl ?_
      ·simp [results, Tryz.results59, Result.andThen_ok, asAddr, hrun]
      ·unfold RpP
       rw [HokN.out, if_neg (by decide)]
       exact ⟨rfl, below_scg (w.heap.size + 1) (by omega) _ 0 HBr.out.2.2⟩
     ·obtain ⟨-, -, -, -, -, -, -, -, -, -, -, -, -, -, -, -, -, m16⟩ := HBr.out.1
      have t16 := HP.out.g.c16
      have f16 := HP.out.g.fr 16
      have l16 := HP.out.g.lt
      go_upto_region 13 with fail
      have HP16 := Lib.hid (HP.out.setRg Jrg)
      clear HP m16 t16 f16 l16
      generalize w6.setCell ⟨pb, 16, none⟩ (.int .i64 Jrg) = W16 at *
      have HB16 := Lib.hid (HB.out.below HP16.out.be)
      obtain ⟨va, vc, hv1⟩ := slice_own HP16.out.mo
      obtain ⟨ta, tc, hv2⟩ := slice_own HP16.out.tu
      subst hv1
      subst hv2
      have HRgP := Lib.hid HP16.out.rg18
      have HOne := Lib.hid (vals18_one Jp Js Jc Jl Jst Jsk Jre Jfe Jag Jan1 g1 c1 g2 c2 Jap va ms.length vc ta L.length tc h1 d1 h2 d2 (lastP (⟨Jap, sx, sy⟩ : Ps) rs).pl Jrg)
      go_wp2_with (first | (refine wpList_load_mid rfl 72 _ rfl pb 0 rfl _ _ HRgP.out Tryz.underlying72 rfl (by kernel_rfl) ?_) | (refine wpList_store_mid rfl 72 _ _ rfl (w.heap.size + 1) 0 (vals18 Jp Js Jc Jl Jst Jsk Jre Jfe Jag Jan1 g1 c1 g2 c2 Jap (.slice va ms.length vc) (.slice ta L.length tc) h1 d1 h2 d2 (lastP (⟨Jap, sx, sy⟩ : Ps) rs).pl Jrg).toArray rfl rfl HB16.out.2.1.th (by kernel_rfl) HOne.out ?_))
      have hrun := run_loadVar_mid (P := Tryz.prog) _ (w.heap.size + 1) 0 72 (vals18 Jp Js Jc Jl Jst Jsk Jre Jfe Jag Jan1 g1 c1 g2 c2 Jap (.slice va ms.length vc) (.slice ta L.length tc) h1 d1 h2 d2 (lastP (⟨Jap, sx, sy⟩ : Ps) rs).pl Jrg) _ (World.rangeAt_setCells_same W16 (w.heap.size + 1) 0 _ HB16.out.2.1.th) Tryz.underlying72 rfl (by kernel_rfl)
      refine bodyPost_ret (v := .tuple #[.agg (vals18 Jp Js Jc Jl Jst Jsk Jre Jfe Jag Jan1 g1 c1 g2 c2 Jap (.slice va ms.length vc) (.slice ta L.length tc) h1 d1 h2 d2 (lastP (⟨Jap, sx, sy⟩ : Ps) rs).pl Jrg).toArray, .int .i64 0]) ?_ rfl ?_
      ·simp [results, Tryz.results59, Result.andThen_ok, asAddr, hrun]
      ·unfold RpP
       rw [HOG.out, if_pos rfl]
       exact ⟨pb, g1, c1, g2, c2, _, _, L, h1, d1, h2, d2, _, R, rs, rfl, HP16.out.leave HB.out.2.2 HB.out.2.1.lt (by omega) (but_scg (w.heap.size + 1) _ 0 (But.refl _ _)), HRn.out, rfl, HRun.out.2.2.1, HRun.out.2.2.2⟩
/- Vg8 -/
theorem gmb_new (Jp Js Jc Jl : Int) (Jst Jsk Jre Jfe Jag : Bool) (Ja1 Ja2 : Option Addr) (Jan1 Jac1 Jan2 Jac2 : Nat) (Jap : Int) (Jm : Option Addr) (Jmn Jmc : Nat) (Jb1 Jb2 : Option Addr) (Jbn1 Jbc1 Jbn2 Jbc2 : Nat) (Jbp Jrg : Int) (w : World) (T : TypeId) : GmB w w.heap.size Jp Js Jc Jl Jst Jsk Jre Jfe Jag Ja1 Ja2 Jan1 Jac1 Jan2 Jac2 Jap Jm Jmn Jmc Jb1 Jb2 Jbn1 Jbc1 Jbn2 Jbc2 Jbp Jrg (w.alloc (.cells #[.int .i64 Jp, .int .i64 Js, .bool Jst, .bool Jsk, .bool Jre, .bool Jfe, .bool Jag, .int .i64 Jc, .int .i64 Jl, .slice Ja1 Jan1 Jac1, .slice Ja2 Jan2 Jac2, .int .i64 Jap, .slice Jm Jmn Jmc, .slice Jb1 Jbn1 Jbc1, .slice Jb2 Jbn2 Jbc2, .int .i64 Jbp, .int .i64 Jrg] T)) := ⟨gm_new Jp Js Jc Jl Jst Jsk Jre Jfe Jag Ja1 Ja2 Jan1 Jac1 Jan2 Jac2 Jap Jm Jmn Jmc Jb1 Jb2 Jbn1 Jbc1 Jbn2 Jbc2 Jbp Jrg w T, al1 _ _⟩
def RpD (cd : Int) (w : World) (e : Ending) (w' : World) : Prop := ∃ cs : List Value, cs.length = 18 ∧ cs.toArray.all (·.oneCell') = true ∧ e = .returned (.tuple #[.agg cs.toArray, .int .i64 cd]) ∧ Below w.heap.size w w'
theorem RpP.d {p s c l : Int} {st sk re fe ag : Bool} {n1 : Nat} {sp : Int} {sx sy ms : List Int} {rg : Int} {ok : Bool} {w w' : World} {e : Ending} (h : RpP p s c l st sk re fe ag n1 sp sx sy ms rg ok w e w') : RpD (if ok then 0 else 1) w e w' := by
 unfold RpP at h
 cases ok
 ·rw [if_neg (by decide)] at h
  exact ⟨zero18, rfl, zero18_one, h.1, h.2⟩
 ·rw [if_pos rfl] at h
  obtain ⟨pb, b1, e1, b2, e2, v1, v2, L, h1, d1, h2, d2, q, R, rs, he, hP, -⟩ := h
  obtain ⟨va, vc, rfl⟩ := slice_own hP.mo
  obtain ⟨ta, tc, rfl⟩ := slice_own hP.tu
  exact ⟨_, rfl, vals18_one _ _ _ _ _ _ _ _ _ _ _ _ _ _ _ _ _ _ _ _ _ _ _ _ _ _ _, he, hP.be⟩
theorem OnW.of9 {w u v : World} (h : Below w.heap.size w u) (k : Below u.heap.size u v) : Below w.heap.size w v := h.trans (k.mono h.size)
/- Rep8 -/
def cntP (bp : Int) (nx ny : List Int) (ps : List Ps) : Nat := ps.countP (fun y => sameB y.xs nx y.ys ny y.pl bp)
theorem cntP_le (bp : Int) (nx ny : List Int) (ps : List Ps) : cntP bp nx ny ps ≤ ps.length := List.countP_le_length
theorem cntP_snoc (bp : Int) (nx ny : List Int) (ps : List Ps) (y : Ps) : cntP bp nx ny (ps ++ [y]) = cntP bp nx ny ps + (if sameB y.xs nx y.ys ny y.pl bp = true then 1 else 0) := by
 unfold cntP
 rw [List.countP_append]
 cases h : sameB y.xs nx y.ys ny y.pl bp <;> simp [h]
theorem cntP_next {bp : Int} {nx ny : List Int} {ps : List Ps} {k : Nat} {y : Ps} (h : ps[k]? = some y) {sb : Bool} (hs : sameB y.xs nx y.ys ny y.pl bp = sb) : cntP bp nx ny (ps.take (k + 1)) = cntP bp nx ny (ps.take k) + (if sb = true then 1 else 0) := by
 rw [List.take_add_one, h, ← hs]
 exact cntP_snoc _ _ _ _ _
def repV (f : Ps → Int → Option R7) (q : Ps) (ms : List Int) (bp : Int) (nx ny : List Int) : Int :=
 match runO f q ms with
 | none => 0
 | some rs => (cntP bp nx ny (q :: rs.map R7.ps) : Int)
theorem l08Rep_any (Jp Js Jc Jl : Int) (Jst Jsk Jre Jfe Jag : Bool) (Ja1 Ja2 : Option Addr) (Jan1 Jac1 Jan2 Jac2 : Nat) (Jap : Int) (Jm : Option Addr) (Jmn Jmc : Nat) (Jb1 Jb2 : Option Addr) (Jbn1 Jbc1 Jbn2 Jbc2 : Nat) (Jbp Jrg : Int) (sx sy ms nx ny : List Int) (gb : Nat) (w : World) (hg : GmAt w gb Jp Js Jc Jl Jst Jsk Jre Jfe Jag Ja1 Ja2 Jan1 Jac1 Jan2 Jac2 Jap Jm Jmn Jmc Jb1 Jb2 Jbn1 Jbc1 Jbn2 Jbc2 Jbp Jrg) (h : GamR w Ja1 Ja2 Jan1 Jan2 Jm Jmn Jb1 Jb2 Jbn1 Jbn2 sx sy ms nx ny) (hok : okG Jp Js Jc Jl Jst Jsk Jre Jfe Jag Jan1 Jan2 Jap sx sy ms Jbp nx ny Jrg = true) :
  Calls Tryz.prog 100 #[.pointer (some ⟨gb, 0, none⟩)] w (BelP (.int .i64 (repV (stp Jp Jc Jl Jst Jsk Jre Jfe Jag) ⟨Jap, sx, sy⟩ ms Jbp nx ny)) w) := by
 unfold okG at hok
 simp only [Bool.and_eq_true, decide_eq_true_eq] at hok
 obtain ⟨⟨⟨hk, h120⟩, -⟩, hrb⟩ := hok
 obtain ⟨-, -, e2, -, -⟩ := okP_parts hk
 subst e2
 have HOk := Lib.hid (show OkQ Jp Js Jc Jl Jst Jag Jan1 ⟨Jap, sx, sy⟩ from ⟨hk, h.s.l1, h.s.l2⟩)
 have Hlm := Lib.hid h.lm
 have h12 : Jmn ≤ 120 := by have := Hlm.out; omega
 have H := Lib.hid h
 have HS := Lib.hid (show GmB w gb Jp Js Jc Jl Jst Jsk Jre Jfe Jag Ja1 Ja2 Jan1 Jac1 2 Jac2 Jap Jm Jmn Jmc Jb1 Jb2 Jbn1 Jbc1 Jbn2 Jbc2 Jbp Jrg w from ⟨hg, Below.refl _ _⟩)
 obtain ⟨rs, hro⟩ : ∃ rs, runO (stp Jp Jc Jl Jst Jsk Jre Jfe Jag) ⟨Jap, sx, sy⟩ ms = some rs := by
  unfold runB at hrb
  cases e : runO (stp Jp Jc Jl Jst Jsk Jre Jfe Jag) ⟨Jap, sx, sy⟩ ms with
  | none => rw [e] at hrb; cases hrb
  | some rs => exact ⟨rs, rfl⟩
 have hV : repV (stp Jp Jc Jl Jst Jsk Jre Jfe Jag) ⟨Jap, sx, sy⟩ ms Jbp nx ny = (cntP Jbp nx ny ((⟨Jap, sx, sy⟩ : Ps) :: rs.map R7.ps) : Int) := by unfold repV; rw [hro]
 rw [hV]
 have Hro := Lib.hid hro
 clear hV hro hk h hg hrb
 have HRn : Hid (∀ u, GmB w gb Jp Js Jc Jl Jst Jsk Jre Jfe Jag Ja1 Ja2 Jan1 Jac1 2 Jac2 Jap Jm Jmn Jmc Jb1 Jb2 Jbn1 Jbc1 Jbn2 Jbc2 Jbp Jrg u → Calls Tryz.prog 70 #[.pointer (some ⟨gb, 0, none⟩), .pointer (some ⟨gb, 9, none⟩), .slice Jm Jmn Jmc] u (RunP (stp Jp Jc Jl Jst Jsk Jre Jfe Jag) ⟨Jap, sx, sy⟩ ms u)) := Lib.hid (fun u hu => l08Run_any Jp Js Jc Jl Jst Jsk Jre Jfe Jag Ja1 Ja2 Jan1 Jac1 Jac2 Jap sx sy ms gb Jm Jmn Jmc u hu.1.ru hu.1.p9 (H.out.s.below hu.2) (H.out.m.below hu.2) Hlm.out (by omega) HOk.out)
 have HTT : Hid (∀ u : World, GmB w gb Jp Js Jc Jl Jst Jsk Jre Jfe Jag Ja1 Ja2 Jan1 Jac1 2 Jac2 Jap Jm Jmn Jmc Jb1 Jb2 Jbn1 Jbc1 Jbn2 Jbc2 Jbp Jrg u → (gb < u.heap.size ∧ u.cell? ⟨gb, 12, none⟩ = some (.slice Jm Jmn Jmc)) ∧ Below w.heap.size w u) := Lib.hid (fun u h => gm_mv h)
 go_enter Tryz.func100, Tryz.ntmps100
 go_upto_region 1 with fail
 go_region_held3 (fun u => (gb < u.heap.size ∧ u.cell? ⟨gb, 12, none⟩ = some (.slice Jm Jmn Jmc)) ∧ Below w.heap.size w u) (first | with_reducible exact HTT.out _ HS.out | with_reducible exact HTT.out _ HS.out.drew)
  ((go_at_call 70; (with_reducible refine (HRn.out _ ?_).mono ?_); (first | with_reducible exact HS.out | with_reducible exact HS.out.drew); rintro e w6 ⟨v1, v2, L, gs, rfl, hL, hgn, hll, hle, hR, hb⟩; (first | with_reducible have HS := Lib.hid (HS.out.below hb) | with_reducible have HS := Lib.hid (HS.out.drew.below hb)); have HL := Lib.hid hL; have Hgn := Lib.hid hgn; have HR := Lib.hid (And.intro hR (And.intro hll hle)); clear hL hgn hR hb hll hle))
 obtain ⟨a2, c2, rfl⟩ := slice_own Hgn.out
 obtain ⟨g1, cp1, rfl⟩ := slice_some HL.out.own (by have := HR.out.2.1; omega)
 obtain ⟨hR, hll, hle⟩ := HR.out
 have hnL : L.length ≤ 121 := by have := Hlm.out; omega
 unfold RunR at hR
 rw [Hro.out] at hR
 obtain ⟨hR1, -⟩ := hR
 have HR1 := Lib.hid hR1
 obtain ⟨N, hN⟩ : ∃ N, N = L.length := ⟨_, rfl⟩
 have HN := Lib.hid hN
 rw [← hN] at hnL
 rw [← hN]
 generalize gs.length = n2 at *
 clear hll hle hR1 hN HR HRn HTT
 go_wp2_with fail
 go_loopw [5, 6] (fun n i wr => ∃ k : Nat, i = .int .i64 k ∧ n = .int .i64 (cntP Jbp nx ny ((L.map Prod.fst).take k)) ∧ k ≤ N ∧ Below w6.heap.size w6 wr) (fun _ i _ => N - (intOf i).toNat)
 case atStart => exact ⟨0, rfl, rfl, Nat.zero_le _, by first | exact Below.refl _ _ | exact below_dn (Below.refl _ _) _ | exact (Below.refl _ _).drew⟩
 case round =>
  obtain ⟨k, rfl, rfl, hkN, hbw⟩ := hrel
  have HSr := Lib.hid (HS.out.below hbw)
  have HLr := Lib.hid (HL.out.below hbw)
  have Hbw := Lib.hid hbw
  have hc1 : cntP Jbp nx ny ((L.map Prod.fst).take k) ≤ 121 := Nat.le_trans (cntP_le _ _ _ _) (by rw [List.length_take]; omega)
  clear hbw
  by_cases hlt : k < N
  ·obtain ⟨x, hx⟩ : ∃ x, L[k]? = some x := ⟨L[k]'(by rw [← HN.out]; exact hlt), List.getElem?_eq_getElem _⟩
   have HC := Lib.hid (fun o (ho : o < 3) => HLr.out.cell hx ho)
   have HI := Lib.hid (HLr.out.it x (List.mem_of_getElem? hx))
   have hx1 : (L.map Prod.fst)[k]? = some x.1 := by rw [List.getElem?_map, hx]; rfl
   have HSm : Hid (∀ q o, o = k * 3 → Calls Tryz.prog 94 #[.pointer (some ⟨g1, o, none⟩), .pointer (some ⟨gb, 13, none⟩)] (wr.drewN q) (Still (.bool (sameB x.1.xs nx x.1.ys ny x.1.pl Jbp)) (wr.drewN q))) := Lib.hid (fun q o ho => by
    subst ho
    have hgl : g1 < wr.heap.size := (own_lt HLr.out.own g1 rfl).2
    have kb := below_dn (Below.refl wr.heap.size wr) q
    exact l04SameO_any (some ⟨x.2.g1, 0, none⟩) (some ⟨x.2.g2, 0, none⟩) x.2.n1 x.2.k1 2 x.2.k2 x.1.pl Jb1 Jb2 Jbn1 Jbc1 Jbn2 Jbc2 Jbp x.1.xs x.1.ys nx ny g1 (k * 3) gb (wr.drewN q) (PoO.below (v := wr.drewN q) (u := wr) ⟨hgl, HC.out 0 (by omega), HC.out 1 (by omega), HC.out 2 (by omega)⟩ kb) (HSr.out.below kb).1.s13 (HI.out.o.r.drewN q) ((H.out.n.below HSr.out.2).drewN q))
   obtain ⟨sb, hsb⟩ : ∃ sb, sameB x.1.xs nx x.1.ys ny x.1.pl Jbp = sb := ⟨_, rfl⟩
   rw [hsb] at HSm
   have HNx := Lib.hid (cntP_next hx1 hsb)
   obtain ⟨cn, hcn⟩ : ∃ cn, cntP Jbp nx ny ((L.map Prod.fst).take k) = cn := ⟨_, rfl⟩
   rw [hcn] at HNx hc1
   rw [hcn]
   have k0 : (0 : Int) ≤ (k : Int) := by omega
   have kq : (k : Int) < (N : Int) := by omega
   have c0 : (0 : Int) ≤ (cn : Int) := by omega
   have cq : (cn : Int) ≤ 121 := by omega
   clear hx hx1 hsb hcn
   cases sb
   all_goals
    go_wp2_with fail
    go_quiet ((go_at_call 94; with_reducible exact quiet_s (HSm.out _ _ (by simp)) ⟨_, rfl⟩))
    go_wp2_with fail
    go_roundw
    case rel => exact ⟨k + 1, by go_num, by rw [HNx.out]; go_num, by omega, by first | exact Hbw.out | exact below_dn Hbw.out _⟩
    case measure => simp [intOf]; omega
  ·obtain rfl : k = N := by omega
   rw [List.take_of_length_le (by rw [List.length_map, ← HN.out]; exact Nat.le_refl _)] at hc1
   rw [List.take_of_length_le (by rw [List.length_map, ← HN.out]; exact Nat.le_refl _)]
   obtain ⟨cn, hcn⟩ : ∃ cn : Int, (cntP Jbp nx ny (L.map Prod.fst) : Int) = cn := ⟨_, rfl⟩
   rw [hcn]
   go_wp2_with fail
   go_ret
   exact ⟨by rw [← HR1.out, hcn]; rfl, by first | exact HSr.out.2 | exact below_dn HSr.out.2 _⟩
/- Rep9 -/
section
variable {w u v : World} {pb : Nat} {p s c l : Int} {st sk re fe ag : Bool} {n1 b1 e1 b2 e2 : Nat} {sp : Int} {sx sy : List Int} {v1 v2 : Value} {ms : List Int} {L : List (T21 × Q21)} {h1 d1 h2 d2 : Nat} {q : Ps} {rg : Int} {R : List (Nat × List Int)}
theorem PlK.rgL {g n cap : Nat} (h : PlK w pb p s c l st sk re fe ag n1 b1 e1 b2 e2 sp sx sy v1 (.slice (some ⟨g, 0, none⟩) n cap) ms L h1 d1 h2 d2 q rg R u) {i : Nat} {x : T21 × Q21} (hi : L[i]? = some x) : u.rangeAt g (i * 21) (cells21 p s c l st sk re fe ag n1 x) := by
 intro j y hj
 have hj21 : j < 21 := (List.getElem?_eq_some_iff.1 hj).1
 obtain ⟨h1, ⟨e, -⟩ | ⟨g', cap', cur, hv, hb, hg, hn, hc, hs, ht⟩⟩ := h.tu
 ·cases e
 ·simp only [Value.slice.injEq, Option.some.injEq, Addr.mk.injEq] at hv
  obtain ⟨⟨rfl, -⟩, -, rfl⟩ := hv
  have e := flat21_at (p := p) (s := s) (c := c) (l := l) (st := st) (sk := sk) (re := re) (fe := fe) (ag := ag) (n1 := n1) L i x hi j hj21
  rw [← ht, List.getElem?_take] at e
  have hL : i < L.length := (List.getElem?_eq_some_iff.1 hi).1
  rw [if_pos (by omega), hj] at e
  rw [← e]
  simp [World.cell?, hg]
theorem PlK.bef (h : PlK w pb p s c l st sk re fe ag n1 b1 e1 b2 e2 sp sx sy v1 v2 ms L h1 d1 h2 d2 q rg R u) {x : T21 × Q21} (hx : x ∈ L) : PosR u (some ⟨x.2.a1, 0, none⟩) (some ⟨x.2.a2, 0, none⟩) n1 2 x.1.q.xs x.1.q.ys := by
 have i := h.it x hx
 exact ⟨(h.rws _ i.a1).o.row, (h.rws _ i.a2).o.row, i.l1, i.l2⟩
end
def B21 (w : World) (M : Nat) (a1 : Option Addr) (n1 ca1 : Nat) (a2 : Option Addr) (ca2 : Nat) (pl : Int) (u : World) : Prop := M < u.heap.size ∧ u.cell? ⟨M, 14, none⟩ = some (.slice a1 n1 ca1) ∧ u.cell? ⟨M, 15, none⟩ = some (.slice a2 2 ca2) ∧ u.cell? ⟨M, 16, none⟩ = some (.int .i64 pl)
theorem B21.below {w u v : World} {M : Nat} {a1 : Option Addr} {n1 ca1 : Nat} {a2 : Option Addr} {ca2 : Nat} {pl : Int} (h : B21 w M a1 n1 ca1 a2 ca2 pl u) (k : Below u.heap.size u v) : B21 w M a1 n1 ca1 a2 ca2 pl v := by
 obtain ⟨h0, h1, h2, h3⟩ := h
 exact ⟨Nat.lt_of_lt_of_le h0 k.size, (k.cell (p := ⟨M, 14, none⟩) h0).trans h1, (k.cell (p := ⟨M, 15, none⟩) h0).trans h2, (k.cell (p := ⟨M, 16, none⟩) h0).trans h3⟩
theorem b21_put {wr X : World} (p s c l : Int) (st sk re fe ag : Bool) {n1 : Nat} {x : T21 × Q21} (T : TypeId) (hX : X = (wr.alloc (.cells zero21.toArray T)).setCells wr.heap.size 0 (cells21 p s c l st sk re fe ag n1 x)) :
  B21 wr wr.heap.size (some ⟨x.2.a1, 0, none⟩) n1 x.2.ca1 (some ⟨x.2.a2, 0, none⟩) x.2.ca2 x.1.q.pl X ∧ Below wr.heap.size wr X := by
 have hr := World.rangeAt_setCells_same (wr.alloc (.cells zero21.toArray T)) wr.heap.size 0 (cells21 p s c l st sk re fe ag n1 x) (thN_new wr T).th
 rw [← hX] at hr
 exact ⟨⟨by rw [hX, size_scg]; simp, hr 14 _ rfl, hr 15 _ rfl, hr 16 _ rfl⟩, by rw [hX]; exact below_scg wr.heap.size (Nat.le_refl _) _ 0 (al1 wr _)⟩
theorem repeats_any {w : World} {pb : Nat} (p s c l : Int) (st sk re fe ag : Bool) {n1 b1 e1 b2 e2 : Nat} {sp : Int} {sx sy : List Int} {v1 v2 : Value} {ms : List Int} {L : List (T21 × Q21)} {h1 d1 h2 d2 : Nat} {q : Ps} {rg : Int} {R : List (Nat × List Int)} (u : World) (h : PlK w pb p s c l st sk re fe ag n1 b1 e1 b2 e2 sp sx sy v1 v2 ms L h1 d1 h2 d2 q rg R u) (hl : L.length ≤ 120) :
  Calls Tryz.prog 103 #[.pointer (some ⟨pb, 0, none⟩)] u (BelP (.int .i64 (1 + (cntP q.pl q.xs q.ys (L.map (fun x => x.1.q)) : Int))) u) := by
 obtain ⟨ta, tc, hv2⟩ := slice_own h.tu
 subst hv2
 have HP := Lib.hid h
 have t17 := h.tv
 obtain ⟨N, hN⟩ : ∃ N, N = L.length := ⟨_, rfl⟩
 have HN := Lib.hid hN
 rw [← hN] at hl t17
 clear h hN
 go_enter Tryz.func103, Tryz.ntmps103
 go_wp2_with fail
 go_loopw [3, 11] (fun n i wr => ∃ k : Nat, i = .int .i64 k ∧ n = .int .i64 (1 + (cntP q.pl q.xs q.ys ((L.map (fun x => x.1.q)).take k) : Int)) ∧ k ≤ N ∧ Below u.heap.size u wr) (fun _ i _ => N - (intOf i).toNat)
 case atStart => exact ⟨0, rfl, rfl, Nat.zero_le _, by first | exact Below.refl _ _ | exact below_dn (Below.refl _ _) _ | exact (Below.refl _ _).drew⟩
 case round =>
  obtain ⟨k, rfl, rfl, hkN, hbw⟩ := hrel
  have HPr := Lib.hid (HP.out.below hbw)
  have Hbw := Lib.hid hbw
  have hc1 : cntP q.pl q.xs q.ys ((L.map (fun x => x.1.q)).take k) ≤ 120 := Nat.le_trans (cntP_le _ _ _ _) (by rw [List.length_take]; omega)
  clear hbw t17
  by_cases hlt : k < N
  ·obtain ⟨x, hx⟩ : ∃ x, L[k]? = some x := ⟨L[k]'(by rw [← HN.out]; exact hlt), List.getElem?_eq_getElem _⟩
   obtain ⟨g, c', hg⟩ := slice_some HPr.out.tu (by have := HN.out; omega)
   simp only [Value.slice.injEq] at hg
   obtain ⟨rfl, -, rfl⟩ := hg
   have hx1 : (L.map (fun x => x.1.q))[k]? = some x.1.q := by rw [List.getElem?_map, hx]; rfl
   have HRg : Hid (∀ o, o = k * 21 → wr.rangeAt g o (cells21 p s c l st sk re fe ag n1 x)) := Lib.hid (fun o ho => by rw [ho]; exact HPr.out.rgL hx)
   have HOne := Lib.hid (all_oneCell_toArray (cells21_one (p := p) (s := s) (c := c) (l := l) (st := st) (sk := sk) (re := re) (fe := fe) (ag := ag) (n1 := n1) x))
   have HTh := Lib.hid (thN_new wr 125)
   have HBf := Lib.hid (List.mem_of_getElem? hx)
   obtain ⟨sb, hsb⟩ : ∃ sb, sameB x.1.q.xs q.xs x.1.q.ys q.ys x.1.q.pl q.pl = sb := ⟨_, rfl⟩
   have HNx := Lib.hid (cntP_next hx1 hsb)
   have Hsb := Lib.hid hsb
   obtain ⟨cn, hcn⟩ : ∃ cn, cntP q.pl q.xs q.ys ((L.map (fun x => x.1.q)).take k) = cn := ⟨_, rfl⟩
   rw [hcn] at HNx hc1
   rw [hcn]
   have k0 : (0 : Int) ≤ (k : Int) := by omega
   have kq : (k : Int) < (N : Int) := by omega
   have c0 : (0 : Int) ≤ (cn : Int) := by omega
   have cq : (cn : Int) ≤ 120 := by omega
   clear hx hx1 hsb hcn
   go_upto_region 5 with (first | (refine wpList_load_mid rfl 125 _ rfl g _ rfl _ _ (HRg.out _ (by simp)) Tryz.underlying125 rfl (by kernel_rfl) ?_) | (refine wpList_store_mid rfl 125 _ _ rfl wr.heap.size 0 (cells21 p s c l st sk re fe ag n1 x).toArray rfl rfl HTh.out.th (by kernel_rfl) HOne.out ?_))
   generalize hX : World.setCells _ _ _ _ = X
   have hM := b21_put _ _ _ _ _ _ _ _ _ 125 hX.symm
   have HM := Lib.hid hM.1
   have HPX := Lib.hid (HPr.out.below hM.2)
   have HBX := Lib.hid (Below.trans Hbw.out (hM.2.mono Hbw.out.size))
   generalize wr.heap.size = M at *
   clear hX hM
   have HTT : Hid (∀ v : World, B21 wr M (some ⟨x.2.a1, 0, none⟩) n1 x.2.ca1 (some ⟨x.2.a2, 0, none⟩) x.2.ca2 x.1.q.pl v → PlK w pb p s c l st sk re fe ag n1 b1 e1 b2 e2 sp sx sy v1 (.slice (some ⟨g, 0, none⟩) L.length tc) ms L h1 d1 h2 d2 q rg R v → (M < v.heap.size ∧ v.cell? ⟨M, 14, none⟩ = some (.slice (some ⟨x.2.a1, 0, none⟩) n1 x.2.ca1) ∧ v.cell? ⟨M, 15, none⟩ = some (.slice (some ⟨x.2.a2, 0, none⟩) 2 x.2.ca2) ∧ v.cell? ⟨M, 16, none⟩ = some (.int .i64 x.1.q.pl)) ∧ (pb < v.heap.size ∧ v.cell? ⟨pb, 13, none⟩ = some (.slice (some ⟨h1, 0, none⟩) n1 d1) ∧ v.cell? ⟨pb, 14, none⟩ = some (.slice (some ⟨h2, 0, none⟩) 2 d2) ∧ v.cell? ⟨pb, 15, none⟩ = some (.int .i64 q.pl))) := Lib.hid (fun v h k => ⟨h, k.now⟩)
   have HSm : Hid (∀ v : World, PlK w pb p s c l st sk re fe ag n1 b1 e1 b2 e2 sp sx sy v1 (.slice (some ⟨g, 0, none⟩) L.length tc) ms L h1 d1 h2 d2 q rg R v → Calls Tryz.prog 97 #[.agg #[.slice (some ⟨x.2.a1, 0, none⟩) n1 x.2.ca1, .slice (some ⟨x.2.a2, 0, none⟩) 2 x.2.ca2, .int .i64 x.1.q.pl], .agg #[.slice (some ⟨h1, 0, none⟩) n1 d1, .slice (some ⟨h2, 0, none⟩) 2 d2, .int .i64 q.pl]] v fun e w' => e = .returned (.bool sb) ∧ Below v.heap.size v w') := Lib.hid (fun v k => by rw [← Hsb.out]; exact implSame_any _ _ _ _ _ _ _ _ _ _ _ _ _ _ _ _ _ _ v (k.bef HBf.out) k.nr)
   cases sb
   all_goals
    go_region_held3 (fun v => (M < v.heap.size ∧ v.cell? ⟨M, 14, none⟩ = some (.slice (some ⟨x.2.a1, 0, none⟩) n1 x.2.ca1) ∧ v.cell? ⟨M, 15, none⟩ = some (.slice (some ⟨x.2.a2, 0, none⟩) 2 x.2.ca2) ∧ v.cell? ⟨M, 16, none⟩ = some (.int .i64 x.1.q.pl)) ∧ (pb < v.heap.size ∧ v.cell? ⟨pb, 13, none⟩ = some (.slice (some ⟨h1, 0, none⟩) n1 d1) ∧ v.cell? ⟨pb, 14, none⟩ = some (.slice (some ⟨h2, 0, none⟩) 2 d2) ∧ v.cell? ⟨pb, 15, none⟩ = some (.int .i64 q.pl))) (first | with_reducible exact HTT.out _ HM.out HPX.out | with_reducible exact HTT.out _ (HM.out.below (Below.refl _ _).drew) HPX.out.drew)
     ((go_at_call 97; (with_reducible refine (HSm.out _ ?_).mono ?_); (first | with_reducible exact HPX.out | with_reducible exact HPX.out.drew); rintro e w6 ⟨rfl, hb⟩; (first | with_reducible have HM := Lib.hid (HM.out.below hb) | with_reducible have HM := Lib.hid ((HM.out.below (Below.refl _ _).drew).below hb)); (first | with_reducible have HPX := Lib.hid (HPX.out.below hb) | with_reducible have HPX := Lib.hid (HPX.out.drew.below hb)); (first | with_reducible have HBX := Lib.hid (Below.trans HBX.out (hb.mono HBX.out.size)) | with_reducible have HBX := Lib.hid (Below.trans HBX.out.drew (hb.mono HBX.out.drew.size))); clear hb))
    go_wp2_with fail
    go_roundw
    case rel => exact ⟨k + 1, by go_num, by rw [HNx.out]; go_num, by omega, HBX.out⟩
    case measure => simp [intOf]; omega
  ·obtain rfl : k = N := by omega
   rw [List.take_of_length_le (by rw [List.length_map, ← HN.out]; exact Nat.le_refl _)] at hc1
   rw [List.take_of_length_le (by rw [List.length_map, ← HN.out]; exact Nat.le_refl _)]
   obtain ⟨cn, hcn⟩ : ∃ cn : Int, (cntP q.pl q.xs q.ys (L.map (fun x => x.1.q)) : Int) = cn := ⟨_, rfl⟩
   rw [hcn]
   go_wp2_with fail
   go_ret
   exact ⟨by rw [hcn]; rfl, by first | exact Hbw.out | exact below_dn Hbw.out _⟩
/- RpO -/
theorem PlK.move {w u : World} {pb : Nat} {p s c l : Int} {st sk re fe ag : Bool} {n1 b1 e1 b2 e2 : Nat} {sp : Int} {sx sy : List Int} {v1 v2 : Value} {ms : List Int} {L : List (T21 × Q21)} {h1 d1 h2 d2 : Nat} {q : Ps} {rg : Int} {R : List (Nat × List Int)}
  (h : PlK w pb p s c l st sk re fe ag n1 b1 e1 b2 e2 sp sx sy v1 v2 ms L h1 d1 h2 d2 q rg R u) (T : TypeId) (X : World) (hX : X = (u.alloc (.cells #[.int .i64 0, .int .i64 0, .bool false, .bool false, .bool false, .bool false, .bool false, .int .i64 0, .int .i64 0, .slice none 0 0, .slice none 0 0, .int .i64 0, .slice none 0 0, .slice none 0 0, .slice none 0 0, .int .i64 0, .int .i64 0, .slice none 0 0] T)).setCells u.heap.size 0 (vals18 p s c l st sk re fe ag n1 b1 e1 b2 e2 sp v1 v2 h1 d1 h2 d2 q.pl rg)) :
  PlK w u.heap.size p s c l st sk re fe ag n1 b1 e1 b2 e2 sp sx sy v1 v2 ms L h1 d1 h2 d2 q rg R X ∧ Below u.heap.size u X := by
 have hr := World.rangeAt_setCells_same (u.alloc (.cells #[.int .i64 0, .int .i64 0, .bool false, .bool false, .bool false, .bool false, .bool false, .int .i64 0, .int .i64 0, .slice none 0 0, .slice none 0 0, .int .i64 0, .slice none 0 0, .slice none 0 0, .slice none 0 0, .int .i64 0, .int .i64 0, .slice none 0 0] T)) u.heap.size 0 (vals18 p s c l st sk re fe ag n1 b1 e1 b2 e2 sp v1 v2 h1 d1 h2 d2 q.pl rg) (there18 u T)
 rw [← hX] at hr
 have hbe : Below u.heap.size u X := by rw [hX]; exact below_scg u.heap.size (Nat.le_refl _) _ 0 (al1 u _)
 have hsz : X.heap.size = u.heap.size + 1 := by rw [hX, size_scg]; simp
 have hfr : ∀ o, X.frozen? ⟨u.heap.size, o, none⟩ = false := fun o => by rw [hX, fr_sc]; go_simp
 refine ⟨⟨⟨by omega, hr 0 _ rfl, hr 1 _ rfl, hr 2 _ rfl, hr 3 _ rfl, hr 4 _ rfl, hr 5 _ rfl, hr 6 _ rfl, hr 7 _ rfl, hr 8 _ rfl, hr 9 _ rfl, hr 10 _ rfl, hr 11 _ rfl, hr 12 _ rfl, hr 13 _ rfl, hr 14 _ rfl, hr 15 _ rfl, hr 16 _ rfl, hfr⟩, hr 17 _ rfl, own_keepS h.mo hbe, own_keepS h.tu hbe, fun y hy => ?_, h.sv, fun i hi => ?_, fun i hi => ?_, h.it, h.s1, h.s2, h.y1, h.y2, h.di, h.m1, h.m2, h.m3, h.m4, h.k1, h.k2, h.k3, h.k4, h.be.size, h.be.trans (hbe.mono h.be.size)⟩, hbe⟩
 ·have r := h.rws y hy
  have := r.lt
  exact ⟨r.o.below hbe, by omega, by omega, r.n1, r.n2⟩
 ·have := (own_lt h.mo i hi).2
  omega
 ·have := (own_lt h.tu i hi).2
  omega
theorem sameB_parts {xs nx ys ny : List Int} {pl bp : Int} (h : sameB xs nx ys ny pl bp = true) : xs = nx ∧ ys = ny ∧ pl = bp := by
 unfold sameB at h
 simp only [Bool.and_eq_true, decide_eq_true_eq, beq_iff_eq] at h
 exact ⟨h.1.1, h.1.2, h.2⟩
theorem okG_parts {p s c l : Int} {st sk re fe ag : Bool} {n1 n2 : Nat} {pp : Int} {xs ys ms : List Int} {bp : Int} {nx ny : List Int} {rg : Int} (h : okG p s c l st sk re fe ag n1 n2 pp xs ys ms bp nx ny rg = true) :
  okP (okR p s c l st ag) p n1 n2 pp xs ys = true ∧ ms.length ≤ 120 ∧ (-1 ≤ rg ∧ rg ≤ 1) ∧ ∃ rs, runO (stp p c l st sk re fe ag) ⟨pp, xs, ys⟩ ms = some rs ∧ (lastP ⟨pp, xs, ys⟩ rs).xs = nx ∧ (lastP ⟨pp, xs, ys⟩ rs).ys = ny ∧ (lastP ⟨pp, xs, ys⟩ rs).pl = bp := by
 unfold okG at h
 simp only [Bool.and_eq_true, decide_eq_true_eq] at h
 obtain ⟨⟨⟨h1, h2⟩, h3⟩, h4⟩ := h
 refine ⟨h1, h2, h3, ?_⟩
 unfold runB at h4
 cases e : runO (stp p c l st sk re fe ag) ⟨pp, xs, ys⟩ ms with
 | none => rw [e] at h4; cases h4
 | some rs =>
  rw [e] at h4
  exact ⟨rs, rfl, sameB_parts h4⟩
theorem rep_eq {p s c l : Int} {st sk re fe ag : Bool} {n1 n2 : Nat} {pp : Int} {xs ys ms : List Int} {bp : Int} {nx ny : List Int} {rg : Int} {rs : List R7} {q : Ps} {qs : List Ps} (h : okG p s c l st sk re fe ag n1 n2 pp xs ys ms bp nx ny rg = true) (hro : runO (stp p c l st sk re fe ag) ⟨pp, xs, ys⟩ ms = some rs) (hq : q = lastP ⟨pp, xs, ys⟩ rs) (hL : qs ++ [q] = (⟨pp, xs, ys⟩ : Ps) :: rs.map R7.ps) :
  repV (stp p c l st sk re fe ag) ⟨pp, xs, ys⟩ ms bp nx ny = 1 + (cntP q.pl q.xs q.ys qs : Int) := by
 obtain ⟨-, -, -, rs', e1, e2, e3, e4⟩ := okG_parts h
 rw [hro] at e1
 cases e1
 rw [← hq] at e2 e3 e4
 unfold repV
 rw [hro]
 show ((cntP bp nx ny (_ :: rs.map R7.ps) : Nat) : Int) = _
 rw [← hL, ← e2, ← e3, ← e4, cntP_snoc, if_pos (by unfold sameB; simp)]
 omega
/- Ri7 -/
structure AiJ (w : World) (p s c l : Int) (st sk re fe ag : Bool) (p1 p2 : Option Addr) (pn1 pc1 pn2 pc2 : Nat) (pp : Int) (xs ys : List Int) (k : Nat) (v : Value) (wr : World) : Prop where
 ex : ∃ L, Rs7 wr (w.heap.size + 2) v L ∧ L.map Prod.fst = rsF (f7 p c l pp st sk re fe ag xs ys) k
 rp : RpAt w p s c l st sk re fe ag p1 p2 pn1 pc1 pn2 pc2 pp wr
def RsC (rs : List R7) (w : World) (e : Ending) (w' : World) : Prop := ∃ v L, e = .returned (.tuple #[v, .int .i64 0]) ∧ Rs7 w' w.heap.size v L ∧ L.map Prod.fst = rs ∧ Below w.heap.size w w'
theorem mkF_w {w w2 U W : World} {p s c l : Int} {st sk re fe ag : Bool} {pp : Int} {s1 s2 : Option Addr} {pn1 sc1 sc2 : Nat} {p1 p2 : Option Addr} {pc1 pc2 : Nat} {m : Res} {M g1 k1 g2 k2 : Nat} (h : MkF w U p s c l st sk re fe ag pp s1 s2 pn1 sc1 sc2 p1 p2 pc1 pc2 m M g1 k1 g2 k2 W) : MkF w2 U p s c l st sk re fe ag pp s1 s2 pn1 sc1 sc2 p1 p2 pc1 pc2 m M g1 k1 g2 k2 W :=
 ⟨h.rg, h.lt, h.ge, h.be, h.ho, h.l1, h.l2, h.h1, h.h2⟩
theorem RpAt.grown {w u v : World} {p s c l : Int} {st sk re fe ag : Bool} {p1 p2 : Option Addr} {pn1 pc1 pn2 pc2 : Nat} {pp : Int} {row : Option Nat} (h : RpAt w p s c l st sk re fe ag p1 p2 pn1 pc1 pn2 pc2 pp u) (hg : u.grownBy v row) (hr : ∀ k, row = some k → w.heap.size + 2 ≤ k) : RpAt w p s c l st sk re fe ag p1 p2 pn1 pc1 pn2 pc2 pp v := by
 obtain ⟨b, hb, hk⟩ : ∃ b, w.heap.size + 2 ≤ b ∧ But b u v := by
  cases row with
  | none => exact ⟨w.heap.size + 2, Nat.le_refl _, but_grown hg (fun k h => by cases h)⟩
  | some b => exact ⟨b, hr b rfl, but_grown hg (fun k h => by cases h; rfl)⟩
 exact ⟨h.1.but hk (by omega), h.2.1.but hk (by omega), But.lift h.2.2 hk (by omega)⟩
theorem range_grown {u v : World} {M : Nat} {cs : List Value} {row : Option Nat} (h : u.rangeAt M 0 cs) (hM : M < u.heap.size) (hg : u.grownBy v row) (hr : ∀ k, row = some k → k ≠ M) : v.rangeAt M 0 cs :=
 fun j x hj => (World.cell?_of_block (a := ⟨M, 0 + j, none⟩) (hg.block M hM (fun e => hr _ e.symm rfl))).trans (h j x hj)
theorem Rs7.lower {u : World} {B C : Nat} {x : Value} {L : List (R7 × Q7)} (h : Rs7 u B x L) (hc : C ≤ B) : Rs7 u C x L := by
 refine ⟨?_, fun y hy => ⟨(h.it y hy).o.lower hc, (h.it y hy).l1, (h.it y hy).l2, (h.it y hy).k1, (h.it y hy).k2⟩, h.ne, h.pw⟩
 obtain ⟨h1, h2 | ⟨g, cap, cur, hv, hb, hr⟩⟩ := h.own
 ·exact ⟨h1, .inl h2⟩
 ·exact ⟨h1, .inr ⟨g, cap, cur, hv, Nat.le_trans hc hb, hr⟩⟩
theorem implRes_no (p s c l : Int) (st sk re fe ag : Bool) (p1 p2 : Option Addr) (pn1 pc1 pn2 pc2 : Nat) (pp : Int) (xs ys : List Int) (w : World) (h : PosR w p1 p2 pn1 pn2 xs ys) (hk : okP (okR p s c l st ag) p pn1 pn2 pp xs ys = false) :
  Calls Tryz.prog 153 #[.agg #[.int .i64 p, .int .i64 s, .bool st, .bool sk, .bool re, .bool fe, .bool ag, .int .i64 c, .int .i64 l], .agg #[.slice p1 pn1 pc1, .slice p2 pn2 pc2, .int .i64 pp]] w fun e w' => e = .returned (.tuple #[.slice none 0 0, .int .i64 1]) ∧ Below w.heap.size w w' := by
 have HS := Lib.hid (rp_new p s c l st sk re fe ag p1 p2 pn1 pc1 pn2 pc2 pp w 32 33)
 have H0 := Lib.hid h
 have Hk := Lib.hid hk
 clear h hk
 go_enter Tryz.func153, Tryz.ntmps153
 go_wp2_with fail
 refine (implValid_any p s c l st sk re fe ag p1 p2 pn1 pc1 pn2 pc2 pp xs ys _ (H0.out.below HS.out.2.2)).mono ?_
 rintro e w5 ⟨rfl, hb⟩
 rw [Hk.out]
 have HS := Lib.hid (HS.out.below hb)
 clear hb
 go_wp2_with fail
 go_ret2
 exact ⟨rfl, HS.out.2.2⟩
theorem implRes_yes (p s c l : Int) (st sk re fe ag : Bool) (p1 p2 : Option Addr) (pn1 pc1 pc2 : Nat) (pp : Int) (xs ys : List Int) (w : World) (h : PosR w p1 p2 pn1 2 xs ys) (hcap : pn1 ≤ pc1) (hk : okP (okR p s c l st ag) p pn1 2 pp xs ys = true) :
  Calls Tryz.prog 153 #[.agg #[.int .i64 p, .int .i64 s, .bool st, .bool sk, .bool re, .bool fe, .bool ag, .int .i64 c, .int .i64 l], .agg #[.slice p1 pn1 pc1, .slice p2 2 pc2, .int .i64 pp]] w (RsC (rsF (f7 p c l pp st sk re fe ag xs ys) p.toNat) w) := by
 obtain ⟨q1, -⟩ := okP_parts hk
 obtain ⟨r1, r2, -⟩ := okR_bd q1
 obtain ⟨-, hpl⟩ := pl_of_ok hk
 obtain ⟨P, rfl⟩ : ∃ P : Nat, p = (P : Int) := ⟨p.toNat, by omega⟩
 rw [Int.toNat_natCast]
 have hP8 : P ≤ 8 := by omega
 obtain ⟨i0, hi, hz0, hz1, hz2⟩ := info_parts infoR
 have HS := Lib.hid (rp_new (P : Int) s c l st sk re fe ag p1 p2 pn1 pc1 2 pc2 pp w 32 33)
 have H0 := Lib.hid h
 have Hk := Lib.hid hk
 have Hpl := Lib.hid hpl
 clear h hk q1 hpl
 go_enter Tryz.func153, Tryz.ntmps153
 go_wp2_with fail
 refine (implValid_any (P : Int) s c l st sk re fe ag p1 p2 pn1 pc1 2 pc2 pp xs ys _ (H0.out.below HS.out.2.2)).mono ?_
 rintro e w5 ⟨rfl, hb⟩
 rw [Hk.out]
 have HJ0 : Hid (AiJ w (P : Int) s c l st sk re fe ag p1 p2 pn1 pc1 2 pc2 pp xs ys 0 (.slice none 0 0) w5) := Lib.hid ⟨⟨[], rs7_nil _ _, rfl⟩, HS.out.below hb⟩
 obtain ⟨⟨_, g0, -, -, -, -, -, -, -, -⟩, -, -⟩ := HJ0.out.rp
 clear hb HS
 go_wp2_with fail
 clear g0
 go_loopw [6, 16] (fun v i wr => ∃ k : Nat, i = .int .i64 k ∧ k ≤ P ∧ AiJ w (P : Int) s c l st sk re fe ag p1 p2 pn1 pc1 2 pc2 pp xs ys k v wr) (fun _ i _ => P - (intOf i).toNat)
 case atStart => exact ⟨0, rfl, Nat.zero_le _, HJ0.out⟩
 case round =>
  obtain ⟨k, rfl, hkP, hJ⟩ := hrel
  have HJ := Lib.hid hJ
  clear hJ HJ0
  by_cases hlt : k < P
  ·have HM := Lib.hid (makeL_any (P : Int) s c l st sk re fe ag p1 p2 pn1 pc1 2 pc2 pp xs ys (k : Int) wr (H0.out.below HJ.out.rp.2.2) hcap true Hk.out)
   have hf : f7 (P : Int) c l pp st sk re fe ag xs ys k = (lgV c l (P : Int) pp fe xs (mvV true (P : Int) pp st sk re xs ys (k : Int))).map (r7V c l (P : Int) pp ag ys (k : Int)) := rfl
   have HF := Lib.hid hf
   obtain ⟨⟨_, g0, g1', g2', g3, g4, g5, g6, g7, g8⟩, ⟨_, t0, t1, t2⟩, -⟩ := HJ.out.rp
   cases hl : lgV c l (P : Int) pp fe xs (mvV true (P : Int) pp st sk re xs ys (k : Int)) with
   | none =>
    have d := lg_none (s := s) (ag := ag) Hk.out H0.out.l1 hl
    rw [hl] at HM HF
    have HM := Lib.hid (HM.out.mono (fun _ _ q => MkQ.d (P : Int) s c l st sk re fe ag q))
    generalize lgC c l (P : Int) pp fe xs (mvCd true (P : Int) pp st sk re xs ys (k : Int)) (mvV true (P : Int) pp st sk re xs ys (k : Int)) = cd at *
    have HN : Hid (rsF (f7 (P : Int) c l pp st sk re fe ag xs ys) (k + 1) = rsF (f7 (P : Int) c l pp st sk re fe ag xs ys) k) := Lib.hid (by show _ ++ _ = _; rw [HF.out]; simp)
    clear hf hl HF
    go_upto_region 7 with fail
    go_cut [9] from 17 to 39 (fun s9 wx => s9 = .int .i64 cd ∧ AiJ w (P : Int) s c l st sk re fe ag p1 p2 pn1 pc1 2 pc2 pp xs ys (k + 1) u6 wx)
    case first =>
     go_wp2_with fail
     refine HM.out.mono ?_
     rintro e w5 ⟨pz, sz, cz, lz, stz, skz, rez, fez, agz, playerz, s1z, s2z, sn1z, sc1z, sn2z, sc2z, spz, sqz, p1z, p2z, pn1z, pc1z, pn2z, pc2z, ppz, t1z, t2z, tn1z, tc1z, tn2z, tc2z, tpz, tqz, rfl, hb⟩
     have HJ : Hid (AiJ w (P : Int) s c l st sk re fe ag p1 p2 pn1 pc1 2 pc2 pp xs ys (k + 1) u6 ((w5.alloc (.cells zero21.toArray 125)).setCells w5.heap.size 0 [.int .i64 pz, .int .i64 sz, .bool stz, .bool skz, .bool rez, .bool fez, .bool agz, .int .i64 cz, .int .i64 lz, .int .i64 playerz, .slice s1z sn1z sc1z, .slice s2z sn2z sc2z, .int .i64 spz, .int .i64 sqz, .slice p1z pn1z pc1z, .slice p2z pn2z pc2z, .int .i64 ppz, .slice t1z tn1z tc1z, .slice t2z tn2z tc2z, .int .i64 tpz, .int .i64 tqz])) := Lib.hid (by
      obtain ⟨⟨L, hL, hm⟩, h1⟩ := HJ.out
      have hb2 := below_sc w5.heap.size hb.size [.int .i64 pz, .int .i64 sz, .bool stz, .bool skz, .bool rez, .bool fez, .bool agz, .int .i64 cz, .int .i64 lz, .int .i64 playerz, .slice s1z sn1z sc1z, .slice s2z sn2z sc2z, .int .i64 spz, .int .i64 sqz, .slice p1z pn1z pc1z, .slice p2z pn2z pc2z, .int .i64 ppz, .slice t1z tn1z tc1z, .slice t2z tn2z tc2z, .int .i64 tpz, .int .i64 tqz] 0 (Below.alloc hb hb.size (.cells zero21.toArray 125))
      exact ⟨⟨L, hL.below hb2, by rw [HN.out]; exact hm⟩, h1.below hb2⟩)
     clear hb g0 g1' g2' g3 g4 g5 g6 g7 g8 t0 t1 t2
     go_wp2_with (refine wpList_store_mid rfl 125 _ _ rfl w5.heap.size 0 (List.toArray [.int .i64 pz, .int .i64 sz, .bool stz, .bool skz, .bool rez, .bool fez, .bool agz, .int .i64 cz, .int .i64 lz, .int .i64 playerz, .slice s1z sn1z sc1z, .slice s2z sn2z sc2z, .int .i64 spz, .int .i64 sqz, .slice p1z pn1z pc1z, .slice p2z pn2z pc2z, .int .i64 ppz, .slice t1z tn1z tc1z, .slice t2z tn2z tc2z, .int .i64 tpz, .int .i64 tqz]) rfl rfl (thN_new w5 125).th (by kernel_rfl) (mm_one pz sz cz lz stz skz rez fez agz playerz s1z s2z sn1z sc1z sn2z sc2z spz sqz p1z p2z pn1z pc1z pn2z pc2z ppz t1z t2z tn1z tc1z tn2z tc2z tpz tqz) ?_)
     go_meet
     exact ⟨rfl, HJ.out⟩
    case rest =>
     obtain ⟨rfl, hJ⟩ := hcut
     have HJ := Lib.hid hJ
     clear hJ HM g0 g1' g2' g3 g4 g5 g6 g7 g8 t0 t1 t2
     go_wp2_with fail
     go_roundw
     case rel => exact ⟨k + 1, by go_num, by omega, HJ.out⟩
     case measure => simp [intOf]; omega
   | some m =>
    obtain ⟨hm, hc0⟩ := lg_some (cd := mvCd true (P : Int) pp st sk re xs ys (k : Int)) hl
    obtain ⟨-, -, -, -, fin⟩ := mvV_fin Hk.out H0.out.l1 H0.out.l2 hm
    have HG := Lib.hid (good_fin (t := 0) (P : Int) s c l st sk re fe ag Hk.out fin)
    rw [hl, hc0] at HM
    rw [hl] at HF
    have HN : Hid (rsF (f7 (P : Int) c l pp st sk re fe ag xs ys) (k + 1) = rsF (f7 (P : Int) c l pp st sk re fe ag xs ys) k ++ [r7V c l (P : Int) pp ag ys (k : Int) m]) := Lib.hid (by show _ ++ _ = _; rw [HF.out]; rfl)
    clear hf hl HF hm hc0 fin
    go_upto_region 7 with fail
    go_cut [8, 9] from 17 to 39 (fun s8 s9 wx => ∃ (s1 s2 : Option Addr) (sc1 sc2 M g1 k1 g2 k2 : Nat), s8 = .pointer (some ⟨M, 0, none⟩) ∧ s9 = .int .i64 0 ∧ MkF w wr (P : Int) s c l st sk re fe ag pp s1 s2 pn1 sc1 sc2 p1 p2 pc1 pc2 m M g1 k1 g2 k2 wx)
    case first =>
     go_wp2_with fail
     refine HM.out.mono ?_
     rintro e w5 ⟨s1, s2, sc1, sc2, g1, k1, g2, k2, rfl, ho, hl1, hl2, hc1, hc2, hb⟩
     have HF := Lib.hid (mkF_new (P : Int) s c l st sk re fe ag (s1 := s1) (s2 := s2) (sc1 := sc1) (sc2 := sc2) (p1 := p1) (p2 := p2) (pc1 := pc1) (pc2 := pc2) 125 hb ho hl1 hl2 hc1 hc2)
     clear hb ho hl1 hl2 hc1 hc2 g0 g1' g2' g3 g4 g5 g6 g7 g8 t0 t1 t2
     go_wp2_with (refine wpList_store_mid rfl 125 _ _ rfl w5.heap.size 0 (List.toArray [.int .i64 (P : Int), .int .i64 s, .bool st, .bool sk, .bool re, .bool fe, .bool ag, .int .i64 c, .int .i64 l, .int .i64 pp, .slice s1 pn1 sc1, .slice s2 2 sc2, .int .i64 m.last, .int .i64 m.laps, .slice p1 pn1 pc1, .slice p2 2 pc2, .int .i64 pp, .slice (some ⟨g1, 0, none⟩) pn1 k1, .slice (some ⟨g2, 0, none⟩) 2 k2, .int .i64 m.last, .int .i64 m.laps]) rfl rfl (thN_new w5 125).th (by kernel_rfl) (mm_one (P : Int) s c l st sk re fe ag pp s1 s2 pn1 sc1 2 sc2 m.last m.laps p1 p2 pn1 pc1 2 pc2 pp (some ⟨g1, 0, none⟩) (some ⟨g2, 0, none⟩) pn1 k1 2 k2 m.last m.laps) ?_)
     go_meet
     exact ⟨s1, s2, sc1, sc2, w5.heap.size, g1, k1, g2, k2, rfl, rfl, mkF_w HF.out⟩
    case rest =>
     obtain ⟨s1, s2, sc1, sc2, M, g1, k1, g2, k2, rfl, rfl, hF⟩ := hcut
     have HF := Lib.hid hF
     clear hF g0 g1' g2' g3 g4 g5 g6 g7 g8 t0 t1 t2 HM
     go_upto_region 9 with fail
     have hgw := HF.out.ge
     obtain ⟨L, hL, hLm⟩ := HJ.out.ex
     have HL0 := Lib.hid hL
     have HLm := Lib.hid hLm
     have hLk : L.length ≤ k := by
      have h1 := rsF_len (f7 (P : Int) c l pp st sk re fe ag xs ys) k
      rw [← hLm, List.length_map] at h1
      exact h1
     have hwr : w.heap.size ≤ wr.heap.size := HJ.out.rp.2.2.size
     have HF := Lib.hid (HF.out.below (Below.refl _ _).drew)
     have hyb := (HG.out.1.tk HG.out.2.1 HG.out.2.2)
     have hv0 := posB_getD hyb.2.1 pp.toNat
     have hv1 := getD_le hyb.2.1 pp.toNat
     have hv2 := posB_tot hyb.1
     have hy0 := posB_getD (seedB_parts (okP_parts Hk.out).2.2.2.2).2.1 pp.toNat
     have hy1 := getD_le (seedB_parts (okP_parts Hk.out).2.2.2.2).2.1 pp.toNat
     have hy2 := posB_tot (seedB_parts (okP_parts Hk.out).2.2.2.2).1
     have hy3 := (seedB_parts (okP_parts Hk.out).2.2.2.2).2.2
     have hx3 := HG.out.1.q3
     have HY := Lib.hid (show (0 ≤ (tkY c l (P : Int) pp m.last m.xs m.ys).getD pp.toNat 0 ∧ (tkY c l (P : Int) pp m.last m.xs m.ys).getD pp.toNat 0 ≤ 1000000) ∧ 0 ≤ ys.getD pp.toNat 0 ∧ ys.getD pp.toNat 0 ≤ 1000000 from ⟨⟨by omega, by omega⟩, by omega, by omega⟩)
     clear hyb hv0 hv1 hv2 hy0 hy1 hy2 hy3 hx3 hL hLm
     obtain ⟨nx, hnx⟩ : ∃ x, nxV ag pp m = x := ⟨_, rfl⟩
     obtain ⟨gn, hgn⟩ : ∃ x, gnV c l (P : Int) pp ys m = x := ⟨_, rfl⟩
     obtain ⟨bA, hbA⟩ : ∃ x, agV ag m = x := ⟨_, rfl⟩
     have HNx := Lib.hid hnx
     have HGn := Lib.hid hgn
     have HBA := Lib.hid hbA
     clear hnx hgn hbA
     refine wp_region_held_drew (S := fun u => u.rangeAt M 0 [.int .i64 (P : Int), .int .i64 s, .bool st, .bool sk, .bool re, .bool fe, .bool ag, .int .i64 c, .int .i64 l, .int .i64 pp, .slice s1 pn1 sc1, .slice s2 2 sc2, .int .i64 m.last, .int .i64 m.laps, .slice p1 pn1 pc1, .slice p2 2 pc2, .int .i64 pp, .slice (some ⟨g1, 0, none⟩) pn1 k1, .slice (some ⟨g2, 0, none⟩) 2 k2, .int .i64 m.last, .int .i64 m.laps]) (by kernel_rfl) HF.out.rg (fun hHeld => ?_)
     refine wpAnyH_take (i := 0) (oi := { dst := some 28, op := Op.move (Operand.tmp 6), type := 147, pos := "l07_moves.go:120", after := #[], guard := none }) (v := u6) rfl (by kernel_rfl) (by kernel_rfl) (by kernel_rfl) (fun _ _ _ h => h) (.inl ⟨by rfl, fun u hu => by go_simp⟩) hHeld ?_
     simp only [Act.put, List.setIfInBounds_toArray, List.set_cons_zero, List.set_cons_succ]
     refine wpAnyH_take (i := 1) (oi := { dst := some 29, op := Op.move (Operand.tmp 7), type := 2, pos := "l07_moves.go:120", after := #[], guard := none }) (v := .int .i64 (k : Int)) rfl (by kernel_rfl) (by kernel_rfl) (by kernel_rfl) (fun _ _ _ h => h) (.inl ⟨by rfl, fun u hu => by go_simp⟩) hHeld ?_
     simp only [Act.put, List.setIfInBounds_toArray, List.set_cons_zero, List.set_cons_succ]
     refine wpAnyH_take (i := 2) rfl (by kernel_rfl) (by kernel_rfl) (by kernel_rfl) (fun _ _ _ h => h) (yieldsIf_load_mid (by rfl) 125 _ rfl M 0 rfl [.int .i64 (P : Int), .int .i64 s, .bool st, .bool sk, .bool re, .bool fe, .bool ag, .int .i64 c, .int .i64 l, .int .i64 pp, .slice s1 pn1 sc1, .slice s2 2 sc2, .int .i64 m.last, .int .i64 m.laps, .slice p1 pn1 pc1, .slice p2 2 pc2, .int .i64 pp, .slice (some ⟨g1, 0, none⟩) pn1 k1, .slice (some ⟨g2, 0, none⟩) 2 k2, .int .i64 m.last, .int .i64 m.laps] _ (fun u hu => hu) Tryz.underlying125 rfl (by kernel_rfl)) hHeld ?_
     simp only [Act.put, List.setIfInBounds_toArray]
     refine wpAnyH_take (i := 4) rfl (by kernel_rfl) (by kernel_rfl) (by kernel_rfl) (fun _ _ _ h => h) (yieldsIf_load_mid (by rfl) 125 _ rfl M 0 rfl [.int .i64 (P : Int), .int .i64 s, .bool st, .bool sk, .bool re, .bool fe, .bool ag, .int .i64 c, .int .i64 l, .int .i64 pp, .slice s1 pn1 sc1, .slice s2 2 sc2, .int .i64 m.last, .int .i64 m.laps, .slice p1 pn1 pc1, .slice p2 2 pc2, .int .i64 pp, .slice (some ⟨g1, 0, none⟩) pn1 k1, .slice (some ⟨g2, 0, none⟩) 2 k2, .int .i64 m.last, .int .i64 m.laps] _ (fun u hu => hu) Tryz.underlying125 rfl (by kernel_rfl)) hHeld ?_
     simp only [Act.put]
     refine wpAnyH_take (i := 6) rfl (by kernel_rfl) (by kernel_rfl) (by kernel_rfl) (fun _ _ _ h => h) (yieldsIf_load_mid (by rfl) 125 _ rfl M 0 rfl [.int .i64 (P : Int), .int .i64 s, .bool st, .bool sk, .bool re, .bool fe, .bool ag, .int .i64 c, .int .i64 l, .int .i64 pp, .slice s1 pn1 sc1, .slice s2 2 sc2, .int .i64 m.last, .int .i64 m.laps, .slice p1 pn1 pc1, .slice p2 2 pc2, .int .i64 pp, .slice (some ⟨g1, 0, none⟩) pn1 k1, .slice (some ⟨g2, 0, none⟩) 2 k2, .int .i64 m.last, .int .i64 m.laps] _ (fun u hu => hu) Tryz.underlying125 rfl (by kernel_rfl)) hHeld ?_
     simp only [Act.put]
     refine wpAnyH_ready (rs := [3]) (by kernel_rfl) (by simp) ?_
     refine AllReadyH.cons rfl (fun K hK => ?_) AllReadyH.nil
     rw [if_pos (by rfl)]
     go_simp
     go_at_call 171
     refine ((gain_any (P : Int) s c l st sk re fe ag pp s1 s2 pn1 sc1 2 sc2 m.last m.laps p1 p2 pn1 pc1 2 pc2 pp (some ⟨g1, 0, none⟩) (some ⟨g2, 0, none⟩) pn1 k1 2 k2 m.last m.laps (tkY c l (P : Int) pp m.last m.xs m.ys) ys _ Hpl.out HF.out.ho.o2.row ((H0.out.below HJ.out.rp.2.2).below HF.out.be).r2 (tkY_len.trans HG.out.2.2) H0.out.l2 rfl rfl HY.out.1 HY.out.2).mono (fun e w' h => (show e = .returned (.int .i64 (gnV c l (P : Int) pp ys m)) ∧ _ from h))).mono ?_
     rw [HGn.out]
     rintro e w7 ⟨rfl, hb7⟩
     have HF := Lib.hid (HF.out.below hb7)
     clear hb7
     dsimp only
     refine hK.out _ _ (HF.out.rg) (fun hHeld => ?_)
     clear hK K
     (try simp only [Act.put, List.setIfInBounds_toArray, List.set_cons_zero, List.set_cons_succ])
     refine wpAnyH_ready (rs := [5]) (by kernel_rfl) (by simp) ?_
     refine AllReadyH.cons rfl (fun K hK => ?_) AllReadyH.nil
     rw [if_pos (by rfl)]
     go_simp
     go_at_call 144
     refine ((again_any (P : Int) s c l st sk re fe ag pp s1 s2 pn1 sc1 2 sc2 m.last m.laps p1 p2 pn1 pc1 2 pc2 pp (some ⟨g1, 0, none⟩) (some ⟨g2, 0, none⟩) pn1 k1 2 k2 m.last m.laps _).mono (fun e w' h => (show e = .returned (.bool (agV ag m)) ∧ _ from h))).mono ?_
     rw [HBA.out]
     rintro e w8 ⟨rfl, hb8⟩
     have HF := Lib.hid (HF.out.below hb8)
     clear hb8
     dsimp only
     refine hK.out _ _ (HF.out.rg) (fun hHeld => ?_)
     clear hK K
     (try simp only [Act.put, List.setIfInBounds_toArray, List.set_cons_zero, List.set_cons_succ])
     refine wpAnyH_ready (rs := [7]) (by kernel_rfl) (by simp) ?_
     refine AllReadyH.cons rfl (fun K hK => ?_) AllReadyH.nil
     rw [if_pos (by rfl)]
     go_simp
     go_at_call 111
     refine ((nextM_any (P : Int) s c l st sk re fe ag pp s1 s2 pn1 sc1 2 sc2 m.last m.laps p1 p2 pn1 pc1 2 pc2 pp (some ⟨g1, 0, none⟩) (some ⟨g2, 0, none⟩) pn1 k1 2 k2 m.last m.laps _ Hpl.out).mono (fun e w' h => (show e = .returned (.agg #[.slice (some ⟨g1, 0, none⟩) pn1 k1, .slice (some ⟨g2, 0, none⟩) 2 k2, .int .i64 (nxV ag pp m)]) ∧ _ from h))).mono ?_
     rw [HNx.out]
     rintro e w9 ⟨rfl, hb9⟩
     have HF := Lib.hid (HF.out.below hb9)
     clear hb9
     dsimp only
     refine hK.out _ _ (HF.out.rg) (fun hHeld => ?_)
     clear hK K
     (try simp only [Act.put, List.setIfInBounds_toArray, List.set_cons_zero, List.set_cons_succ])
     refine wpAnyH_take (i := 8) (oi := { dst := some 36, op := Op.build 117 #[(0, Operand.tmp 29), (1, Operand.tmp 31), (2, Operand.tmp 33), (3, Operand.tmp 35)], type := 117, pos := "l07_moves.go:120", after := #[{ on := 1, ground := Ground.data }, { on := 3, ground := Ground.data }, { on := 5, ground := Ground.data }, { on := 7, ground := Ground.data }], guard := none }) (v := .agg #[.int .i64 (k : Int), .int .i64 gn, .bool bA, .slice (some ⟨g1, 0, none⟩) pn1 k1, .slice (some ⟨g2, 0, none⟩) 2 k2, .int .i64 nx]) rfl (by kernel_rfl) (by kernel_rfl) (by kernel_rfl) (fun _ _ _ h => h) (.inl ⟨by rfl, fun u hu => by go_simp⟩) hHeld ?_
     simp only [Act.put, List.setIfInBounds_toArray, List.set_cons_zero, List.set_cons_succ]
     refine wpAnyH_ready (rs := [9]) (by kernel_rfl) (by simp) ?_
     refine AllReadyH.cons rfl (fun K hK => ?_) AllReadyH.nil
     rw [if_pos (by rfl)]
     go_simp
     have HF1 := Lib.hid (HF.out.below (al1 w9 (.cells #[.int .i64 (k : Int), .int .i64 gn, .bool bA, .slice (some ⟨g1, 0, none⟩) pn1 k1, .slice (some ⟨g2, 0, none⟩) 2 k2, .int .i64 nx] 117)))
     have HRg := Lib.hid HF1.out.rg
     refine hK.out _ _ (HRg.out) (fun hHeld => ?_)
     clear hK K
     (try simp only [Act.put, List.setIfInBounds_toArray, List.set_cons_zero, List.set_cons_succ])
     have HL9 := Lib.hid (HL0.out.below HF.out.be)
     have hw9 : wr.heap.size ≤ w9.heap.size := HF.out.be.bel.size
     refine wpAnyH_ready (rs := [10]) (by kernel_rfl) (by simp) ?_
     refine AllReadyH.cons rfl (fun K hK => ?_) AllReadyH.nil
     refine step_append_lies _ rfl _ _ 147 rfl (w.heap.size + 2) 117 i0 (.agg #[.int .i64 0, .int .i64 0, .bool false, .slice none 0 0, .slice none 0 0, .int .i64 0]) 6 80 Tryz.underlying147 hi hz0 hz1 hz2 rfl (by decide) u6 L.length (flat7 L) rfl (own_keepS HL9.out.own (al1 _ _)) ⟨w9.heap.size, 0, none⟩ 1 1 [.int .i64 (k : Int), .int .i64 gn, .bool bA, .slice (some ⟨g1, 0, none⟩) pn1 k1, .slice (some ⟨g2, 0, none⟩) 2 k2, .int .i64 nx] rfl rfl (cells7_news w9 117 (⟨(k : Int), gn, bA, nx, [], []⟩, ⟨g1, g2, pn1, k1, k2⟩) w9.heap.size rfl) (cells7_one (⟨(k : Int), gn, bA, nx, [], []⟩, ⟨g1, g2, pn1, k1, k2⟩)) (by decide) (by unfold maxLen; omega) (by omega) (by have := HJ.out.rp.2.1.1; simp; omega) (w9.heap.size + 1) (by simp) ?_
     intro g cap w6 hown hgrow hat hlt6
     have e7 : cells7 (r7V c l (P : Int) pp ag ys (k : Int) m, ⟨g1, g2, pn1, k1, k2⟩) = [.int .i64 (k : Int), .int .i64 gn, .bool bA, .slice (some ⟨g1, 0, none⟩) pn1 k1, .slice (some ⟨g2, 0, none⟩) 2 k2, .int .i64 nx] := by
      show [Value.int .i64 (k : Int), .int .i64 (gnV c l (P : Int) pp ys m), .bool (agV ag m), .slice (some ⟨g1, 0, none⟩) pn1 k1, .slice (some ⟨g2, 0, none⟩) 2 k2, .int .i64 (nxV ag pp m)] = _
      rw [HGn.out, HBA.out, HNx.out]
     rw [← e7] at hown
     have hg1 := HF.out.ho.o1.new
     have hg2 := HF.out.ho.o2.new
     have hrp2 : w.heap.size + 2 ≤ wr.heap.size := HJ.out.rp.2.1.1
     have hIt : It7 w9 (w.heap.size + 2) (r7V c l (P : Int) pp ag ys (k : Int) m, ⟨g1, g2, pn1, k1, k2⟩) := ⟨HF.out.ho.lower hrp2, HF.out.l1, HF.out.l2, HF.out.h1, HF.out.h2⟩
     have hR6 := Rs7.snoc (H0 := wr.heap.size) HL9.out hIt (fun y hy => ⟨(HL0.out.it y hy).l1, (HL0.out.it y hy).l2⟩) (fun q hq => (own_lt HL0.out.own q hq).2) hg1 hg2 (al1 w9 (.cells #[.int .i64 (k : Int), .int .i64 gn, .bool bA, .slice (some ⟨g1, 0, none⟩) pn1 k1, .slice (some ⟨g2, 0, none⟩) 2 k2, .int .i64 nx] 117)) hown hgrow (by simpa using hat)
     have HJ : Hid (AiJ w (P : Int) s c l st sk re fe ag p1 p2 pn1 pc1 2 pc2 pp xs ys (k + 1) (.slice (some ⟨g, 0, none⟩) (L.length + 1) cap) w6) := Lib.hid ⟨⟨L ++ [(r7V c l (P : Int) pp ag ys (k : Int) m, ⟨g1, g2, pn1, k1, k2⟩)], hR6, by rw [List.map_append, HLm.out, HN.out]; rfl⟩, RpAt.grown ((HJ.out.rp.below HF.out.be).below (al1 w9 (.cells #[.int .i64 (k : Int), .int .i64 gn, .bool bA, .slice (some ⟨g1, 0, none⟩) pn1 k1, .slice (some ⟨g2, 0, none⟩) 2 k2, .int .i64 nx] 117))) hgrow (fun q hq => (own_lt HL0.out.own q hq).1)⟩
     have HRg6 := Lib.hid (range_grown HF1.out.rg HF1.out.lt hgrow (fun q hq => by have := (own_lt HL0.out.own q hq).2; omega))
     clear hown hgrow hat hlt6 hR6 hIt e7 HL9 HL0 HF HF1 HRg
     refine hK.out _ _ (HRg6.out) (fun hHeld => ?_)
     clear hK K
     (try simp only [Act.put, List.setIfInBounds_toArray])
     refine wpAnyH_ready (rs := [11]) (by kernel_rfl) (by simp) ?_
     refine AllReadyH.cons rfl (fun K hK => ?_) AllReadyH.nil
     rw [if_pos (by rfl)]
     go_simp
     refine hK.out _ _ (HRg6.out) (fun hHeld => ?_)
     clear hK K
     (try simp only [Act.put, List.setIfInBounds_toArray, List.set_cons_zero, List.set_cons_succ])
     refine wpAnyH_done (by kernel_rfl) ?_ _
     go_wp2_with fail
     go_roundw
     case rel => exact ⟨k + 1, by go_num, by omega, HJ.out⟩
     case measure => simp [intOf]; omega
  ·obtain rfl : k = P := by omega
   go_wp2_with fail
   go_ret2
   obtain ⟨L, hL, hm⟩ := HJ.out.ex
   exact ⟨_, L, rfl, hL.lower (Nat.le_add_right _ 2), hm, HJ.out.rp.2.2⟩
/- Lm7 -/
def RowC (n : Nat) (cd : Int) (xs : List Int) (w : World) (e : Ending) (w' : World) : Prop :=
 ∃ v, e = .returned (.tuple #[v, .int .i64 cd]) ∧ w'.ownsRow w.heap.size 2 1 v n (nvs xs) ∧ Below w.heap.size w w'
theorem Rs7.shape {u : World} {B : Nat} {v : Value} {L : List (R7 × Q7)} (h : Rs7 u B v L) : ∃ a cap, v = .slice a L.length cap ∧ (L ≠ [] → ∃ g, a = some ⟨g, 0, none⟩) := by
 obtain ⟨h1, ⟨rfl, hn⟩ | ⟨g, cap, cur, rfl, hb, hg, hr⟩⟩ := h.own
 ·exact ⟨none, 0, by rw [hn], fun hne => absurd (List.eq_nil_of_length_eq_zero hn) hne⟩
 ·exact ⟨_, cap, rfl, fun _ => ⟨g, rfl⟩⟩
def mvs (rs : List R7) : List Int := rs.map R7.mv
theorem mvs_take {L : List (R7 × Q7)} {k : Nat} {x : R7 × Q7} (h : L[k]? = some x) : mvs ((L.take (k + 1)).map Prod.fst) = mvs ((L.take k).map Prod.fst) ++ [x.1.mv] := by
 have hlt : k < L.length := (List.getElem?_eq_some_iff.1 h).1
 rw [List.take_add_one, h]
 simp [mvs]
theorem own_grown {u w' : World} {B B' e e' z z' n n' : Nat} {v x : Value} {xs ys : List Value} (h : u.ownsRow B e z v n xs) (hrow : u.ownsRow B' e' z' x n' ys) (he : e ≠ e') (hg : u.grownBy w' x.ownBlock) : w'.ownsRow B e z v n xs := by
 obtain ⟨h1, h2 | ⟨g, cap, cur, hv, hb, hh, hr⟩⟩ := h
 ·exact ⟨h1, .inl h2⟩
 ·refine ⟨h1, .inr ⟨g, cap, cur, hv, hb, ?_, hr⟩⟩
  rw [hg.block g (Array.getElem?_eq_some_iff.1 hh).1 ?_]
  ·exact hh
  ·intro e1
   obtain ⟨_, ⟨rfl, _⟩ | ⟨g', cap', cur', rfl, hb', hh', _⟩⟩ := hrow
   ·cases e1
   ·simp only [Value.ownBlock, Option.some.injEq] at e1
    subst e1
    rw [hh] at hh'
    simp only [Option.some.injEq, Obj.cells.injEq] at hh'
    exact he hh'.2.1
theorem own7_cell {u : World} {B g n cap : Nat} {L : List (R7 × Q7)} (h : u.ownsRow B 117 6 (.slice (some ⟨g, 0, none⟩) n cap) n (flat7 L)) (hn : L.length = n) {i : Nat} {x : R7 × Q7} (hi : L[i]? = some x) {o : Nat} (ho : o < 6) : u.cell? ⟨g, i * 6 + o, none⟩ = (cells7 x)[o]? := by
 obtain ⟨h1, ⟨e, -⟩ | ⟨g', cap', cur, hv, hb, hg, hn', hc, hs, ht⟩⟩ := h
 ·cases e
 ·simp only [Value.slice.injEq, Option.some.injEq, Addr.mk.injEq] at hv
  obtain ⟨⟨rfl, -⟩, -, rfl⟩ := hv
  have e := flat7_at L i x hi o ho
  rw [← ht, List.getElem?_take] at e
  have hL : i < L.length := (List.getElem?_eq_some_iff.1 hi).1
  rw [if_pos (by omega)] at e
  rw [← e]
  simp [World.cell?, hg]
structure LmJ (w : World) (L : List (R7 × Q7)) (v : Value) (k : Nat) (s : Value) (wr : World) : Prop where
 own : wr.ownsRow w.heap.size 117 6 v L.length (flat7 L)
 row : wr.ownsRow w.heap.size 2 1 s k (nvs (mvs ((L.take k).map Prod.fst)))
 be : Below w.heap.size w wr
theorem implLegal_no (p s c l : Int) (st sk re fe ag : Bool) (p1 p2 : Option Addr) (pn1 pc1 pn2 pc2 : Nat) (pp : Int) (xs ys : List Int) (w : World) (h : PosR w p1 p2 pn1 pn2 xs ys) (hk : okP (okR p s c l st ag) p pn1 pn2 pp xs ys = false) :
  Calls Tryz.prog 132 #[.agg #[.int .i64 p, .int .i64 s, .bool st, .bool sk, .bool re, .bool fe, .bool ag, .int .i64 c, .int .i64 l], .agg #[.slice p1 pn1 pc1, .slice p2 pn2 pc2, .int .i64 pp]] w (RowC 0 1 [] w) := by
 have HS := Lib.hid (rp_new p s c l st sk re fe ag p1 p2 pn1 pc1 pn2 pc2 pp w 32 33)
 have HC : Hid (∀ u, Below w.heap.size w u → Calls Tryz.prog 153 #[.agg #[.int .i64 p, .int .i64 s, .bool st, .bool sk, .bool re, .bool fe, .bool ag, .int .i64 c, .int .i64 l], .agg #[.slice p1 pn1 pc1, .slice p2 pn2 pc2, .int .i64 pp]] u fun e w' => e = .returned (.tuple #[.slice none 0 0, .int .i64 1]) ∧ Below u.heap.size u w') := Lib.hid (fun u hu => implRes_no p s c l st sk re fe ag p1 p2 pn1 pc1 pn2 pc2 pp xs ys u (h.below hu) hk)
 clear h hk
 go_enter Tryz.func132, Tryz.ntmps132
 go_wp2_with fail
 refine (HC.out _ HS.out.2.2).mono ?_
 rintro e w5 ⟨rfl, hb⟩
 have HS := Lib.hid (HS.out.below hb)
 clear hb
 go_wp2_with fail
 go_ret2
 exact ⟨_, rfl, World.ownsRow_nil _ _ _ _, HS.out.2.2⟩
theorem implLegal_yes (p s c l : Int) (st sk re fe ag : Bool) (p1 p2 : Option Addr) (pn1 pc1 pc2 : Nat) (pp : Int) (xs ys : List Int) (w : World) (h : PosR w p1 p2 pn1 2 xs ys) (hcap : pn1 ≤ pc1) (hk : okP (okR p s c l st ag) p pn1 2 pp xs ys = true) :
  Calls Tryz.prog 132 #[.agg #[.int .i64 p, .int .i64 s, .bool st, .bool sk, .bool re, .bool fe, .bool ag, .int .i64 c, .int .i64 l], .agg #[.slice p1 pn1 pc1, .slice p2 2 pc2, .int .i64 pp]] w (RowC (rsF (f7 p c l pp st sk re fe ag xs ys) p.toNat).length 0 (mvs (rsF (f7 p c l pp st sk re fe ag xs ys) p.toNat)) w) := by
 obtain ⟨q1, -⟩ := okP_parts hk
 obtain ⟨r1, r2, -⟩ := okR_bd q1
 have hlen := rsF_len (f7 p c l pp st sk re fe ag xs ys) p.toNat
 have HS := Lib.hid (rp_new p s c l st sk re fe ag p1 p2 pn1 pc1 2 pc2 pp w 32 33)
 have HC : Hid (∀ u, Below w.heap.size w u → Calls Tryz.prog 153 #[.agg #[.int .i64 p, .int .i64 s, .bool st, .bool sk, .bool re, .bool fe, .bool ag, .int .i64 c, .int .i64 l], .agg #[.slice p1 pn1 pc1, .slice p2 2 pc2, .int .i64 pp]] u (RsC (rsF (f7 p c l pp st sk re fe ag xs ys) p.toNat) u)) := Lib.hid (fun u hu => implRes_yes p s c l st sk re fe ag p1 p2 pn1 pc1 pc2 pp xs ys u (h.below hu) hcap hk)
 obtain ⟨i0, hi, hz0, hz1, hz2⟩ := info_parts infoN
 have hl8 : (rsF (f7 p c l pp st sk re fe ag xs ys) p.toNat).length ≤ 8 := by omega
 generalize rsF (f7 p c l pp st sk re fe ag xs ys) p.toNat = rs at *
 clear h hk q1 hcap hlen
 go_enter Tryz.func132, Tryz.ntmps132
 go_wp2_with fail
 refine (HC.out _ HS.out.2.2).mono ?_
 rintro e w5 ⟨v, L, rfl, hR, hLm, hb⟩
 obtain ⟨a, cap, rfl, hsh⟩ := hR.shape
 have hLn : L.length = rs.length := by rw [← hLm, List.length_map]
 have HLn := Lib.hid hLn
 have HLm := Lib.hid hLm
 have Hsh := Lib.hid hsh
 have hLk : L.length ≤ 8 := by omega
 have HJ0 : Hid (LmJ w L (.slice a L.length cap) 0 (.slice none 0 0) w5) := Lib.hid ⟨(hR.lower HS.out.2.2.size).own, World.ownsRow_nil _ _ _ _, Below.trans HS.out.2.2 (Below.mono hb HS.out.2.2.size)⟩
 have hw5 : w.heap.size + 2 ≤ w5.heap.size := Nat.le_trans HS.out.2.1.1 hb.size
 clear hb hR hLm hsh HS hLn
 generalize hN : L.length = N at *
 have HN := Lib.hid hN
 clear hN
 go_wp2_with fail
 go_loopw [8, 22] (fun sv i wr => ∃ k : Nat, i = .int .i64 k ∧ k ≤ N ∧ LmJ w L (.slice a N cap) k sv wr) (fun _ i _ => N - (intOf i).toNat)
 case atStart => exact ⟨0, rfl, Nat.zero_le _, HJ0.out⟩
 case round =>
  obtain ⟨k, rfl, hkN, hJ⟩ := hrel
  have HJ := Lib.hid hJ
  clear hJ HJ0
  by_cases hlt : k < N
  ·obtain ⟨x, hx⟩ : ∃ x, L[k]? = some x := ⟨L[k]'(by rw [HN.out]; exact hlt), List.getElem?_eq_getElem _⟩
   have Hx := Lib.hid hx
   obtain ⟨g, rfl⟩ := Hsh.out (by intro e; subst e; cases hx)
   have hno := HN.out
   have ho := HJ.out.own
   rw [hno] at ho
   have c0 := own7_cell ho hno hx (o := 0) (by omega)
   have c1 := own7_cell ho hno hx (o := 1) (by omega)
   have c2 := own7_cell ho hno hx (o := 2) (by omega)
   have c3 := own7_cell ho hno hx (o := 3) (by omega)
   have c4 := own7_cell ho hno hx (o := 4) (by omega)
   have c5 := own7_cell ho hno hx (o := 5) (by omega)
   simp only [cells7, Nat.add_zero, List.getElem?_cons_zero, List.getElem?_cons_succ] at c0 c1 c2 c3 c4 c5
   clear hx
   have k0 : (0 : Int) ≤ (k : Int) := by omega
   have k1 : (k : Int) < (N : Int) := by omega
   clear ho hno
   have hwr : w.heap.size ≤ wr.heap.size := HJ.out.be.size
   have hbA : Below wr.heap.size wr ((wr.alloc (.cells #[.int .i64 x.1.mv, .int .i64 x.1.gn, .bool x.1.ag, .slice (some ⟨x.2.g1, 0, none⟩) x.2.n1 x.2.k1, .slice (some ⟨x.2.g2, 0, none⟩) 2 x.2.k2, .int .i64 x.1.nx] 117)).alloc (.cells #[.int .i64 x.1.mv] 2)) := Below.alloc (al1 _ _) (by simp) _
   have HbA := Lib.hid hbA
   clear hbA
   go_wp2_with (at_builtin; refine wpList_append_own _ rfl _ _ 24 rfl w.heap.size 2 i0 (.int .i64 0) 1 8 Tryz.underlying24 hi hz0 hz1 hz2 rfl (by decide) u8 k (nvs (mvs ((L.take k).map Prod.fst))) rfl (own_keep HJ.out.row HbA.out) ⟨_, 0, none⟩ 1 1 (nvs [x.1.mv]) rfl (by simp [nvs]) (row_news (show RowN _ (some ⟨wr.heap.size + 1, 0, none⟩) [x.1.mv] from by have h := row_1 (wr.alloc (.cells #[.int .i64 x.1.mv, .int .i64 x.1.gn, .bool x.1.ag, .slice (some ⟨x.2.g1, 0, none⟩) x.2.n1 x.2.k1, .slice (some ⟨x.2.g2, 0, none⟩) 2 x.2.k2, .int .i64 x.1.nx] 117)) x.1.mv 2; rw [World.size_alloc] at h; exact h)) (nvs_cell _) (by unfold maxLen; omega) (by omega) (by simp; omega) ?_; intro v1 w3 hown1 hgrow1 hnil1)
   have HJ : Hid (LmJ w L (.slice (some ⟨g, 0, none⟩) N cap) (k + 1) v1 w3) := Lib.hid ⟨own_grown (own_keepS HJ.out.own HbA.out) (own_keep HJ.out.row HbA.out) (by decide) hgrow1, by rw [mvs_take Hx.out, nvs_app]; exact hown1, Below.grown (Below.trans HJ.out.be (Below.mono HbA.out hwr)) hgrow1 (by simp; omega) (fun q hq => (own_lt HJ.out.row q hq).1)⟩
   clear hown1 hgrow1 hnil1 c0 c1 c2 c3 c4 c5
   go_wp2_with fail
   go_roundw
   case rel => exact ⟨k + 1, by go_num, by omega, HJ.out⟩
   case measure => simp [intOf]; omega
  ·obtain rfl : k = N := by omega
   have k1 : ¬ (k : Int) < (k : Int) := by omega
   go_wp2_with fail
   go_ret2
   have hr := HJ.out.row
   rw [List.take_of_length_le (Nat.le_of_eq HN.out), HLm.out] at hr
   rw [← HLn.out]
   exact ⟨_, rfl, hr, HJ.out.be⟩
theorem implCan_any (p s c l : Int) (st sk re fe ag : Bool) (p1 p2 : Option Addr) (pn1 pc1 pn2 pc2 : Nat) (pp : Int) (xs ys : List Int) (w : World) (h : PosR w p1 p2 pn1 pn2 xs ys) (hcap : pn1 ≤ pc1) (k : Bool) (hk : okP (okR p s c l st ag) p pn1 pn2 pp xs ys = k) :
  Calls Tryz.prog 102 #[.agg #[.int .i64 p, .int .i64 s, .bool st, .bool sk, .bool re, .bool fe, .bool ag, .int .i64 c, .int .i64 l], .agg #[.slice p1 pn1 pc1, .slice p2 pn2 pc2, .int .i64 pp]] w fun e w' => e = .returned (.bool (k && decide (0 < (rsF (f7 p c l pp st sk re fe ag xs ys) p.toNat).length))) ∧ Below w.heap.size w w' := by
 have HS := Lib.hid (rp_new p s c l st sk re fe ag p1 p2 pn1 pc1 pn2 pc2 pp w 32 33)
 obtain ⟨n, cd, L, hn, hC⟩ : ∃ (n : Nat) (cd : Int) (L : List Int), (k && decide (0 < (rsF (f7 p c l pp st sk re fe ag xs ys) p.toNat).length)) = decide (0 < n) ∧ ∀ u, Below w.heap.size w u → Calls Tryz.prog 132 #[.agg #[.int .i64 p, .int .i64 s, .bool st, .bool sk, .bool re, .bool fe, .bool ag, .int .i64 c, .int .i64 l], .agg #[.slice p1 pn1 pc1, .slice p2 pn2 pc2, .int .i64 pp]] u (RowC n cd L u) := by
  cases k with
  | false => exact ⟨0, 1, [], rfl, fun u hu => implLegal_no p s c l st sk re fe ag p1 p2 pn1 pc1 pn2 pc2 pp xs ys u (h.below hu) hk⟩
  | true =>
   obtain ⟨rfl, -⟩ := pl_of_ok hk
   exact ⟨_, 0, _, rfl, fun u hu => implLegal_yes p s c l st sk re fe ag p1 p2 pn1 pc1 pc2 pp xs ys u (h.below hu) hcap hk⟩
 rw [hn]
 have HC := Lib.hid hC
 clear h hk hC hcap hn
 go_enter Tryz.func102, Tryz.ntmps102
 go_wp2_with fail
 refine (HC.out _ HS.out.2.2).mono ?_
 rintro e w5 ⟨v, rfl, hown, hb⟩
 obtain ⟨a, cap, rfl⟩ : ∃ a cap, v = .slice a n cap := by
  obtain ⟨h1, ⟨rfl, hn⟩ | ⟨g, cap, cur, rfl, hb, hg, hr⟩⟩ := hown
  ·exact ⟨none, 0, by rw [hn]⟩
  ·exact ⟨_, cap, rfl⟩
 have HS := Lib.hid (HS.out.below hb)
 clear hb hown
 go_wp2_with fail
 go_ret
 exact ⟨by simp, HS.out.2.2⟩
/- LmS -/
theorem specCan_any (p s c l : Int) (st sk re fe ag : Bool) (p1 p2 : Option Addr) (pn1 pc1 pn2 pc2 : Nat) (pp : Int) (xs ys : List Int) (w : World) (h : PosR w p1 p2 pn1 pn2 xs ys) (k : Bool) (hk : okP (okR p s c l st ag) p pn1 pn2 pp xs ys = k) :
  Calls Tryz.prog 99 #[.agg #[.int .i64 p, .int .i64 s, .bool st, .bool sk, .bool re, .bool fe, .bool ag, .int .i64 c, .int .i64 l], .agg #[.slice p1 pn1 pc1, .slice p2 pn2 pc2, .int .i64 pp]] w fun e w' => e = .returned (.bool (k && decide (0 < (rsF (f7 p c l pp st sk re fe ag xs ys) p.toNat).length))) ∧ Below w.heap.size w w' := by
 have HS := Lib.hid (rp_new p s c l st sk re fe ag p1 p2 pn1 pc1 pn2 pc2 pp w 32 33)
 have HK : Hid (∀ u, RpAt w p s c l st sk re fe ag p1 p2 pn1 pc1 pn2 pc2 pp u → Calls Tryz.prog 90 #[.pointer (some ⟨w.heap.size, 0, none⟩), .pointer (some ⟨w.heap.size + 1, 0, none⟩)] u (Still (.bool k) u)) := Lib.hid (fun u hu => l04Ok_at p s c l st sk re fe ag p1 p2 pn1 pc1 pn2 pc2 pp xs ys _ _ u hu.1 hu.2.1 (h.below hu.2.2) _ hk)
 have HC : Hid (k = true → ∀ u, RpAt w p s c l st sk re fe ag p1 p2 pn1 pc1 pn2 pc2 pp u → Calls Tryz.prog 131 #[.pointer (some ⟨w.heap.size, 0, none⟩), .pointer (some ⟨w.heap.size + 1, 0, none⟩)] u (RsP (rsF (f7 p c l pp st sk re fe ag xs ys) p.toNat) u)) := Lib.hid (fun hkt u hu => l07All_any p s c l st sk re fe ag p1 p2 pn1 pc1 pn2 pc2 pp xs ys _ _ u hu.1 hu.2.1 (h.below hu.2.2) (hk.trans hkt))
 generalize rsF (f7 p c l pp st sk re fe ag xs ys) p.toNat = rs at *
 clear h hk
 go_enter Tryz.func99, Tryz.ntmps99
 go_wp2_with fail
 refine (HK.out _ HS.out).mono ?_
 rintro e w4 ⟨rfl, m, rfl⟩
 have HS := Lib.hid (HS.out.below (below_dn (Below.refl _ _) m))
 cases k with
 | false =>
  go_wp2_with fail
  go_ret
  exact ⟨rfl, HS.out.2.2⟩
 | true =>
  have HC2 : Hid (∀ u, RpAt w p s c l st sk re fe ag p1 p2 pn1 pc1 pn2 pc2 pp u → Calls Tryz.prog 131 #[.pointer (some ⟨w.heap.size, 0, none⟩), .pointer (some ⟨w.heap.size + 1, 0, none⟩)] u (RsP rs u)) := Lib.hid (HC.out rfl)
  clear HC
  go_wp2_with fail
  refine (HC2.out _ HS.out).mono ?_
  rintro e w5 ⟨v, L, rfl, hR, hLm, hb⟩
  obtain ⟨a, cap, rfl, -⟩ := hR.shape
  have HLn : Hid (L.length = rs.length) := Lib.hid (by rw [← hLm, List.length_map])
  have HS := Lib.hid (HS.out.below hb)
  clear hb hR hLm
  go_wp2_with fail
  go_ret
  exact ⟨by rw [← HLn.out]; simp, HS.out.2.2⟩
/- EndF -/
def canB (p s c l : Int) (st sk re fe ag : Bool) (pp : Int) (xs ys : List Int) : Bool := decide (0 < (rsF (f7 p c l pp st sk re fe ag xs ys) p.toNat).length)
def endV (rg mj : Int) (can : Bool) (rep : Int) (n : Nat) : Int := if rg = -1 then (if mj = -1 then (if can = true then (if rep < 3 then (if n < 120 then 0 else 5) else 4) else 3) else 2) else 1
def majQ (nx ny : List Int) : Int := majV (tot nx + tot ny) (ny.getD 0 0) (ny.getD 1 0)
def endG (p s c l : Int) (st sk re fe ag : Bool) (pp : Int) (xs ys ms : List Int) (bp : Int) (nx ny : List Int) (rg : Int) : Int := endV rg (majQ nx ny) (canB p s c l st sk re fe ag bp nx ny) (repV (stp p c l st sk re fe ag) ⟨pp, xs, ys⟩ ms bp nx ny) ms.length
theorem maj_in (t y0 y1 : Int) : majV t y0 y1 = -1 ∨ majV t y0 y1 = 0 ∨ majV t y0 y1 = 1 := by
 unfold majV
 split
 ·exact .inr (.inl rfl)
 ·split
  ·exact .inr (.inr rfl)
  ·exact .inl rfl
theorem majQ_two (nx : List Int) (y0 y1 : Int) : majQ nx [y0, y1] = majV (tot nx + (y0 + y1)) y0 y1 := by
 unfold majQ
 rw [tot2]
 rfl
theorem okNow {p s c l : Int} {st sk re fe ag : Bool} {n1 n2 m1 m2 : Nat} {pp : Int} {xs ys ms : List Int} {bp : Int} {nx ny : List Int} {rg : Int} (h : okG p s c l st sk re fe ag n1 n2 pp xs ys ms bp nx ny rg = true) (l1 : xs.length = n1) (l2 : ys.length = n2) (l3 : nx.length = m1) (l4 : ny.length = m2) :
  okP (okR p s c l st ag) p m1 m2 bp nx ny = true ∧ m1 = n1 ∧ m2 = 2 ∧ n2 = 2 := by
 obtain ⟨hk, -, -, rs, hro, e1, e2, e3⟩ := okG_parts h
 obtain ⟨-, -, e4, -, -⟩ := okP_parts hk
 subst e4
 have hq := run_ok (show OkQ p s c l st ag n1 ⟨pp, xs, ys⟩ from ⟨hk, l1, l2⟩) hro
 have h1 := hq.ok
 have h2 := hq.l1
 have h3 := hq.l2
 rw [e1] at h1 h2
 rw [e2] at h1 h3
 rw [e3] at h1
 obtain rfl : m1 = n1 := l3.symm.trans h2
 obtain rfl : m2 = 2 := l4.symm.trans h3
 exact ⟨h1, rfl, rfl, rfl⟩
theorem l09End_any (Jp Js Jc Jl : Int) (Jst Jsk Jre Jfe Jag : Bool) (Ja1 Ja2 : Option Addr) (Jan1 Jac1 Jan2 Jac2 : Nat) (Jap : Int) (Jm : Option Addr) (Jmn Jmc : Nat) (Jb1 Jb2 : Option Addr) (Jbn1 Jbc1 Jbn2 Jbc2 : Nat) (Jbp Jrg : Int) (sx sy ms nx ny : List Int) (gb : Nat) (w : World) (hg : GmAt w gb Jp Js Jc Jl Jst Jsk Jre Jfe Jag Ja1 Ja2 Jan1 Jac1 Jan2 Jac2 Jap Jm Jmn Jmc Jb1 Jb2 Jbn1 Jbc1 Jbn2 Jbc2 Jbp Jrg) (h : GamR w Ja1 Ja2 Jan1 Jan2 Jm Jmn Jb1 Jb2 Jbn1 Jbn2 sx sy ms nx ny) (hok : okG Jp Js Jc Jl Jst Jsk Jre Jfe Jag Jan1 Jan2 Jap sx sy ms Jbp nx ny Jrg = true) :
  Calls Tryz.prog 55 #[.pointer (some ⟨gb, 0, none⟩)] w (BelP (.int .i64 (endG Jp Js Jc Jl Jst Jsk Jre Jfe Jag Jap sx sy ms Jbp nx ny Jrg)) w) := by
 obtain ⟨hn, -⟩ := okNow hok h.s.l1 h.s.l2 h.n.l1 h.n.l2
 obtain ⟨y0, y1, rfl, -, hs, -⟩ := ok9 hn h.n.l2
 have HS := Lib.hid (show GmB w gb Jp Js Jc Jl Jst Jsk Jre Jfe Jag Ja1 Ja2 Jan1 Jac1 Jan2 Jac2 Jap Jm Jmn Jmc Jb1 Jb2 Jbn1 Jbc1 Jbn2 Jbc2 Jbp Jrg w from ⟨hg, Below.refl _ _⟩)
 obtain ⟨-, -, ⟨hr1, hr2⟩, -⟩ := okG_parts hok
 have HMj : Hid (∀ u, GmB w gb Jp Js Jc Jl Jst Jsk Jre Jfe Jag Ja1 Ja2 Jan1 Jac1 Jan2 Jac2 Jap Jm Jmn Jmc Jb1 Jb2 Jbn1 Jbc1 Jbn2 Jbc2 Jbp Jrg u → Calls Tryz.prog 98 #[.pointer (some ⟨gb, 13, none⟩)] u (Still (.int .i64 (majQ nx [y0, y1])) u)) := Lib.hid (fun u hu => by rw [majQ_two]; exact l09Maj13_any Jb1 Jb2 Jbn1 Jbc1 Jbn2 Jbc2 Jbp nx y0 y1 gb u hu.1.p13 (h.n.below hu.2) hs)
 have HCn : Hid (∀ u, GmB w gb Jp Js Jc Jl Jst Jsk Jre Jfe Jag Ja1 Ja2 Jan1 Jac1 Jan2 Jac2 Jap Jm Jmn Jmc Jb1 Jb2 Jbn1 Jbc1 Jbn2 Jbc2 Jbp Jrg u → Calls Tryz.prog 99 #[.agg #[.int .i64 Jp, .int .i64 Js, .bool Jst, .bool Jsk, .bool Jre, .bool Jfe, .bool Jag, .int .i64 Jc, .int .i64 Jl], .agg #[.slice Jb1 Jbn1 Jbc1, .slice Jb2 Jbn2 Jbc2, .int .i64 Jbp]] u fun e w' => e = .returned (.bool (canB Jp Js Jc Jl Jst Jsk Jre Jfe Jag Jbp nx [y0, y1])) ∧ Below u.heap.size u w') := Lib.hid (fun u hu => specCan_any Jp Js Jc Jl Jst Jsk Jre Jfe Jag Jb1 Jb2 Jbn1 Jbc1 Jbn2 Jbc2 Jbp nx [y0, y1] u (h.n.below hu.2) true hn)
 have HRp : Hid (∀ u, GmB w gb Jp Js Jc Jl Jst Jsk Jre Jfe Jag Ja1 Ja2 Jan1 Jac1 Jan2 Jac2 Jap Jm Jmn Jmc Jb1 Jb2 Jbn1 Jbc1 Jbn2 Jbc2 Jbp Jrg u → Calls Tryz.prog 100 #[.pointer (some ⟨gb, 0, none⟩)] u (BelP (.int .i64 (repV (stp Jp Jc Jl Jst Jsk Jre Jfe Jag) ⟨Jap, sx, sy⟩ ms Jbp nx [y0, y1])) u)) := Lib.hid (fun u hu => l08Rep_any Jp Js Jc Jl Jst Jsk Jre Jfe Jag Ja1 Ja2 Jan1 Jac1 Jan2 Jac2 Jap Jm Jmn Jmc Jb1 Jb2 Jbn1 Jbc1 Jbn2 Jbc2 Jbp Jrg sx sy ms nx [y0, y1] gb u hu.1 (h.below hu.2) hok)
 have hlm := h.lm
 have hmj := maj_in (tot nx + tot [y0, y1]) ([y0, y1].getD 0 0) ([y0, y1].getD 1 0)
 unfold endG
 rw [show majV (tot nx + tot [y0, y1]) ([y0, y1].getD 0 0) ([y0, y1].getD 1 0) = majQ nx [y0, y1] from rfl] at hmj
 rw [hlm]
 generalize majQ nx [y0, y1] = mj at *
 generalize canB Jp Js Jc Jl Jst Jsk Jre Jfe Jag Jbp nx [y0, y1] = can at *
 generalize repV (stp Jp Jc Jl Jst Jsk Jre Jfe Jag) ⟨Jap, sx, sy⟩ ms Jbp nx [y0, y1] = rep at *
 have HTT : Hid (∀ u : World, GmB w gb Jp Js Jc Jl Jst Jsk Jre Jfe Jag Ja1 Ja2 Jan1 Jac1 Jan2 Jac2 Jap Jm Jmn Jmc Jb1 Jb2 Jbn1 Jbc1 Jbn2 Jbc2 Jbp Jrg u → (gb < u.heap.size ∧ u.cell? ⟨gb, 0, none⟩ = some (.int .i64 Jp) ∧ u.cell? ⟨gb, 1, none⟩ = some (.int .i64 Js) ∧ u.cell? ⟨gb, 2, none⟩ = some (.bool Jst) ∧ u.cell? ⟨gb, 3, none⟩ = some (.bool Jsk) ∧ u.cell? ⟨gb, 4, none⟩ = some (.bool Jre) ∧ u.cell? ⟨gb, 5, none⟩ = some (.bool Jfe) ∧ u.cell? ⟨gb, 6, none⟩ = some (.bool Jag) ∧ u.cell? ⟨gb, 7, none⟩ = some (.int .i64 Jc) ∧ u.cell? ⟨gb, 8, none⟩ = some (.int .i64 Jl) ∧ u.cell? ⟨gb, 9, none⟩ = some (.slice Ja1 Jan1 Jac1) ∧ u.cell? ⟨gb, 10, none⟩ = some (.slice Ja2 Jan2 Jac2) ∧ u.cell? ⟨gb, 11, none⟩ = some (.int .i64 Jap) ∧ u.cell? ⟨gb, 12, none⟩ = some (.slice Jm Jmn Jmc) ∧ u.cell? ⟨gb, 13, none⟩ = some (.slice Jb1 Jbn1 Jbc1) ∧ u.cell? ⟨gb, 14, none⟩ = some (.slice Jb2 Jbn2 Jbc2) ∧ u.cell? ⟨gb, 15, none⟩ = some (.int .i64 Jbp) ∧ u.cell? ⟨gb, 16, none⟩ = some (.int .i64 Jrg)) ∧ Below w.heap.size w u) := Lib.hid (fun u h => h)
 clear hok hn hs h hg hlm
 obtain ⟨_, m0, m1, m2, m3, m4, m5, m6, m7, m8, m9, m10, m11, m12, m13, m14, m15, m16⟩ := HS.out.1
 by_cases h0 : 0 ≤ Jrg
 ·have e : endV Jrg mj can rep Jmn = 1 := by unfold endV; rw [if_neg (by omega)]
  rw [e]
  clear e
  go_enter Tryz.func55, Tryz.ntmps55
  go_wp2_with fail
  go_ret
  exact ⟨rfl, HS.out.2⟩
 ·have hrm : Jrg = -1 := by omega
  rcases (show 0 ≤ mj ∨ mj = -1 by omega) with h1 | rfl
  ·have e : endV Jrg mj can rep Jmn = 2 := by unfold endV; rw [if_pos hrm, if_neg (by omega)]
   rw [e]
   clear e
   go_enter Tryz.func55, Tryz.ntmps55
   go_wp2_with fail
   refine (HMj.out _ HS.out).mono ?_
   rintro e u ⟨rfl, m, hm⟩
   have HS := Lib.hid (show GmB w gb Jp Js Jc Jl Jst Jsk Jre Jfe Jag Ja1 Ja2 Jan1 Jac1 Jan2 Jac2 Jap Jm Jmn Jmc Jb1 Jb2 Jbn1 Jbc1 Jbn2 Jbc2 Jbp Jrg u from hm ▸ HS.out.below (below_dn (Below.refl _ _) m))
   clear hm
   go_wp2_with fail
   go_ret
   exact ⟨rfl, HS.out.2⟩
  ·rcases can with _ | _
   ·have e : endV Jrg (-1) false rep Jmn = 3 := by rw [hrm]; rfl
    rw [e]
    clear e
    go_enter Tryz.func55, Tryz.ntmps55
    go_wp2_with fail
    refine (HMj.out _ HS.out).mono ?_
    rintro e u ⟨rfl, m, hm⟩
    have HS := Lib.hid (show GmB w gb Jp Js Jc Jl Jst Jsk Jre Jfe Jag Ja1 Ja2 Jan1 Jac1 Jan2 Jac2 Jap Jm Jmn Jmc Jb1 Jb2 Jbn1 Jbc1 Jbn2 Jbc2 Jbp Jrg u from hm ▸ HS.out.below (below_dn (Below.refl _ _) m))
    clear hm m0 m1 m2 m3 m4 m5 m6 m7 m8 m9 m10 m11 m12 m13 m14 m15 m16
    go_wp2_with fail
    go_region_held3 (fun u => (gb < u.heap.size ∧ u.cell? ⟨gb, 0, none⟩ = some (.int .i64 Jp) ∧ u.cell? ⟨gb, 1, none⟩ = some (.int .i64 Js) ∧ u.cell? ⟨gb, 2, none⟩ = some (.bool Jst) ∧ u.cell? ⟨gb, 3, none⟩ = some (.bool Jsk) ∧ u.cell? ⟨gb, 4, none⟩ = some (.bool Jre) ∧ u.cell? ⟨gb, 5, none⟩ = some (.bool Jfe) ∧ u.cell? ⟨gb, 6, none⟩ = some (.bool Jag) ∧ u.cell? ⟨gb, 7, none⟩ = some (.int .i64 Jc) ∧ u.cell? ⟨gb, 8, none⟩ = some (.int .i64 Jl) ∧ u.cell? ⟨gb, 9, none⟩ = some (.slice Ja1 Jan1 Jac1) ∧ u.cell? ⟨gb, 10, none⟩ = some (.slice Ja2 Jan2 Jac2) ∧ u.cell? ⟨gb, 11, none⟩ = some (.int .i64 Jap) ∧ u.cell? ⟨gb, 12, none⟩ = some (.slice Jm Jmn Jmc) ∧ u.cell? ⟨gb, 13, none⟩ = some (.slice Jb1 Jbn1 Jbc1) ∧ u.cell? ⟨gb, 14, none⟩ = some (.slice Jb2 Jbn2 Jbc2) ∧ u.cell? ⟨gb, 15, none⟩ = some (.int .i64 Jbp) ∧ u.cell? ⟨gb, 16, none⟩ = some (.int .i64 Jrg)) ∧ Below w.heap.size w u) (first | with_reducible exact HTT.out _ HS.out | with_reducible exact HTT.out _ HS.out.drew)
     ((go_at_call 99; (with_reducible refine (HCn.out _ ?_).mono ?_); (first | with_reducible exact HS.out | with_reducible exact HS.out.drew); rintro e w6 ⟨rfl, hb⟩; (first | with_reducible have HS := Lib.hid (HS.out.below hb) | with_reducible have HS := Lib.hid (HS.out.drew.below hb)); clear hb))
    go_wp2_with fail
    go_ret
    exact ⟨rfl, by first | exact HS.out.2 | exact below_dn HS.out.2 _⟩
   ·by_cases h3 : 3 ≤ rep
    ·have e : endV Jrg (-1) true rep Jmn = 4 := by unfold endV; rw [if_pos hrm, if_pos rfl, if_pos rfl, if_neg (by omega)]
     rw [e]
     clear e
     go_enter Tryz.func55, Tryz.ntmps55
     go_wp2_with fail
     refine (HMj.out _ HS.out).mono ?_
     rintro e u ⟨rfl, m, hm⟩
     have HS := Lib.hid (show GmB w gb Jp Js Jc Jl Jst Jsk Jre Jfe Jag Ja1 Ja2 Jan1 Jac1 Jan2 Jac2 Jap Jm Jmn Jmc Jb1 Jb2 Jbn1 Jbc1 Jbn2 Jbc2 Jbp Jrg u from hm ▸ HS.out.below (below_dn (Below.refl _ _) m))
     clear hm m0 m1 m2 m3 m4 m5 m6 m7 m8 m9 m10 m11 m12 m13 m14 m15 m16
     go_wp2_with fail
     go_region_held3 (fun u => (gb < u.heap.size ∧ u.cell? ⟨gb, 0, none⟩ = some (.int .i64 Jp) ∧ u.cell? ⟨gb, 1, none⟩ = some (.int .i64 Js) ∧ u.cell? ⟨gb, 2, none⟩ = some (.bool Jst) ∧ u.cell? ⟨gb, 3, none⟩ = some (.bool Jsk) ∧ u.cell? ⟨gb, 4, none⟩ = some (.bool Jre) ∧ u.cell? ⟨gb, 5, none⟩ = some (.bool Jfe) ∧ u.cell? ⟨gb, 6, none⟩ = some (.bool Jag) ∧ u.cell? ⟨gb, 7, none⟩ = some (.int .i64 Jc) ∧ u.cell? ⟨gb, 8, none⟩ = some (.int .i64 Jl) ∧ u.cell? ⟨gb, 9, none⟩ = some (.slice Ja1 Jan1 Jac1) ∧ u.cell? ⟨gb, 10, none⟩ = some (.slice Ja2 Jan2 Jac2) ∧ u.cell? ⟨gb, 11, none⟩ = some (.int .i64 Jap) ∧ u.cell? ⟨gb, 12, none⟩ = some (.slice Jm Jmn Jmc) ∧ u.cell? ⟨gb, 13, none⟩ = some (.slice Jb1 Jbn1 Jbc1) ∧ u.cell? ⟨gb, 14, none⟩ = some (.slice Jb2 Jbn2 Jbc2) ∧ u.cell? ⟨gb, 15, none⟩ = some (.int .i64 Jbp) ∧ u.cell? ⟨gb, 16, none⟩ = some (.int .i64 Jrg)) ∧ Below w.heap.size w u) (first | with_reducible exact HTT.out _ HS.out | with_reducible exact HTT.out _ HS.out.drew)
      ((go_at_call 99; (with_reducible refine (HCn.out _ ?_).mono ?_); (first | with_reducible exact HS.out | with_reducible exact HS.out.drew); rintro e w6 ⟨rfl, hb⟩; (first | with_reducible have HS := Lib.hid (HS.out.below hb) | with_reducible have HS := Lib.hid (HS.out.drew.below hb)); clear hb))
     go_wp2_with fail
     refine (HRp.out _ (by first | exact HS.out | exact HS.out.drew)).mono ?_
     rintro e u8 ⟨rfl, hb⟩
     have HS := Lib.hid (HS.out.below hb)
     clear hb
     go_wp2_with fail
     go_ret
     exact ⟨rfl, by first | exact HS.out.2 | exact below_dn HS.out.2 _⟩
    ·obtain ⟨en, hen⟩ : ∃ en, endV Jrg (-1) true rep Jmn = en := ⟨_, rfl⟩
     rw [hen]
     have Hen := Lib.hid hen
     clear hen
     go_enter Tryz.func55, Tryz.ntmps55
     go_wp2_with fail
     refine (HMj.out _ HS.out).mono ?_
     rintro e u ⟨rfl, m, hm⟩
     have HS := Lib.hid (show GmB w gb Jp Js Jc Jl Jst Jsk Jre Jfe Jag Ja1 Ja2 Jan1 Jac1 Jan2 Jac2 Jap Jm Jmn Jmc Jb1 Jb2 Jbn1 Jbc1 Jbn2 Jbc2 Jbp Jrg u from hm ▸ HS.out.below (below_dn (Below.refl _ _) m))
     clear hm m0 m1 m2 m3 m4 m5 m6 m7 m8 m9 m10 m11 m12 m13 m14 m15 m16
     go_wp2_with fail
     go_region_held3 (fun u => (gb < u.heap.size ∧ u.cell? ⟨gb, 0, none⟩ = some (.int .i64 Jp) ∧ u.cell? ⟨gb, 1, none⟩ = some (.int .i64 Js) ∧ u.cell? ⟨gb, 2, none⟩ = some (.bool Jst) ∧ u.cell? ⟨gb, 3, none⟩ = some (.bool Jsk) ∧ u.cell? ⟨gb, 4, none⟩ = some (.bool Jre) ∧ u.cell? ⟨gb, 5, none⟩ = some (.bool Jfe) ∧ u.cell? ⟨gb, 6, none⟩ = some (.bool Jag) ∧ u.cell? ⟨gb, 7, none⟩ = some (.int .i64 Jc) ∧ u.cell? ⟨gb, 8, none⟩ = some (.int .i64 Jl) ∧ u.cell? ⟨gb, 9, none⟩ = some (.slice Ja1 Jan1 Jac1) ∧ u.cell? ⟨gb, 10, none⟩ = some (.slice Ja2 Jan2 Jac2) ∧ u.cell? ⟨gb, 11, none⟩ = some (.int .i64 Jap) ∧ u.cell? ⟨gb, 12, none⟩ = some (.slice Jm Jmn Jmc) ∧ u.cell? ⟨gb, 13, none⟩ = some (.slice Jb1 Jbn1 Jbc1) ∧ u.cell? ⟨gb, 14, none⟩ = some (.slice Jb2 Jbn2 Jbc2) ∧ u.cell? ⟨gb, 15, none⟩ = some (.int .i64 Jbp) ∧ u.cell? ⟨gb, 16, none⟩ = some (.int .i64 Jrg)) ∧ Below w.heap.size w u) (first | with_reducible exact HTT.out _ HS.out | with_reducible exact HTT.out _ HS.out.drew)
      ((go_at_call 99; (with_reducible refine (HCn.out _ ?_).mono ?_); (first | with_reducible exact HS.out | with_reducible exact HS.out.drew); rintro e w6 ⟨rfl, hb⟩; (first | with_reducible have HS := Lib.hid (HS.out.below hb) | with_reducible have HS := Lib.hid (HS.out.drew.below hb)); clear hb))
     go_wp2_with fail
     refine (HRp.out _ (by first | exact HS.out | exact HS.out.drew)).mono ?_
     rintro e u8 ⟨rfl, hb⟩
     have HS := Lib.hid (HS.out.below hb)
     clear hb
     obtain ⟨_, -, -, -, -, -, -, -, -, -, -, -, -, m12, -⟩ := HS.out.1
     by_cases h5 : (120 : Int) ≤ (Jmn : Int)
     ·obtain rfl : en = 5 := by rw [← Hen.out]; unfold endV; rw [if_pos hrm, if_pos rfl, if_pos rfl, if_pos (by omega), if_neg (by omega)]
      go_wp2_with fail
      go_ret
      exact ⟨rfl, by first | exact HS.out.2 | exact below_dn HS.out.2 _⟩
     ·obtain rfl : en = 0 := by rw [← Hen.out]; unfold endV; rw [if_pos hrm, if_pos rfl, if_pos rfl, if_pos (by omega), if_pos (by omega)]
      go_wp2_with fail
      go_ret
      exact ⟨rfl, by first | exact HS.out.2 | exact below_dn HS.out.2 _⟩
end Go.Proofs.YtgbaneildbdgdaaGreat
